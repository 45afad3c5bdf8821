/-
  LineAttained: the law's walk.
-/
import Derived.Test.YtdndhfggdjphjaaAlive
import Derived.Test.YtdndhfggdjphjaaCons
import Derived.Test.YtdndhfggdjphjaaKeptL
set_option linter.unusedVariables false
set_option linter.unusedSimpArgs false
namespace Go.Proofs.Ytdndhfggdjphjaa
open Go.RowKit Go.Shelf

section
variable (N : Int) (A : Option Addr) (c : Nat) (bs : List Ln.Bd) (p v : Int) (w : World) (hR : Rd w w.heap.size 4 A bs.length (bcells bs)) (hn : bs.length ≤ 9223372036854775807)

set_option maxRecDepth 100000 in
set_option maxHeartbeats 1000000 in
include hR hn in
theorem attained_early (h : Ln.fewF N bs.length 14 40 = false ∨ v < -1000000 ∨ 1000000 < v) :
    Calls Try.prog 6 #[.agg #[.int .i64 N, .slice A bs.length c], .int .i64 p, .int .i64 v] w fun e w' => e = .returned (.bool true) ∧ Below w.heap.size w w' := by
  have s0 := Sy.new (w := w) N c hR
  rcases hf : Ln.fewF N bs.length 14 40 with _ | _
  · have HF := Lib.hid hf
    clear hf h
    go_enter Try.func6, Try.ntmps6
    go_wp2_with fail
    refine (some_law N A bs.length c hn _).mono ?_
    rw [HF.out]
    rintro e w1 ⟨rfl, hb1⟩
    have s1 := s0.step hb1
    go_wp2_with fail
    refine (alive_any _).mono ?_
    rintro e w2 ⟨rfl, hb2⟩
    have s2 := s1.step hb2
    go_wp2_with fail
    go_ret
    exact ⟨rfl, s2.bl⟩
  · have HF := Lib.hid hf
    rw [hf] at h
    rcases h with h | h | h
    · cases h
    all_goals
      clear hf
      go_enter Try.func6, Try.ntmps6
      go_wp2_with fail
      refine (some_law N A bs.length c hn _).mono ?_
      rw [HF.out]
      rintro e w1 ⟨rfl, hb1⟩
      have s1 := s0.step hb1
      go_wp2_with fail
      refine (alive_any _).mono ?_
      rintro e w2 ⟨rfl, hb2⟩
      have s2 := s1.step hb2
      go_wp2_with fail
      go_ret
      exact ⟨rfl, s2.bl⟩

variable (hf : Ln.fewF N bs.length 14 40 = true) (hv0 : -1000000 ≤ v) (hv1 : v ≤ 1000000) (hLv : Ln.Lv bs)

set_option maxRecDepth 100000 in
set_option maxHeartbeats 1000000 in
include hR hn hf hv0 hv1 hLv in
theorem attained_bad (hs : Ln.soundF N bs [0, p] ≠ 0) :
    Calls Try.prog 6 #[.agg #[.int .i64 N, .slice A bs.length c], .int .i64 p, .int .i64 v] w fun e w' => e = .returned (.bool true) ∧ Below w.heap.size w w' := by
  have s0 := Sy.new (w := w) N c hR
  have HF := Lib.hid hf
  obtain ⟨t1, t2⟩ := Ln.attained_not hv0 hv1 hs
  have HRA := Lib.hid fun w h => range_any N A c bs p w h hLv
  have HTH := Lib.hid fun w h => through_any N A c bs p v w h hLv
  rw [t1, t2] at HTH
  rw [show Ln.btF N bs 0 p = ((0, false), (0, false), Ln.soundF N bs [0, p]) from by rw [Ln.btF, if_neg hs]] at HRA
  obtain ⟨e0, he0⟩ : ∃ e0, Ln.soundF N bs [0, p] = e0 := ⟨_, rfl⟩
  rw [he0] at HRA hs
  obtain ⟨f0, hf0⟩ : ∃ f0, (Ln.thF N bs p v).2.2 = f0 := ⟨_, rfl⟩
  rw [hf0] at HTH
  have hne : (e0 != 0) = true := by simp [hs]
  unfold spanV at HRA
  simp only [List.length_nil] at HTH
  clear he0 hf0 hs hf t1 t2
  go_enter Try.func6, Try.ntmps6
  go_wp2_with fail
  refine (some_law N A bs.length c hn _).mono ?_
  rw [HF.out]
  rintro e w1 ⟨rfl, hb1⟩
  have s1 := s0.step hb1
  obtain ⟨c0, c1, cl⟩ := s1.cells
  go_wp2_with fail
  refine (HRA.out _ s1.rd).mono ?_
  rintro e w2 ⟨rfl, hb2⟩
  have s2 := (s1.step hb2).alloc (.cells #[.int .i64 0, .int .i64 0, .bool false, .bool false] 28)
  clear c0 c1 cl
  obtain ⟨c0, c1, cl⟩ := s2.cells
  go_wp2_with fail
  refine (HTH.out _ s2.rd).mono ?_
  rintro e w3 ⟨Ay, cy, rfl, hy, hb3⟩
  have s3 := s2.step hb3
  clear c0 c1 cl
  go_wp2_with fail
  refine (alive_any _).mono ?_
  rintro e w4 ⟨rfl, hb4⟩
  have s4 := s3.step hb4
  go_wp2_with fail
  go_ret
  exact ⟨rfl, s4.bl⟩

/-- What the law asks of a span: v lies in it. -/
def lowIn (l : Int × Bool) (v : Int) : Prop := l.2 = false ∨ (l.2 = true ∧ l.1 ≤ v)
def highIn (h : Int × Bool) (v : Int) : Prop := h.2 = false ∨ (h.2 = true ∧ v ≤ h.1)
/-- What Range and Through answer. -/
def RaC (lo hi : Int) (lb hb : Bool) (N p : Int) (A : Option Addr) (c : Nat) (bs : List Ln.Bd) : Prop := ∀ w, Rd w w.heap.size 4 A bs.length (bcells bs) →
  Calls Try.prog 17 #[.agg #[.int .i64 N, .slice A bs.length c], .int .i64 p] w fun e w' => e = .returned (.tuple #[.agg #[.int .i64 lo, .int .i64 hi, .bool lb, .bool hb], .int .i64 0]) ∧ Below w.heap.size w w'
def ThC (y : List Int) (is : Bool) (N p v : Int) (A : Option Addr) (c : Nat) (bs : List Ln.Bd) : Prop := ∀ w, Rd w w.heap.size 4 A bs.length (bcells bs) →
  Calls Try.prog 29 #[.agg #[.int .i64 N, .slice A bs.length c], .int .i64 p, .int .i64 v] w fun e w' => ∃ A' c', e = .returned (.tuple #[.slice A' y.length c', .bool is, .int .i64 0]) ∧ Rd w' w'.heap.size 1 A' y.length (ints y) ∧ Below w.heap.size w w'
def KeC (y : List Int) (N : Int) (A : Option Addr) (c : Nat) (bs : List Ln.Bd) : Prop := ∀ A2 c2 w, Rd w w.heap.size 4 A bs.length (bcells bs) → Rd w w.heap.size 1 A2 y.length (ints y) →
  Calls Try.prog 25 #[.agg #[.int .i64 N, .slice A bs.length c], .slice A2 y.length c2] w fun e w' => e = .returned (.tuple #[.int .i64 0, .bool true, .int .i64 0]) ∧ Below w.heap.size w w'

set_option maxRecDepth 100000 in
set_option maxHeartbeats 1000000 in
include hR hn hf hv0 hv1 in
theorem attained_in_ff (lo hi : Int) (y : List Int) (pn : Nat) (hp : p = pn) (hpy : pn < y.length) (hyl : y.length ≤ 1000) (hyp : Ln.gt y pn = v)
    (HRA : Hid (RaC lo hi false false N p A c bs)) (HTH : Hid (ThC y true N p v A c bs)) (HKE : Hid (KeC y N A c bs)) :
    Calls Try.prog 6 #[.agg #[.int .i64 N, .slice A bs.length c], .int .i64 p, .int .i64 v] w fun e w' => e = .returned (.bool true) ∧ Below w.heap.size w w' := by
  subst hp
  have HYP := Lib.hid hyp
  clear hyp
  have s0 := Sy.new (w := w) N c hR
  have HF := Lib.hid hf
  clear hf
  go_enter Try.func6, Try.ntmps6
  go_wp2_with fail
  refine (some_law N A bs.length c hn _).mono ?_
  rw [HF.out]
  rintro e w1 ⟨rfl, hb1⟩
  have s1 := s0.step hb1
  obtain ⟨c0, c1, cl⟩ := s1.cells
  go_wp2_with fail
  refine (HRA.out _ s1.rd).mono ?_
  rintro e w2 ⟨rfl, hb2⟩
  have s2 := (s1.step hb2).alloc (.cells #[.int .i64 lo, .int .i64 hi, .bool false, .bool false] 28)
  have kX := Bk.new w2 28 #[.int .i64 lo, .int .i64 hi, .bool false, .bool false]
  clear c0 c1 cl
  obtain ⟨c0, c1, cl⟩ := s2.cells
  go_wp2_with fail
  obtain ⟨sp, hsp⟩ : ∃ sp, w2.alloc (.cells #[.int .i64 lo, .int .i64 hi, .bool false, .bool false] 28) = sp := ⟨_, rfl⟩
  obtain ⟨xb, hxb⟩ : ∃ xb, w2.heap.size = xb := ⟨_, rfl⟩
  rw [hsp] at s2 kX ⊢
  rw [hxb] at kX ⊢
  clear hsp hxb c0 c1 cl
  refine (HTH.out _ s2.rd).mono ?_
  rintro e w3 ⟨Ay, cy, rfl, hy, hb3⟩
  have s3 := s2.step hb3
  have kX3 := kX.below hb3 kX.lt
  obtain ⟨c0, c1, cl⟩ := s3.cells
  have x0 := kX3.cell 0
  have x1 := kX3.cell 1
  have x2 := kX3.cell 2
  have x3 := kX3.cell 3
  have xl := kX3.lt
  simp only [List.getElem?_toArray, List.getElem?_cons_zero, List.getElem?_cons_succ] at x0 x1 x2 x3
  go_wp2_with fail
  refine (HKE.out _ _ _ s3.rd hy).mono ?_
  rintro e w4 ⟨rfl, hb4⟩
  have s4 := s3.step hb4
  have hy4 := (hy.below hb4 (Nat.le_refl _)).more hb4.size
  clear c0 c1 cl x0 x1 x2 x3 xl
  go_wp2_with fail
  refine (alive_any _).mono ?_
  rintro e w5 ⟨rfl, hb5⟩
  have s5 := s4.step hb5
  have hy5 := (hy4.below hb5 (Nat.le_refl _)).more hb5.size
  obtain ⟨by5, oy5, rfl, hby, ey⟩ := hy5.gt hpy
  rw [HYP.out] at ey
  go_wp2_with fail
  go_ret
  exact ⟨rfl, s5.bl⟩

set_option maxRecDepth 100000 in
set_option maxHeartbeats 1000000 in
include hR hn hf hv0 hv1 in
theorem attained_in_ft (lo hi : Int) (y : List Int) (pn : Nat) (hp : p = pn) (hpy : pn < y.length) (hyl : y.length ≤ 1000) (hyp : Ln.gt y pn = v) (hhi : v ≤ hi)
    (HRA : Hid (RaC lo hi false true N p A c bs)) (HTH : Hid (ThC y true N p v A c bs)) (HKE : Hid (KeC y N A c bs)) :
    Calls Try.prog 6 #[.agg #[.int .i64 N, .slice A bs.length c], .int .i64 p, .int .i64 v] w fun e w' => e = .returned (.bool true) ∧ Below w.heap.size w w' := by
  subst hp
  have HYP := Lib.hid hyp
  clear hyp
  have s0 := Sy.new (w := w) N c hR
  have HF := Lib.hid hf
  clear hf
  go_enter Try.func6, Try.ntmps6
  go_wp2_with fail
  refine (some_law N A bs.length c hn _).mono ?_
  rw [HF.out]
  rintro e w1 ⟨rfl, hb1⟩
  have s1 := s0.step hb1
  obtain ⟨c0, c1, cl⟩ := s1.cells
  go_wp2_with fail
  refine (HRA.out _ s1.rd).mono ?_
  rintro e w2 ⟨rfl, hb2⟩
  have s2 := (s1.step hb2).alloc (.cells #[.int .i64 lo, .int .i64 hi, .bool false, .bool true] 28)
  have kX := Bk.new w2 28 #[.int .i64 lo, .int .i64 hi, .bool false, .bool true]
  clear c0 c1 cl
  obtain ⟨c0, c1, cl⟩ := s2.cells
  go_wp2_with fail
  obtain ⟨sp, hsp⟩ : ∃ sp, w2.alloc (.cells #[.int .i64 lo, .int .i64 hi, .bool false, .bool true] 28) = sp := ⟨_, rfl⟩
  obtain ⟨xb, hxb⟩ : ∃ xb, w2.heap.size = xb := ⟨_, rfl⟩
  rw [hsp] at s2 kX ⊢
  rw [hxb] at kX ⊢
  clear hsp hxb c0 c1 cl
  refine (HTH.out _ s2.rd).mono ?_
  rintro e w3 ⟨Ay, cy, rfl, hy, hb3⟩
  have s3 := s2.step hb3
  have kX3 := kX.below hb3 kX.lt
  obtain ⟨c0, c1, cl⟩ := s3.cells
  have x0 := kX3.cell 0
  have x1 := kX3.cell 1
  have x2 := kX3.cell 2
  have x3 := kX3.cell 3
  have xl := kX3.lt
  simp only [List.getElem?_toArray, List.getElem?_cons_zero, List.getElem?_cons_succ] at x0 x1 x2 x3
  go_wp2_with fail
  refine (HKE.out _ _ _ s3.rd hy).mono ?_
  rintro e w4 ⟨rfl, hb4⟩
  have s4 := s3.step hb4
  have hy4 := (hy.below hb4 (Nat.le_refl _)).more hb4.size
  clear c0 c1 cl x0 x1 x2 x3 xl
  go_wp2_with fail
  refine (alive_any _).mono ?_
  rintro e w5 ⟨rfl, hb5⟩
  have s5 := s4.step hb5
  have hy5 := (hy4.below hb5 (Nat.le_refl _)).more hb5.size
  obtain ⟨by5, oy5, rfl, hby, ey⟩ := hy5.gt hpy
  rw [HYP.out] at ey
  go_wp2_with fail
  go_ret
  exact ⟨rfl, s5.bl⟩

set_option maxRecDepth 100000 in
set_option maxHeartbeats 1000000 in
include hR hn hf hv0 hv1 in
theorem attained_in_tf (lo hi : Int) (y : List Int) (pn : Nat) (hp : p = pn) (hpy : pn < y.length) (hyl : y.length ≤ 1000) (hyp : Ln.gt y pn = v) (hlo : lo ≤ v)
    (HRA : Hid (RaC lo hi true false N p A c bs)) (HTH : Hid (ThC y true N p v A c bs)) (HKE : Hid (KeC y N A c bs)) :
    Calls Try.prog 6 #[.agg #[.int .i64 N, .slice A bs.length c], .int .i64 p, .int .i64 v] w fun e w' => e = .returned (.bool true) ∧ Below w.heap.size w w' := by
  subst hp
  have HYP := Lib.hid hyp
  clear hyp
  have s0 := Sy.new (w := w) N c hR
  have HF := Lib.hid hf
  clear hf
  go_enter Try.func6, Try.ntmps6
  go_wp2_with fail
  refine (some_law N A bs.length c hn _).mono ?_
  rw [HF.out]
  rintro e w1 ⟨rfl, hb1⟩
  have s1 := s0.step hb1
  obtain ⟨c0, c1, cl⟩ := s1.cells
  go_wp2_with fail
  refine (HRA.out _ s1.rd).mono ?_
  rintro e w2 ⟨rfl, hb2⟩
  have s2 := (s1.step hb2).alloc (.cells #[.int .i64 lo, .int .i64 hi, .bool true, .bool false] 28)
  have kX := Bk.new w2 28 #[.int .i64 lo, .int .i64 hi, .bool true, .bool false]
  clear c0 c1 cl
  obtain ⟨c0, c1, cl⟩ := s2.cells
  go_wp2_with fail
  obtain ⟨sp, hsp⟩ : ∃ sp, w2.alloc (.cells #[.int .i64 lo, .int .i64 hi, .bool true, .bool false] 28) = sp := ⟨_, rfl⟩
  obtain ⟨xb, hxb⟩ : ∃ xb, w2.heap.size = xb := ⟨_, rfl⟩
  rw [hsp] at s2 kX ⊢
  rw [hxb] at kX ⊢
  clear hsp hxb c0 c1 cl
  refine (HTH.out _ s2.rd).mono ?_
  rintro e w3 ⟨Ay, cy, rfl, hy, hb3⟩
  have s3 := s2.step hb3
  have kX3 := kX.below hb3 kX.lt
  obtain ⟨c0, c1, cl⟩ := s3.cells
  have x0 := kX3.cell 0
  have x1 := kX3.cell 1
  have x2 := kX3.cell 2
  have x3 := kX3.cell 3
  have xl := kX3.lt
  simp only [List.getElem?_toArray, List.getElem?_cons_zero, List.getElem?_cons_succ] at x0 x1 x2 x3
  go_wp2_with fail
  refine (HKE.out _ _ _ s3.rd hy).mono ?_
  rintro e w4 ⟨rfl, hb4⟩
  have s4 := s3.step hb4
  have hy4 := (hy.below hb4 (Nat.le_refl _)).more hb4.size
  clear c0 c1 cl x0 x1 x2 x3 xl
  go_wp2_with fail
  refine (alive_any _).mono ?_
  rintro e w5 ⟨rfl, hb5⟩
  have s5 := s4.step hb5
  have hy5 := (hy4.below hb5 (Nat.le_refl _)).more hb5.size
  obtain ⟨by5, oy5, rfl, hby, ey⟩ := hy5.gt hpy
  rw [HYP.out] at ey
  go_wp2_with fail
  go_ret
  exact ⟨rfl, s5.bl⟩

set_option maxRecDepth 100000 in
set_option maxHeartbeats 1000000 in
include hR hn hf hv0 hv1 in
theorem attained_in_tt (lo hi : Int) (y : List Int) (pn : Nat) (hp : p = pn) (hpy : pn < y.length) (hyl : y.length ≤ 1000) (hyp : Ln.gt y pn = v) (hlo : lo ≤ v) (hhi : v ≤ hi)
    (HRA : Hid (RaC lo hi true true N p A c bs)) (HTH : Hid (ThC y true N p v A c bs)) (HKE : Hid (KeC y N A c bs)) :
    Calls Try.prog 6 #[.agg #[.int .i64 N, .slice A bs.length c], .int .i64 p, .int .i64 v] w fun e w' => e = .returned (.bool true) ∧ Below w.heap.size w w' := by
  subst hp
  have HYP := Lib.hid hyp
  clear hyp
  have s0 := Sy.new (w := w) N c hR
  have HF := Lib.hid hf
  clear hf
  go_enter Try.func6, Try.ntmps6
  go_wp2_with fail
  refine (some_law N A bs.length c hn _).mono ?_
  rw [HF.out]
  rintro e w1 ⟨rfl, hb1⟩
  have s1 := s0.step hb1
  obtain ⟨c0, c1, cl⟩ := s1.cells
  go_wp2_with fail
  refine (HRA.out _ s1.rd).mono ?_
  rintro e w2 ⟨rfl, hb2⟩
  have s2 := (s1.step hb2).alloc (.cells #[.int .i64 lo, .int .i64 hi, .bool true, .bool true] 28)
  have kX := Bk.new w2 28 #[.int .i64 lo, .int .i64 hi, .bool true, .bool true]
  clear c0 c1 cl
  obtain ⟨c0, c1, cl⟩ := s2.cells
  go_wp2_with fail
  obtain ⟨sp, hsp⟩ : ∃ sp, w2.alloc (.cells #[.int .i64 lo, .int .i64 hi, .bool true, .bool true] 28) = sp := ⟨_, rfl⟩
  obtain ⟨xb, hxb⟩ : ∃ xb, w2.heap.size = xb := ⟨_, rfl⟩
  rw [hsp] at s2 kX ⊢
  rw [hxb] at kX ⊢
  clear hsp hxb c0 c1 cl
  refine (HTH.out _ s2.rd).mono ?_
  rintro e w3 ⟨Ay, cy, rfl, hy, hb3⟩
  have s3 := s2.step hb3
  have kX3 := kX.below hb3 kX.lt
  obtain ⟨c0, c1, cl⟩ := s3.cells
  have x0 := kX3.cell 0
  have x1 := kX3.cell 1
  have x2 := kX3.cell 2
  have x3 := kX3.cell 3
  have xl := kX3.lt
  simp only [List.getElem?_toArray, List.getElem?_cons_zero, List.getElem?_cons_succ] at x0 x1 x2 x3
  go_wp2_with fail
  refine (HKE.out _ _ _ s3.rd hy).mono ?_
  rintro e w4 ⟨rfl, hb4⟩
  have s4 := s3.step hb4
  have hy4 := (hy.below hb4 (Nat.le_refl _)).more hb4.size
  clear c0 c1 cl x0 x1 x2 x3 xl
  go_wp2_with fail
  refine (alive_any _).mono ?_
  rintro e w5 ⟨rfl, hb5⟩
  have s5 := s4.step hb5
  have hy5 := (hy4.below hb5 (Nat.le_refl _)).more hb5.size
  obtain ⟨by5, oy5, rfl, hby, ey⟩ := hy5.gt hpy
  rw [HYP.out] at ey
  go_wp2_with fail
  go_ret
  exact ⟨rfl, s5.bl⟩

set_option maxRecDepth 100000 in
set_option maxHeartbeats 1000000 in
include hR hn hf hv0 hv1 in
theorem attained_out_tfl (lo hi : Int) (hlo : v < lo)
    (HRA : Hid (RaC lo hi true false N p A c bs)) (HTH : Hid (ThC [] false N p v A c bs)) :
    Calls Try.prog 6 #[.agg #[.int .i64 N, .slice A bs.length c], .int .i64 p, .int .i64 v] w fun e w' => e = .returned (.bool true) ∧ Below w.heap.size w w' := by
  have s0 := Sy.new (w := w) N c hR
  have HF := Lib.hid hf
  clear hf
  go_enter Try.func6, Try.ntmps6
  go_wp2_with fail
  refine (some_law N A bs.length c hn _).mono ?_
  rw [HF.out]
  rintro e w1 ⟨rfl, hb1⟩
  have s1 := s0.step hb1
  obtain ⟨c0, c1, cl⟩ := s1.cells
  go_wp2_with fail
  refine (HRA.out _ s1.rd).mono ?_
  rintro e w2 ⟨rfl, hb2⟩
  have s2 := (s1.step hb2).alloc (.cells #[.int .i64 lo, .int .i64 hi, .bool true, .bool false] 28)
  have kX := Bk.new w2 28 #[.int .i64 lo, .int .i64 hi, .bool true, .bool false]
  clear c0 c1 cl
  obtain ⟨c0, c1, cl⟩ := s2.cells
  go_wp2_with fail
  obtain ⟨sp, hsp⟩ : ∃ sp, w2.alloc (.cells #[.int .i64 lo, .int .i64 hi, .bool true, .bool false] 28) = sp := ⟨_, rfl⟩
  obtain ⟨xb, hxb⟩ : ∃ xb, w2.heap.size = xb := ⟨_, rfl⟩
  rw [hsp] at s2 kX ⊢
  rw [hxb] at kX ⊢
  clear hsp hxb c0 c1 cl
  refine (HTH.out _ s2.rd).mono ?_
  rintro e w3 ⟨Ay, cy, rfl, hy, hb3⟩
  have s3 := s2.step hb3
  have kX3 := kX.below hb3 kX.lt
  obtain ⟨c0, c1, cl⟩ := s3.cells
  have x0 := kX3.cell 0
  have x1 := kX3.cell 1
  have x2 := kX3.cell 2
  have x3 := kX3.cell 3
  have xl := kX3.lt
  simp only [List.getElem?_toArray, List.getElem?_cons_zero, List.getElem?_cons_succ] at x0 x1 x2 x3
  go_wp2_with fail
  refine (alive_any _).mono ?_
  rintro e w5 ⟨rfl, hb5⟩
  have s5 := s3.step hb5
  go_wp2_with fail
  go_ret
  exact ⟨rfl, s5.bl⟩

set_option maxRecDepth 100000 in
set_option maxHeartbeats 1000000 in
include hR hn hf hv0 hv1 in
theorem attained_out_ttl (lo hi : Int) (hlo : v < lo)
    (HRA : Hid (RaC lo hi true true N p A c bs)) (HTH : Hid (ThC [] false N p v A c bs)) :
    Calls Try.prog 6 #[.agg #[.int .i64 N, .slice A bs.length c], .int .i64 p, .int .i64 v] w fun e w' => e = .returned (.bool true) ∧ Below w.heap.size w w' := by
  have s0 := Sy.new (w := w) N c hR
  have HF := Lib.hid hf
  clear hf
  go_enter Try.func6, Try.ntmps6
  go_wp2_with fail
  refine (some_law N A bs.length c hn _).mono ?_
  rw [HF.out]
  rintro e w1 ⟨rfl, hb1⟩
  have s1 := s0.step hb1
  obtain ⟨c0, c1, cl⟩ := s1.cells
  go_wp2_with fail
  refine (HRA.out _ s1.rd).mono ?_
  rintro e w2 ⟨rfl, hb2⟩
  have s2 := (s1.step hb2).alloc (.cells #[.int .i64 lo, .int .i64 hi, .bool true, .bool true] 28)
  have kX := Bk.new w2 28 #[.int .i64 lo, .int .i64 hi, .bool true, .bool true]
  clear c0 c1 cl
  obtain ⟨c0, c1, cl⟩ := s2.cells
  go_wp2_with fail
  obtain ⟨sp, hsp⟩ : ∃ sp, w2.alloc (.cells #[.int .i64 lo, .int .i64 hi, .bool true, .bool true] 28) = sp := ⟨_, rfl⟩
  obtain ⟨xb, hxb⟩ : ∃ xb, w2.heap.size = xb := ⟨_, rfl⟩
  rw [hsp] at s2 kX ⊢
  rw [hxb] at kX ⊢
  clear hsp hxb c0 c1 cl
  refine (HTH.out _ s2.rd).mono ?_
  rintro e w3 ⟨Ay, cy, rfl, hy, hb3⟩
  have s3 := s2.step hb3
  have kX3 := kX.below hb3 kX.lt
  obtain ⟨c0, c1, cl⟩ := s3.cells
  have x0 := kX3.cell 0
  have x1 := kX3.cell 1
  have x2 := kX3.cell 2
  have x3 := kX3.cell 3
  have xl := kX3.lt
  simp only [List.getElem?_toArray, List.getElem?_cons_zero, List.getElem?_cons_succ] at x0 x1 x2 x3
  go_wp2_with fail
  refine (alive_any _).mono ?_
  rintro e w5 ⟨rfl, hb5⟩
  have s5 := s3.step hb5
  go_wp2_with fail
  go_ret
  exact ⟨rfl, s5.bl⟩

set_option maxRecDepth 100000 in
set_option maxHeartbeats 1000000 in
include hR hn hf hv0 hv1 in
theorem attained_out_fth (lo hi : Int) (hhi : hi < v)
    (HRA : Hid (RaC lo hi false true N p A c bs)) (HTH : Hid (ThC [] false N p v A c bs)) :
    Calls Try.prog 6 #[.agg #[.int .i64 N, .slice A bs.length c], .int .i64 p, .int .i64 v] w fun e w' => e = .returned (.bool true) ∧ Below w.heap.size w w' := by
  have s0 := Sy.new (w := w) N c hR
  have HF := Lib.hid hf
  clear hf
  go_enter Try.func6, Try.ntmps6
  go_wp2_with fail
  refine (some_law N A bs.length c hn _).mono ?_
  rw [HF.out]
  rintro e w1 ⟨rfl, hb1⟩
  have s1 := s0.step hb1
  obtain ⟨c0, c1, cl⟩ := s1.cells
  go_wp2_with fail
  refine (HRA.out _ s1.rd).mono ?_
  rintro e w2 ⟨rfl, hb2⟩
  have s2 := (s1.step hb2).alloc (.cells #[.int .i64 lo, .int .i64 hi, .bool false, .bool true] 28)
  have kX := Bk.new w2 28 #[.int .i64 lo, .int .i64 hi, .bool false, .bool true]
  clear c0 c1 cl
  obtain ⟨c0, c1, cl⟩ := s2.cells
  go_wp2_with fail
  obtain ⟨sp, hsp⟩ : ∃ sp, w2.alloc (.cells #[.int .i64 lo, .int .i64 hi, .bool false, .bool true] 28) = sp := ⟨_, rfl⟩
  obtain ⟨xb, hxb⟩ : ∃ xb, w2.heap.size = xb := ⟨_, rfl⟩
  rw [hsp] at s2 kX ⊢
  rw [hxb] at kX ⊢
  clear hsp hxb c0 c1 cl
  refine (HTH.out _ s2.rd).mono ?_
  rintro e w3 ⟨Ay, cy, rfl, hy, hb3⟩
  have s3 := s2.step hb3
  have kX3 := kX.below hb3 kX.lt
  obtain ⟨c0, c1, cl⟩ := s3.cells
  have x0 := kX3.cell 0
  have x1 := kX3.cell 1
  have x2 := kX3.cell 2
  have x3 := kX3.cell 3
  have xl := kX3.lt
  simp only [List.getElem?_toArray, List.getElem?_cons_zero, List.getElem?_cons_succ] at x0 x1 x2 x3
  go_wp2_with fail
  refine (alive_any _).mono ?_
  rintro e w5 ⟨rfl, hb5⟩
  have s5 := s3.step hb5
  go_wp2_with fail
  go_ret
  exact ⟨rfl, s5.bl⟩

set_option maxRecDepth 100000 in
set_option maxHeartbeats 1000000 in
include hR hn hf hv0 hv1 in
theorem attained_out_tth (lo hi : Int) (hlo : lo ≤ v) (hhi : hi < v)
    (HRA : Hid (RaC lo hi true true N p A c bs)) (HTH : Hid (ThC [] false N p v A c bs)) :
    Calls Try.prog 6 #[.agg #[.int .i64 N, .slice A bs.length c], .int .i64 p, .int .i64 v] w fun e w' => e = .returned (.bool true) ∧ Below w.heap.size w w' := by
  have s0 := Sy.new (w := w) N c hR
  have HF := Lib.hid hf
  clear hf
  go_enter Try.func6, Try.ntmps6
  go_wp2_with fail
  refine (some_law N A bs.length c hn _).mono ?_
  rw [HF.out]
  rintro e w1 ⟨rfl, hb1⟩
  have s1 := s0.step hb1
  obtain ⟨c0, c1, cl⟩ := s1.cells
  go_wp2_with fail
  refine (HRA.out _ s1.rd).mono ?_
  rintro e w2 ⟨rfl, hb2⟩
  have s2 := (s1.step hb2).alloc (.cells #[.int .i64 lo, .int .i64 hi, .bool true, .bool true] 28)
  have kX := Bk.new w2 28 #[.int .i64 lo, .int .i64 hi, .bool true, .bool true]
  clear c0 c1 cl
  obtain ⟨c0, c1, cl⟩ := s2.cells
  go_wp2_with fail
  obtain ⟨sp, hsp⟩ : ∃ sp, w2.alloc (.cells #[.int .i64 lo, .int .i64 hi, .bool true, .bool true] 28) = sp := ⟨_, rfl⟩
  obtain ⟨xb, hxb⟩ : ∃ xb, w2.heap.size = xb := ⟨_, rfl⟩
  rw [hsp] at s2 kX ⊢
  rw [hxb] at kX ⊢
  clear hsp hxb c0 c1 cl
  refine (HTH.out _ s2.rd).mono ?_
  rintro e w3 ⟨Ay, cy, rfl, hy, hb3⟩
  have s3 := s2.step hb3
  have kX3 := kX.below hb3 kX.lt
  obtain ⟨c0, c1, cl⟩ := s3.cells
  have x0 := kX3.cell 0
  have x1 := kX3.cell 1
  have x2 := kX3.cell 2
  have x3 := kX3.cell 3
  have xl := kX3.lt
  simp only [List.getElem?_toArray, List.getElem?_cons_zero, List.getElem?_cons_succ] at x0 x1 x2 x3
  go_wp2_with fail
  refine (alive_any _).mono ?_
  rintro e w5 ⟨rfl, hb5⟩
  have s5 := s3.step hb5
  go_wp2_with fail
  go_ret
  exact ⟨rfl, s5.bl⟩

end

theorem lineAttained_any (N : Int) (A : Option Addr) (c : Nat) (bs : List Ln.Bd) (p v : Int) (w : World) (hR : Rd w w.heap.size 4 A bs.length (bcells bs)) (hn : bs.length ≤ 9223372036854775807) (hlv : ∀ x ∈ bs, x.gone = false) :
    Calls Try.prog 6 #[.agg #[.int .i64 N, .slice A bs.length c], .int .i64 p, .int .i64 v] w fun e w' => e = .returned (.bool true) ∧ Below w.heap.size w w' := by
  by_cases he : Ln.fewF N bs.length 14 40 = false ∨ v < -1000000 ∨ 1000000 < v
  · exact attained_early N A c bs p v w hR hn he
  · have hf : Ln.fewF N bs.length 14 40 = true := by
      rcases h : Ln.fewF N bs.length 14 40 with _ | _
      · exact absurd (.inl h) he
      · rfl
    have hv0 : -1000000 ≤ v := by omega
    have hv1 : v ≤ 1000000 := by omega
    have hlen := Ln.fewF_len hf (by omega)
    have hLv : Ln.Lv bs := ⟨by omega, hlv⟩
    by_cases hs : Ln.soundF N bs [0, p] = 0
    · obtain ⟨hcp, _, hck⟩ := Ln.sound_zero hs
      have hN14 := (Ln.fewF_ok hf hck).1
      have hp := Ln.pts_of hcp (p := p) (by simp)
      obtain ⟨t1, t2, t3, t4⟩ := Ln.attained hlv hN14 hv0 hv1 hs
      have hth := fun w h => through_any N A c bs p v w h hLv
      have hra := fun w h => range_any N A c bs p w h hLv
      have hbt : Ln.btF N bs 0 p = (Ln.lowF 0 (Ln.dF N bs p 0), Ln.highF 0 (Ln.dF N bs 0 p), 0) := by rw [Ln.btF, if_pos hs]
      rw [hbt] at hra
      rw [t1] at hth
      obtain ⟨l, hl⟩ : ∃ l, Ln.lowF 0 (Ln.dF N bs p 0) = l := ⟨_, rfl⟩
      obtain ⟨h, hh⟩ : ∃ h, Ln.highF 0 (Ln.dF N bs 0 p) = h := ⟨_, rfl⟩
      have hin : Ln.inB N bs p v = ((!l.2 || decide (l.1 ≤ v)) && (!h.2 || decide (v ≤ h.1))) := by rw [Ln.inB, hl, hh]
      rw [hl, hh] at hra
      obtain ⟨lo, lb⟩ := l
      obtain ⟨hi, hb⟩ := h
      have HRA : Hid (RaC lo hi lb hb N p A c bs) := Lib.hid hra
      obtain ⟨y, hy⟩ : ∃ y, (Ln.thF N bs p v).1 = y := ⟨_, rfl⟩
      rw [hy] at hth t3 t4
      rcases hb2 : (Ln.thF N bs p v).2.1 with _ | _
      · rw [hb2] at hth t2
        rw [t3 hb2] at hth
        have HTH : Hid (ThC [] false N p v A c bs) := Lib.hid hth
        rw [hin] at t2
        dsimp only at t2
        have t2' := t2.symm
        by_cases hlow : lb = true ∧ v < lo
        · obtain ⟨rfl, hlow⟩ := hlow
          cases hb
          · exact attained_out_tfl N A c bs p v w hR hn hf hv0 hv1 lo hi hlow HRA HTH
          · exact attained_out_ttl N A c bs p v w hR hn hf hv0 hv1 lo hi hlow HRA HTH
        · have hl2 : (!lb || decide (lo ≤ v)) = true := by
            cases lb
            · rfl
            · simp; simp at hlow; exact hlow
          rw [hl2, Bool.true_and] at t2'
          simp only [Bool.or_eq_false_iff, Bool.not_eq_false', decide_eq_false_iff_not] at t2'
          obtain ⟨rfl, hhi⟩ := t2'
          cases lb
          · exact attained_out_fth N A c bs p v w hR hn hf hv0 hv1 lo hi (by omega) HRA HTH
          · exact attained_out_tth N A c bs p v w hR hn hf hv0 hv1 lo hi (by simpa using hl2) (by omega) HRA HTH
      · rw [hb2] at hth t2
        obtain ⟨k1, k2, k3⟩ := t4 hb2
        have HTH : Hid (ThC y true N p v A c bs) := Lib.hid hth
        have hke := fun A2 c2 w h1 h2 => kept_any N A c bs A2 c2 y w h1 (by omega) h2 (by omega)
        rw [k1] at hke
        have HKE : Hid (KeC y N A c bs) := Lib.hid hke
        rw [hin] at t2
        have t2' := t2.symm
        simp only [Bool.and_eq_true, Bool.or_eq_true, Bool.not_eq_true', decide_eq_true_eq] at t2'
        obtain ⟨q1, q2⟩ := t2'
        cases lb <;> cases hb
        · exact attained_in_ff N A c bs p v w hR hn hf hv0 hv1 lo hi y p.toNat (by omega) (by omega) (by omega) k3 HRA HTH HKE
        · exact attained_in_ft N A c bs p v w hR hn hf hv0 hv1 lo hi y p.toNat (by omega) (by omega) (by omega) k3 (by simpa using q2) HRA HTH HKE
        · exact attained_in_tf N A c bs p v w hR hn hf hv0 hv1 lo hi y p.toNat (by omega) (by omega) (by omega) k3 (by simpa using q1) HRA HTH HKE
        · exact attained_in_tt N A c bs p v w hR hn hf hv0 hv1 lo hi y p.toNat (by omega) (by omega) (by omega) k3 (by simpa using q1) (by simpa using q2) HRA HTH HKE
    · exact attained_bad N A c bs p v w hR hn hf hv0 hv1 hLv hs

end Go.Proofs.Ytdndhfggdjphjaa
