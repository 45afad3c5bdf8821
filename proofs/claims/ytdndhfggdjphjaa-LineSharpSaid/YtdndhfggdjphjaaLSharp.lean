/-
  LineSharp: the law's walk.
-/
import Derived.Test.YtdndhfggdjphjaaLEither
set_option linter.unusedVariables false
set_option linter.unusedSimpArgs false
namespace Go.Proofs.Ytdndhfggdjphjaa
open Go.RowKit Go.Shelf

def DiC (d : Int) (is : Bool) (e0 : Int) (N : Int) (bs : List Ln.Bd) (a b : Int) : Prop := ∀ A c w, Rd w w.heap.size 4 A bs.length (bcells bs) →
  Calls Try.prog 26 #[.agg #[.int .i64 N, .slice A bs.length c], .int .i64 a, .int .i64 b] w fun e w' => e = .returned (.tuple #[.int .i64 d, .bool is, .int .i64 e0]) ∧ Below w.heap.size w w'
def PaC (p : List Nat) (e0 : Int) (N : Int) (bs : List Ln.Bd) (a b : Int) : Prop := ∀ A c w, Rd w w.heap.size 4 A bs.length (bcells bs) →
  Calls Try.prog 27 #[.agg #[.int .i64 N, .slice A bs.length c], .int .i64 a, .int .i64 b] w fun e w' => ∃ A' c', e = .returned (.tuple #[.slice A' p.length c', .int .i64 e0]) ∧ Rd w' w'.heap.size 1 A' p.length (nlist p) ∧ Below w.heap.size w w'
def BwC (l1 h1 : Int) (l2 h2 : Bool) (N : Int) (bs : List Ln.Bd) (a b : Int) : Prop := ∀ A c w, Rd w w.heap.size 4 A bs.length (bcells bs) →
  Calls Try.prog 19 #[.agg #[.int .i64 N, .slice A bs.length c], .int .i64 a, .int .i64 b] w fun e w' => e = .returned (.tuple #[.agg #[.int .i64 l1, .int .i64 h1, .bool l2, .bool h2], .int .i64 0]) ∧ Below w.heap.size w w'
def ChC (l : List Int) (most : Int) (r : Bool) (N : Int) (bs : List Ln.Bd) (a b : Int) : Prop := ∀ A c A2 c2 w, Rd w w.heap.size 4 A bs.length (bcells bs) → Rd w w.heap.size 1 A2 l.length (ints l) →
  Calls Try.prog 28 #[.agg #[.int .i64 N, .slice A bs.length c], .slice A2 l.length c2, .int .i64 a, .int .i64 b, .int .i64 most] w fun e w' => e = .returned (.tuple #[.bool r, .int .i64 0]) ∧ Below w.heap.size w w'
def CpC (p : List Nat) (most : Int) (r : Bool) (N : Int) (bs : List Ln.Bd) (a b : Int) : Prop := ∀ A c A2 c2 w, Rd w w.heap.size 4 A bs.length (bcells bs) → Rd w w.heap.size 1 A2 p.length (nlist p) →
  Calls Try.prog 28 #[.agg #[.int .i64 N, .slice A bs.length c], .slice A2 p.length c2, .int .i64 a, .int .i64 b, .int .i64 most] w fun e w' => e = .returned (.tuple #[.bool r, .int .i64 0]) ∧ Below w.heap.size w w'
def KxC (y : List Int) (i : Int) (r : Bool) (e0 : Int) (N : Int) (bs : List Ln.Bd) : Prop := ∀ A c A2 c2 w, Rd w w.heap.size 4 A bs.length (bcells bs) → Rd w w.heap.size 1 A2 y.length (ints y) →
  Calls Try.prog 25 #[.agg #[.int .i64 N, .slice A bs.length c], .slice A2 y.length c2] w fun e w' => e = .returned (.tuple #[.int .i64 i, .bool r, .int .i64 e0]) ∧ Below w.heap.size w w'

section
variable (N : Int) (A : Option Addr) (c : Nat) (bs : List Ln.Bd) (Ay : Option Addr) (cy : Nat) (y : List Int) (Al : Option Addr) (cl : Nat) (l : List Int) (a b most : Int) (w : World)
  (hR : Rd w w.heap.size 4 A bs.length (bcells bs)) (hn : bs.length ≤ 9223372036854775807)

set_option maxRecDepth 100000 in
set_option maxHeartbeats 2000000 in
include hR hn in
theorem sharp_e1 (hf : Ln.fewF N bs.length 14 40 = false) : Calls Try.prog 5 #[.agg #[.int .i64 N, .slice A bs.length c], .slice Ay y.length cy, .slice Al l.length cl, .int .i64 a, .int .i64 b, .int .i64 most] w fun e w' => e = .returned (.bool true) ∧ Below w.heap.size w w' := by
  have s0 := Sy.new (w := w) N c hR
  have HF := Lib.hid hf
  clear hf
  go_enter Try.func5, Try.ntmps5
  go_wp2_with fail
  refine (some_law N A bs.length c hn _).mono ?_
  rw [HF.out]
  rintro e w1 ⟨rfl, hb1⟩
  have s1 := s0.step hb1
  go_wp2_with fail
  refine (alive_any _).mono ?_
  rintro e wz ⟨rfl, hbz⟩
  have sz := s1.step hbz
  go_wp2_with fail
  go_ret
  exact ⟨rfl, sz.bl⟩

set_option maxRecDepth 100000 in
set_option maxHeartbeats 2000000 in
include hR hn in
theorem sharp_e2 (hf : Ln.fewF N bs.length 14 40 = true) (h2 : 20 < y.length) : Calls Try.prog 5 #[.agg #[.int .i64 N, .slice A bs.length c], .slice Ay y.length cy, .slice Al l.length cl, .int .i64 a, .int .i64 b, .int .i64 most] w fun e w' => e = .returned (.bool true) ∧ Below w.heap.size w w' := by
  have s0 := Sy.new (w := w) N c hR
  have HF := Lib.hid hf
  clear hf
  go_enter Try.func5, Try.ntmps5
  go_wp2_with fail
  refine (some_law N A bs.length c hn _).mono ?_
  rw [HF.out]
  rintro e w1 ⟨rfl, hb1⟩
  have s1 := s0.step hb1
  go_wp2_with fail
  refine (alive_any _).mono ?_
  rintro e wz ⟨rfl, hbz⟩
  have sz := s1.step hbz
  go_wp2_with fail
  go_ret
  exact ⟨rfl, sz.bl⟩

set_option maxRecDepth 100000 in
set_option maxHeartbeats 2000000 in
include hR hn in
theorem sharp_e3 (hf : Ln.fewF N bs.length 14 40 = true) (h2 : y.length ≤ 20) (h3 : 60 < l.length) : Calls Try.prog 5 #[.agg #[.int .i64 N, .slice A bs.length c], .slice Ay y.length cy, .slice Al l.length cl, .int .i64 a, .int .i64 b, .int .i64 most] w fun e w' => e = .returned (.bool true) ∧ Below w.heap.size w w' := by
  have s0 := Sy.new (w := w) N c hR
  have HF := Lib.hid hf
  clear hf
  go_enter Try.func5, Try.ntmps5
  go_wp2_with fail
  refine (some_law N A bs.length c hn _).mono ?_
  rw [HF.out]
  rintro e w1 ⟨rfl, hb1⟩
  have s1 := s0.step hb1
  go_wp2_with fail
  refine (alive_any _).mono ?_
  rintro e wz ⟨rfl, hbz⟩
  have sz := s1.step hbz
  go_wp2_with fail
  go_ret
  exact ⟨rfl, sz.bl⟩

variable (hY : Rd w w.heap.size 1 Ay y.length (ints y)) (hL : Rd w w.heap.size 1 Al l.length (ints l)) (hf : Ln.fewF N bs.length 14 40 = true) (hy20 : y.length ≤ 20) (hl60 : l.length ≤ 60)

set_option maxRecDepth 100000 in
set_option maxHeartbeats 2000000 in
include hR hn hf hy20 hl60 in
theorem sharp_bad (d e0 : Int) (he : e0 ≠ 0) (HDI : Hid (DiC d false e0 N bs a b)) : Calls Try.prog 5 #[.agg #[.int .i64 N, .slice A bs.length c], .slice Ay y.length cy, .slice Al l.length cl, .int .i64 a, .int .i64 b, .int .i64 most] w fun e w' => e = .returned (.bool true) ∧ Below w.heap.size w w' := by
  have s0 := Sy.new (w := w) N c hR
  have HF := Lib.hid hf
  clear hf
  have hne : (e0 != 0) = true := by simp [he]
  clear he
  go_enter Try.func5, Try.ntmps5
  go_wp2_with fail
  refine (some_law N A bs.length c hn _).mono ?_
  rw [HF.out]
  rintro e w1 ⟨rfl, hb1⟩
  have s1 := s0.step hb1
  obtain ⟨c0, c1, cz⟩ := s1.cells
  go_wp2_with fail
  refine (HDI.out _ _ _ s1.rd).mono ?_
  rintro e w2 ⟨rfl, hb2⟩
  have s2 := s1.step hb2
  clear c0 c1 cz
  go_wp2_with fail
  refine (alive_any _).mono ?_
  rintro e wz ⟨rfl, hbz⟩
  have sz := s2.step hbz
  go_wp2_with fail
  go_ret
  exact ⟨rfl, sz.bl⟩

set_option maxRecDepth 100000 in
set_option maxHeartbeats 2000000 in
include hR hn hY hL hf hy20 hl60 in
theorem sharp_tt_no1 (d l1 : Int) (l2 : Bool) (p : List Nat) (i : Int) (HDI : Hid (DiC d true 0 N bs a b)) (HPA : Hid (PaC p 0 N bs a b)) (HBT : Hid (BwC l1 d l2 true N bs a b)) (HCH : Hid (ChC l most true N bs a b)) (hd0 : -1000000000000000 ≤ d) (hd1 : d ≤ 1000000000000000) (HC1 : Hid (CpC p d true N bs a b)) (HC2 : Hid (CpC p (d - 1) false N bs a b)) (hdm : d ≤ most) (r : Bool) (e0 : Int) (he : e0 ≠ 0) (HKE : Hid (KxC y i r e0 N bs)) : Calls Try.prog 5 #[.agg #[.int .i64 N, .slice A bs.length c], .slice Ay y.length cy, .slice Al l.length cl, .int .i64 a, .int .i64 b, .int .i64 most] w fun e w' => e = .returned (.bool true) ∧ Below w.heap.size w w' := by
  have s0 := Sy.new (w := w) N c hR
  have HF := Lib.hid hf
  clear hf
  have hne : (e0 != 0) = true := by simp [he]
  clear he
  go_enter Try.func5, Try.ntmps5
  go_wp2_with fail
  refine (some_law N A bs.length c hn _).mono ?_
  rw [HF.out]
  rintro e w1 ⟨rfl, hb1⟩
  have s1 := s0.step hb1
  obtain ⟨c0, c1, cz⟩ := s1.cells
  go_wp2_with fail
  refine (HDI.out _ _ _ s1.rd).mono ?_
  rintro e w2 ⟨rfl, hb2⟩
  have s2 := s1.step hb2
  clear c0 c1 cz
  obtain ⟨c0, c1, cz⟩ := s2.cells
  go_wp2_with fail
  refine (HPA.out _ _ _ s2.rd).mono ?_
  rintro e w3 ⟨Ap, cp, rfl, hp3, hb3⟩
  have s3 := s2.step hb3
  clear c0 c1 cz
  obtain ⟨c0, c1, cz⟩ := s3.cells
  go_wp2_with fail
  refine (HBT.out _ _ _ s3.rd).mono ?_
  rintro e w4 ⟨rfl, hb4⟩
  have hp4 := (hp3.below hb4 (Nat.le_refl _)).more hb4.size
  have hX4 : Below w4.heap.size w4 (w4.alloc (.cells #[.int .i64 l1, .int .i64 d, .bool l2, .bool true] 28)) := (Below.refl _ _).alloc (Nat.le_refl _) _
  have hp5 := (hp4.below hX4 (Nat.le_refl _)).more hX4.size
  have s4 := (s3.step hb4).alloc (.cells #[.int .i64 l1, .int .i64 d, .bool l2, .bool true] 28)
  have x4 := Bk.new w4 28 #[.int .i64 l1, .int .i64 d, .bool l2, .bool true]
  clear c0 c1 cz
  obtain ⟨c0, c1, cz⟩ := s4.cells
  go_wp2_with fail
  obtain ⟨v4, hv4⟩ : ∃ v4, w4.alloc (.cells #[.int .i64 l1, .int .i64 d, .bool l2, .bool true] 28) = v4 := ⟨_, rfl⟩
  obtain ⟨xb, hxb⟩ : ∃ xb, w4.heap.size = xb := ⟨_, rfl⟩
  rw [hv4] at s4 x4 hp5 ⊢
  rw [hxb] at x4 ⊢
  clear hX4 hv4 hxb c0 c1 cz
  have hL4 := (hL.below s4.bl (Nat.le_refl _)).more s4.bl.size
  refine (HCH.out _ _ _ _ _ s4.rd hL4).mono ?_
  rintro e w5 ⟨rfl, hb5⟩
  have s5 := s4.step hb5
  have x5 := x4.below hb5 x4.lt
  have hp6 := (hp5.below hb5 (Nat.le_refl _)).more hb5.size
  obtain ⟨c0, c1, cz⟩ := s5.cells
  have e0 := x5.cell 0
  have e1 := x5.cell 1
  have e2 := x5.cell 2
  have e3 := x5.cell 3
  have el := x5.lt
  simp only [List.getElem?_toArray, List.getElem?_cons_zero, List.getElem?_cons_succ] at e0 e1 e2 e3
  go_wp2_with fail
  refine (HC1.out _ _ _ _ _ s5.rd hp6).mono ?_
  rintro e w6 ⟨rfl, hb6⟩
  have s6 := s5.step hb6
  have x6 := x5.below hb6 x5.lt
  have hp7 := (hp6.below hb6 (Nat.le_refl _)).more hb6.size
  clear c0 c1 cz e0 e1 e2 e3 el
  obtain ⟨c0, c1, cz⟩ := s6.cells
  go_wp2_with fail
  refine (HC2.out _ _ _ _ _ s6.rd hp7).mono ?_
  rintro e w7 ⟨rfl, hb7⟩
  have s7 := s6.step hb7
  have x7 := x6.below hb7 x6.lt
  clear c0 c1 cz
  obtain ⟨c0, c1, cz⟩ := s7.cells
  go_wp2_with fail
  have hY8 := (hY.below s7.bl (Nat.le_refl _)).more s7.bl.size
  refine (HKE.out _ _ _ _ _ s7.rd hY8).mono ?_
  rintro e w8 ⟨rfl, hb8⟩
  have s8 := s7.step hb8
  have x8 := x7.below hb8 x7.lt
  have hY9 := (hY8.below hb8 (Nat.le_refl _)).more hb8.size
  clear c0 c1 cz
  go_wp2_with fail
  refine (alive_any _).mono ?_
  rintro e wz ⟨rfl, hbz⟩
  have sz := s8.step hbz
  go_wp2_with fail
  go_ret
  exact ⟨rfl, sz.bl⟩

set_option maxRecDepth 100000 in
set_option maxHeartbeats 2000000 in
include hR hn hY hL hf hy20 hl60 in
theorem sharp_tt_no2 (d l1 : Int) (l2 : Bool) (p : List Nat) (i : Int) (HDI : Hid (DiC d true 0 N bs a b)) (HPA : Hid (PaC p 0 N bs a b)) (HBT : Hid (BwC l1 d l2 true N bs a b)) (HCH : Hid (ChC l most true N bs a b)) (hd0 : -1000000000000000 ≤ d) (hd1 : d ≤ 1000000000000000) (HC1 : Hid (CpC p d true N bs a b)) (HC2 : Hid (CpC p (d - 1) false N bs a b)) (hdm : d ≤ most) (HKE : Hid (KxC y i false 0 N bs)) : Calls Try.prog 5 #[.agg #[.int .i64 N, .slice A bs.length c], .slice Ay y.length cy, .slice Al l.length cl, .int .i64 a, .int .i64 b, .int .i64 most] w fun e w' => e = .returned (.bool true) ∧ Below w.heap.size w w' := by
  have s0 := Sy.new (w := w) N c hR
  have HF := Lib.hid hf
  clear hf
  go_enter Try.func5, Try.ntmps5
  go_wp2_with fail
  refine (some_law N A bs.length c hn _).mono ?_
  rw [HF.out]
  rintro e w1 ⟨rfl, hb1⟩
  have s1 := s0.step hb1
  obtain ⟨c0, c1, cz⟩ := s1.cells
  go_wp2_with fail
  refine (HDI.out _ _ _ s1.rd).mono ?_
  rintro e w2 ⟨rfl, hb2⟩
  have s2 := s1.step hb2
  clear c0 c1 cz
  obtain ⟨c0, c1, cz⟩ := s2.cells
  go_wp2_with fail
  refine (HPA.out _ _ _ s2.rd).mono ?_
  rintro e w3 ⟨Ap, cp, rfl, hp3, hb3⟩
  have s3 := s2.step hb3
  clear c0 c1 cz
  obtain ⟨c0, c1, cz⟩ := s3.cells
  go_wp2_with fail
  refine (HBT.out _ _ _ s3.rd).mono ?_
  rintro e w4 ⟨rfl, hb4⟩
  have hp4 := (hp3.below hb4 (Nat.le_refl _)).more hb4.size
  have hX4 : Below w4.heap.size w4 (w4.alloc (.cells #[.int .i64 l1, .int .i64 d, .bool l2, .bool true] 28)) := (Below.refl _ _).alloc (Nat.le_refl _) _
  have hp5 := (hp4.below hX4 (Nat.le_refl _)).more hX4.size
  have s4 := (s3.step hb4).alloc (.cells #[.int .i64 l1, .int .i64 d, .bool l2, .bool true] 28)
  have x4 := Bk.new w4 28 #[.int .i64 l1, .int .i64 d, .bool l2, .bool true]
  clear c0 c1 cz
  obtain ⟨c0, c1, cz⟩ := s4.cells
  go_wp2_with fail
  obtain ⟨v4, hv4⟩ : ∃ v4, w4.alloc (.cells #[.int .i64 l1, .int .i64 d, .bool l2, .bool true] 28) = v4 := ⟨_, rfl⟩
  obtain ⟨xb, hxb⟩ : ∃ xb, w4.heap.size = xb := ⟨_, rfl⟩
  rw [hv4] at s4 x4 hp5 ⊢
  rw [hxb] at x4 ⊢
  clear hX4 hv4 hxb c0 c1 cz
  have hL4 := (hL.below s4.bl (Nat.le_refl _)).more s4.bl.size
  refine (HCH.out _ _ _ _ _ s4.rd hL4).mono ?_
  rintro e w5 ⟨rfl, hb5⟩
  have s5 := s4.step hb5
  have x5 := x4.below hb5 x4.lt
  have hp6 := (hp5.below hb5 (Nat.le_refl _)).more hb5.size
  obtain ⟨c0, c1, cz⟩ := s5.cells
  have e0 := x5.cell 0
  have e1 := x5.cell 1
  have e2 := x5.cell 2
  have e3 := x5.cell 3
  have el := x5.lt
  simp only [List.getElem?_toArray, List.getElem?_cons_zero, List.getElem?_cons_succ] at e0 e1 e2 e3
  go_wp2_with fail
  refine (HC1.out _ _ _ _ _ s5.rd hp6).mono ?_
  rintro e w6 ⟨rfl, hb6⟩
  have s6 := s5.step hb6
  have x6 := x5.below hb6 x5.lt
  have hp7 := (hp6.below hb6 (Nat.le_refl _)).more hb6.size
  clear c0 c1 cz e0 e1 e2 e3 el
  obtain ⟨c0, c1, cz⟩ := s6.cells
  go_wp2_with fail
  refine (HC2.out _ _ _ _ _ s6.rd hp7).mono ?_
  rintro e w7 ⟨rfl, hb7⟩
  have s7 := s6.step hb7
  have x7 := x6.below hb7 x6.lt
  clear c0 c1 cz
  obtain ⟨c0, c1, cz⟩ := s7.cells
  go_wp2_with fail
  have hY8 := (hY.below s7.bl (Nat.le_refl _)).more s7.bl.size
  refine (HKE.out _ _ _ _ _ s7.rd hY8).mono ?_
  rintro e w8 ⟨rfl, hb8⟩
  have s8 := s7.step hb8
  have x8 := x7.below hb8 x7.lt
  have hY9 := (hY8.below hb8 (Nat.le_refl _)).more hb8.size
  clear c0 c1 cz
  go_wp2_with fail
  refine (alive_any _).mono ?_
  rintro e wz ⟨rfl, hbz⟩
  have sz := s8.step hbz
  go_wp2_with fail
  go_ret
  exact ⟨rfl, sz.bl⟩

set_option maxRecDepth 100000 in
set_option maxHeartbeats 2000000 in
include hR hn hY hL hf hy20 hl60 in
theorem sharp_tt_yes_t (d l1 : Int) (p : List Nat) (i : Int) (HDI : Hid (DiC d true 0 N bs a b)) (HPA : Hid (PaC p 0 N bs a b)) (HBT : Hid (BwC l1 d true true N bs a b)) (HCH : Hid (ChC l most true N bs a b)) (hd0 : -1000000000000000 ≤ d) (hd1 : d ≤ 1000000000000000) (HC1 : Hid (CpC p d true N bs a b)) (HC2 : Hid (CpC p (d - 1) false N bs a b)) (hdm : d ≤ most) (HKE : Hid (KxC y i true 0 N bs)) (an bn : Nat) (ha : a = an) (hb : b = bn) (hal : an < y.length) (hbl : bn < y.length) (ya yb : Int) (hya : Ln.gt y an = ya) (hyb : Ln.gt y bn = yb) (b0 : -400000000 ≤ ya) (b1 : ya ≤ 400000000) (b2 : -400000000 ≤ yb) (b3 : yb ≤ 400000000) (k1 : yb - ya ≤ most) (k2 : yb - ya ≤ d) (k3 : l1 ≤ yb - ya) : Calls Try.prog 5 #[.agg #[.int .i64 N, .slice A bs.length c], .slice Ay y.length cy, .slice Al l.length cl, .int .i64 a, .int .i64 b, .int .i64 most] w fun e w' => e = .returned (.bool true) ∧ Below w.heap.size w w' := by
  have s0 := Sy.new (w := w) N c hR
  have HF := Lib.hid hf
  clear hf
  subst ha
  subst hb
  have HA := Lib.hid hya
  have HB := Lib.hid hyb
  clear hya hyb
  go_enter Try.func5, Try.ntmps5
  go_wp2_with fail
  refine (some_law N A bs.length c hn _).mono ?_
  rw [HF.out]
  rintro e w1 ⟨rfl, hb1⟩
  have s1 := s0.step hb1
  obtain ⟨c0, c1, cz⟩ := s1.cells
  go_wp2_with fail
  refine (HDI.out _ _ _ s1.rd).mono ?_
  rintro e w2 ⟨rfl, hb2⟩
  have s2 := s1.step hb2
  clear c0 c1 cz
  obtain ⟨c0, c1, cz⟩ := s2.cells
  go_wp2_with fail
  refine (HPA.out _ _ _ s2.rd).mono ?_
  rintro e w3 ⟨Ap, cp, rfl, hp3, hb3⟩
  have s3 := s2.step hb3
  clear c0 c1 cz
  obtain ⟨c0, c1, cz⟩ := s3.cells
  go_wp2_with fail
  refine (HBT.out _ _ _ s3.rd).mono ?_
  rintro e w4 ⟨rfl, hb4⟩
  have hp4 := (hp3.below hb4 (Nat.le_refl _)).more hb4.size
  have hX4 : Below w4.heap.size w4 (w4.alloc (.cells #[.int .i64 l1, .int .i64 d, .bool true, .bool true] 28)) := (Below.refl _ _).alloc (Nat.le_refl _) _
  have hp5 := (hp4.below hX4 (Nat.le_refl _)).more hX4.size
  have s4 := (s3.step hb4).alloc (.cells #[.int .i64 l1, .int .i64 d, .bool true, .bool true] 28)
  have x4 := Bk.new w4 28 #[.int .i64 l1, .int .i64 d, .bool true, .bool true]
  clear c0 c1 cz
  obtain ⟨c0, c1, cz⟩ := s4.cells
  go_wp2_with fail
  obtain ⟨v4, hv4⟩ : ∃ v4, w4.alloc (.cells #[.int .i64 l1, .int .i64 d, .bool true, .bool true] 28) = v4 := ⟨_, rfl⟩
  obtain ⟨xb, hxb⟩ : ∃ xb, w4.heap.size = xb := ⟨_, rfl⟩
  rw [hv4] at s4 x4 hp5 ⊢
  rw [hxb] at x4 ⊢
  clear hX4 hv4 hxb c0 c1 cz
  have hL4 := (hL.below s4.bl (Nat.le_refl _)).more s4.bl.size
  refine (HCH.out _ _ _ _ _ s4.rd hL4).mono ?_
  rintro e w5 ⟨rfl, hb5⟩
  have s5 := s4.step hb5
  have x5 := x4.below hb5 x4.lt
  have hp6 := (hp5.below hb5 (Nat.le_refl _)).more hb5.size
  obtain ⟨c0, c1, cz⟩ := s5.cells
  have e0 := x5.cell 0
  have e1 := x5.cell 1
  have e2 := x5.cell 2
  have e3 := x5.cell 3
  have el := x5.lt
  simp only [List.getElem?_toArray, List.getElem?_cons_zero, List.getElem?_cons_succ] at e0 e1 e2 e3
  go_wp2_with fail
  refine (HC1.out _ _ _ _ _ s5.rd hp6).mono ?_
  rintro e w6 ⟨rfl, hb6⟩
  have s6 := s5.step hb6
  have x6 := x5.below hb6 x5.lt
  have hp7 := (hp6.below hb6 (Nat.le_refl _)).more hb6.size
  clear c0 c1 cz e0 e1 e2 e3 el
  obtain ⟨c0, c1, cz⟩ := s6.cells
  go_wp2_with fail
  refine (HC2.out _ _ _ _ _ s6.rd hp7).mono ?_
  rintro e w7 ⟨rfl, hb7⟩
  have s7 := s6.step hb7
  have x7 := x6.below hb7 x6.lt
  clear c0 c1 cz
  obtain ⟨c0, c1, cz⟩ := s7.cells
  go_wp2_with fail
  have hY8 := (hY.below s7.bl (Nat.le_refl _)).more s7.bl.size
  refine (HKE.out _ _ _ _ _ s7.rd hY8).mono ?_
  rintro e w8 ⟨rfl, hb8⟩
  have s8 := s7.step hb8
  have x8 := x7.below hb8 x7.lt
  have hY9 := (hY8.below hb8 (Nat.le_refl _)).more hb8.size
  clear c0 c1 cz
  obtain ⟨ba, oa, rfl, hba, ea⟩ := hY9.gt (k := an) hal
  obtain ⟨bb, ob, eb0, hbb, eb⟩ := hY9.gt (k := bn) hbl
  cases eb0
  rw [HA.out] at ea
  rw [HB.out] at eb
  have hi0 : (0 : Int) ≤ (an : Int) := Int.natCast_nonneg _
  have hi1 : (0 : Int) ≤ (bn : Int) := Int.natCast_nonneg _
  have hi2 : (an : Int) < y.length := by omega
  have hi3 : (bn : Int) < y.length := by omega
  go_wp2_with fail
  go_quiet (fail)
  go_wp2_with fail
  refine (alive_any _).mono ?_
  rintro e wz ⟨rfl, hbz⟩
  have hbz' := (below_drewN (Below.refl w8.heap.size w8) _).trans hbz
  have sz := s8.step hbz'
  have xz := x8.below hbz' x8.lt
  have f0 := xz.cell 0
  have f1 := xz.cell 1
  have f2 := xz.cell 2
  have f3 := xz.cell 3
  have fl := xz.lt
  simp only [List.getElem?_toArray, List.getElem?_cons_zero, List.getElem?_cons_succ] at f0 f1 f2 f3
  go_wp2_with fail
  go_ret
  exact ⟨rfl, sz.bl⟩

set_option maxRecDepth 100000 in
set_option maxHeartbeats 2000000 in
include hR hn hY hL hf hy20 hl60 in
theorem sharp_tt_yes_f (d l1 : Int) (p : List Nat) (i : Int) (HDI : Hid (DiC d true 0 N bs a b)) (HPA : Hid (PaC p 0 N bs a b)) (HBT : Hid (BwC l1 d false true N bs a b)) (HCH : Hid (ChC l most true N bs a b)) (hd0 : -1000000000000000 ≤ d) (hd1 : d ≤ 1000000000000000) (HC1 : Hid (CpC p d true N bs a b)) (HC2 : Hid (CpC p (d - 1) false N bs a b)) (hdm : d ≤ most) (HKE : Hid (KxC y i true 0 N bs)) (an bn : Nat) (ha : a = an) (hb : b = bn) (hal : an < y.length) (hbl : bn < y.length) (ya yb : Int) (hya : Ln.gt y an = ya) (hyb : Ln.gt y bn = yb) (b0 : -400000000 ≤ ya) (b1 : ya ≤ 400000000) (b2 : -400000000 ≤ yb) (b3 : yb ≤ 400000000) (k1 : yb - ya ≤ most) (k2 : yb - ya ≤ d) : Calls Try.prog 5 #[.agg #[.int .i64 N, .slice A bs.length c], .slice Ay y.length cy, .slice Al l.length cl, .int .i64 a, .int .i64 b, .int .i64 most] w fun e w' => e = .returned (.bool true) ∧ Below w.heap.size w w' := by
  have s0 := Sy.new (w := w) N c hR
  have HF := Lib.hid hf
  clear hf
  subst ha
  subst hb
  have HA := Lib.hid hya
  have HB := Lib.hid hyb
  clear hya hyb
  go_enter Try.func5, Try.ntmps5
  go_wp2_with fail
  refine (some_law N A bs.length c hn _).mono ?_
  rw [HF.out]
  rintro e w1 ⟨rfl, hb1⟩
  have s1 := s0.step hb1
  obtain ⟨c0, c1, cz⟩ := s1.cells
  go_wp2_with fail
  refine (HDI.out _ _ _ s1.rd).mono ?_
  rintro e w2 ⟨rfl, hb2⟩
  have s2 := s1.step hb2
  clear c0 c1 cz
  obtain ⟨c0, c1, cz⟩ := s2.cells
  go_wp2_with fail
  refine (HPA.out _ _ _ s2.rd).mono ?_
  rintro e w3 ⟨Ap, cp, rfl, hp3, hb3⟩
  have s3 := s2.step hb3
  clear c0 c1 cz
  obtain ⟨c0, c1, cz⟩ := s3.cells
  go_wp2_with fail
  refine (HBT.out _ _ _ s3.rd).mono ?_
  rintro e w4 ⟨rfl, hb4⟩
  have hp4 := (hp3.below hb4 (Nat.le_refl _)).more hb4.size
  have hX4 : Below w4.heap.size w4 (w4.alloc (.cells #[.int .i64 l1, .int .i64 d, .bool false, .bool true] 28)) := (Below.refl _ _).alloc (Nat.le_refl _) _
  have hp5 := (hp4.below hX4 (Nat.le_refl _)).more hX4.size
  have s4 := (s3.step hb4).alloc (.cells #[.int .i64 l1, .int .i64 d, .bool false, .bool true] 28)
  have x4 := Bk.new w4 28 #[.int .i64 l1, .int .i64 d, .bool false, .bool true]
  clear c0 c1 cz
  obtain ⟨c0, c1, cz⟩ := s4.cells
  go_wp2_with fail
  obtain ⟨v4, hv4⟩ : ∃ v4, w4.alloc (.cells #[.int .i64 l1, .int .i64 d, .bool false, .bool true] 28) = v4 := ⟨_, rfl⟩
  obtain ⟨xb, hxb⟩ : ∃ xb, w4.heap.size = xb := ⟨_, rfl⟩
  rw [hv4] at s4 x4 hp5 ⊢
  rw [hxb] at x4 ⊢
  clear hX4 hv4 hxb c0 c1 cz
  have hL4 := (hL.below s4.bl (Nat.le_refl _)).more s4.bl.size
  refine (HCH.out _ _ _ _ _ s4.rd hL4).mono ?_
  rintro e w5 ⟨rfl, hb5⟩
  have s5 := s4.step hb5
  have x5 := x4.below hb5 x4.lt
  have hp6 := (hp5.below hb5 (Nat.le_refl _)).more hb5.size
  obtain ⟨c0, c1, cz⟩ := s5.cells
  have e0 := x5.cell 0
  have e1 := x5.cell 1
  have e2 := x5.cell 2
  have e3 := x5.cell 3
  have el := x5.lt
  simp only [List.getElem?_toArray, List.getElem?_cons_zero, List.getElem?_cons_succ] at e0 e1 e2 e3
  go_wp2_with fail
  refine (HC1.out _ _ _ _ _ s5.rd hp6).mono ?_
  rintro e w6 ⟨rfl, hb6⟩
  have s6 := s5.step hb6
  have x6 := x5.below hb6 x5.lt
  have hp7 := (hp6.below hb6 (Nat.le_refl _)).more hb6.size
  clear c0 c1 cz e0 e1 e2 e3 el
  obtain ⟨c0, c1, cz⟩ := s6.cells
  go_wp2_with fail
  refine (HC2.out _ _ _ _ _ s6.rd hp7).mono ?_
  rintro e w7 ⟨rfl, hb7⟩
  have s7 := s6.step hb7
  have x7 := x6.below hb7 x6.lt
  clear c0 c1 cz
  obtain ⟨c0, c1, cz⟩ := s7.cells
  go_wp2_with fail
  have hY8 := (hY.below s7.bl (Nat.le_refl _)).more s7.bl.size
  refine (HKE.out _ _ _ _ _ s7.rd hY8).mono ?_
  rintro e w8 ⟨rfl, hb8⟩
  have s8 := s7.step hb8
  have x8 := x7.below hb8 x7.lt
  have hY9 := (hY8.below hb8 (Nat.le_refl _)).more hb8.size
  clear c0 c1 cz
  obtain ⟨ba, oa, rfl, hba, ea⟩ := hY9.gt (k := an) hal
  obtain ⟨bb, ob, eb0, hbb, eb⟩ := hY9.gt (k := bn) hbl
  cases eb0
  rw [HA.out] at ea
  rw [HB.out] at eb
  have hi0 : (0 : Int) ≤ (an : Int) := Int.natCast_nonneg _
  have hi1 : (0 : Int) ≤ (bn : Int) := Int.natCast_nonneg _
  have hi2 : (an : Int) < y.length := by omega
  have hi3 : (bn : Int) < y.length := by omega
  go_wp2_with fail
  go_quiet (fail)
  go_wp2_with fail
  refine (alive_any _).mono ?_
  rintro e wz ⟨rfl, hbz⟩
  have hbz' := (below_drewN (Below.refl w8.heap.size w8) _).trans hbz
  have sz := s8.step hbz'
  have xz := x8.below hbz' x8.lt
  have f0 := xz.cell 0
  have f1 := xz.cell 1
  have f2 := xz.cell 2
  have f3 := xz.cell 3
  have fl := xz.lt
  simp only [List.getElem?_toArray, List.getElem?_cons_zero, List.getElem?_cons_succ] at f0 f1 f2 f3
  go_wp2_with fail
  go_ret
  exact ⟨rfl, sz.bl⟩

set_option maxRecDepth 100000 in
set_option maxHeartbeats 2000000 in
include hR hn hY hL hf hy20 hl60 in
theorem sharp_tf_no1 (d l1 : Int) (l2 : Bool) (p : List Nat) (i : Int) (HDI : Hid (DiC d true 0 N bs a b)) (HPA : Hid (PaC p 0 N bs a b)) (HBT : Hid (BwC l1 d l2 true N bs a b)) (HCH : Hid (ChC l most false N bs a b)) (hd0 : -1000000000000000 ≤ d) (hd1 : d ≤ 1000000000000000) (HC1 : Hid (CpC p d true N bs a b)) (HC2 : Hid (CpC p (d - 1) false N bs a b)) (r : Bool) (e0 : Int) (he : e0 ≠ 0) (HKE : Hid (KxC y i r e0 N bs)) : Calls Try.prog 5 #[.agg #[.int .i64 N, .slice A bs.length c], .slice Ay y.length cy, .slice Al l.length cl, .int .i64 a, .int .i64 b, .int .i64 most] w fun e w' => e = .returned (.bool true) ∧ Below w.heap.size w w' := by
  have s0 := Sy.new (w := w) N c hR
  have HF := Lib.hid hf
  clear hf
  have hne : (e0 != 0) = true := by simp [he]
  clear he
  go_enter Try.func5, Try.ntmps5
  go_wp2_with fail
  refine (some_law N A bs.length c hn _).mono ?_
  rw [HF.out]
  rintro e w1 ⟨rfl, hb1⟩
  have s1 := s0.step hb1
  obtain ⟨c0, c1, cz⟩ := s1.cells
  go_wp2_with fail
  refine (HDI.out _ _ _ s1.rd).mono ?_
  rintro e w2 ⟨rfl, hb2⟩
  have s2 := s1.step hb2
  clear c0 c1 cz
  obtain ⟨c0, c1, cz⟩ := s2.cells
  go_wp2_with fail
  refine (HPA.out _ _ _ s2.rd).mono ?_
  rintro e w3 ⟨Ap, cp, rfl, hp3, hb3⟩
  have s3 := s2.step hb3
  clear c0 c1 cz
  obtain ⟨c0, c1, cz⟩ := s3.cells
  go_wp2_with fail
  refine (HBT.out _ _ _ s3.rd).mono ?_
  rintro e w4 ⟨rfl, hb4⟩
  have hp4 := (hp3.below hb4 (Nat.le_refl _)).more hb4.size
  have hX4 : Below w4.heap.size w4 (w4.alloc (.cells #[.int .i64 l1, .int .i64 d, .bool l2, .bool true] 28)) := (Below.refl _ _).alloc (Nat.le_refl _) _
  have hp5 := (hp4.below hX4 (Nat.le_refl _)).more hX4.size
  have s4 := (s3.step hb4).alloc (.cells #[.int .i64 l1, .int .i64 d, .bool l2, .bool true] 28)
  have x4 := Bk.new w4 28 #[.int .i64 l1, .int .i64 d, .bool l2, .bool true]
  clear c0 c1 cz
  obtain ⟨c0, c1, cz⟩ := s4.cells
  go_wp2_with fail
  obtain ⟨v4, hv4⟩ : ∃ v4, w4.alloc (.cells #[.int .i64 l1, .int .i64 d, .bool l2, .bool true] 28) = v4 := ⟨_, rfl⟩
  obtain ⟨xb, hxb⟩ : ∃ xb, w4.heap.size = xb := ⟨_, rfl⟩
  rw [hv4] at s4 x4 hp5 ⊢
  rw [hxb] at x4 ⊢
  clear hX4 hv4 hxb c0 c1 cz
  have hL4 := (hL.below s4.bl (Nat.le_refl _)).more s4.bl.size
  refine (HCH.out _ _ _ _ _ s4.rd hL4).mono ?_
  rintro e w5 ⟨rfl, hb5⟩
  have s5 := s4.step hb5
  have x5 := x4.below hb5 x4.lt
  have hp6 := (hp5.below hb5 (Nat.le_refl _)).more hb5.size
  obtain ⟨c0, c1, cz⟩ := s5.cells
  have e0 := x5.cell 0
  have e1 := x5.cell 1
  have e2 := x5.cell 2
  have e3 := x5.cell 3
  have el := x5.lt
  simp only [List.getElem?_toArray, List.getElem?_cons_zero, List.getElem?_cons_succ] at e0 e1 e2 e3
  go_wp2_with fail
  refine (HC1.out _ _ _ _ _ s5.rd hp6).mono ?_
  rintro e w6 ⟨rfl, hb6⟩
  have s6 := s5.step hb6
  have x6 := x5.below hb6 x5.lt
  have hp7 := (hp6.below hb6 (Nat.le_refl _)).more hb6.size
  clear c0 c1 cz e0 e1 e2 e3 el
  obtain ⟨c0, c1, cz⟩ := s6.cells
  go_wp2_with fail
  refine (HC2.out _ _ _ _ _ s6.rd hp7).mono ?_
  rintro e w7 ⟨rfl, hb7⟩
  have s7 := s6.step hb7
  have x7 := x6.below hb7 x6.lt
  clear c0 c1 cz
  obtain ⟨c0, c1, cz⟩ := s7.cells
  go_wp2_with fail
  have hY8 := (hY.below s7.bl (Nat.le_refl _)).more s7.bl.size
  refine (HKE.out _ _ _ _ _ s7.rd hY8).mono ?_
  rintro e w8 ⟨rfl, hb8⟩
  have s8 := s7.step hb8
  have x8 := x7.below hb8 x7.lt
  have hY9 := (hY8.below hb8 (Nat.le_refl _)).more hb8.size
  clear c0 c1 cz
  go_wp2_with fail
  refine (alive_any _).mono ?_
  rintro e wz ⟨rfl, hbz⟩
  have sz := s8.step hbz
  go_wp2_with fail
  go_ret
  exact ⟨rfl, sz.bl⟩

set_option maxRecDepth 100000 in
set_option maxHeartbeats 2000000 in
include hR hn hY hL hf hy20 hl60 in
theorem sharp_tf_no2 (d l1 : Int) (l2 : Bool) (p : List Nat) (i : Int) (HDI : Hid (DiC d true 0 N bs a b)) (HPA : Hid (PaC p 0 N bs a b)) (HBT : Hid (BwC l1 d l2 true N bs a b)) (HCH : Hid (ChC l most false N bs a b)) (hd0 : -1000000000000000 ≤ d) (hd1 : d ≤ 1000000000000000) (HC1 : Hid (CpC p d true N bs a b)) (HC2 : Hid (CpC p (d - 1) false N bs a b)) (HKE : Hid (KxC y i false 0 N bs)) : Calls Try.prog 5 #[.agg #[.int .i64 N, .slice A bs.length c], .slice Ay y.length cy, .slice Al l.length cl, .int .i64 a, .int .i64 b, .int .i64 most] w fun e w' => e = .returned (.bool true) ∧ Below w.heap.size w w' := by
  have s0 := Sy.new (w := w) N c hR
  have HF := Lib.hid hf
  clear hf
  go_enter Try.func5, Try.ntmps5
  go_wp2_with fail
  refine (some_law N A bs.length c hn _).mono ?_
  rw [HF.out]
  rintro e w1 ⟨rfl, hb1⟩
  have s1 := s0.step hb1
  obtain ⟨c0, c1, cz⟩ := s1.cells
  go_wp2_with fail
  refine (HDI.out _ _ _ s1.rd).mono ?_
  rintro e w2 ⟨rfl, hb2⟩
  have s2 := s1.step hb2
  clear c0 c1 cz
  obtain ⟨c0, c1, cz⟩ := s2.cells
  go_wp2_with fail
  refine (HPA.out _ _ _ s2.rd).mono ?_
  rintro e w3 ⟨Ap, cp, rfl, hp3, hb3⟩
  have s3 := s2.step hb3
  clear c0 c1 cz
  obtain ⟨c0, c1, cz⟩ := s3.cells
  go_wp2_with fail
  refine (HBT.out _ _ _ s3.rd).mono ?_
  rintro e w4 ⟨rfl, hb4⟩
  have hp4 := (hp3.below hb4 (Nat.le_refl _)).more hb4.size
  have hX4 : Below w4.heap.size w4 (w4.alloc (.cells #[.int .i64 l1, .int .i64 d, .bool l2, .bool true] 28)) := (Below.refl _ _).alloc (Nat.le_refl _) _
  have hp5 := (hp4.below hX4 (Nat.le_refl _)).more hX4.size
  have s4 := (s3.step hb4).alloc (.cells #[.int .i64 l1, .int .i64 d, .bool l2, .bool true] 28)
  have x4 := Bk.new w4 28 #[.int .i64 l1, .int .i64 d, .bool l2, .bool true]
  clear c0 c1 cz
  obtain ⟨c0, c1, cz⟩ := s4.cells
  go_wp2_with fail
  obtain ⟨v4, hv4⟩ : ∃ v4, w4.alloc (.cells #[.int .i64 l1, .int .i64 d, .bool l2, .bool true] 28) = v4 := ⟨_, rfl⟩
  obtain ⟨xb, hxb⟩ : ∃ xb, w4.heap.size = xb := ⟨_, rfl⟩
  rw [hv4] at s4 x4 hp5 ⊢
  rw [hxb] at x4 ⊢
  clear hX4 hv4 hxb c0 c1 cz
  have hL4 := (hL.below s4.bl (Nat.le_refl _)).more s4.bl.size
  refine (HCH.out _ _ _ _ _ s4.rd hL4).mono ?_
  rintro e w5 ⟨rfl, hb5⟩
  have s5 := s4.step hb5
  have x5 := x4.below hb5 x4.lt
  have hp6 := (hp5.below hb5 (Nat.le_refl _)).more hb5.size
  obtain ⟨c0, c1, cz⟩ := s5.cells
  have e0 := x5.cell 0
  have e1 := x5.cell 1
  have e2 := x5.cell 2
  have e3 := x5.cell 3
  have el := x5.lt
  simp only [List.getElem?_toArray, List.getElem?_cons_zero, List.getElem?_cons_succ] at e0 e1 e2 e3
  go_wp2_with fail
  refine (HC1.out _ _ _ _ _ s5.rd hp6).mono ?_
  rintro e w6 ⟨rfl, hb6⟩
  have s6 := s5.step hb6
  have x6 := x5.below hb6 x5.lt
  have hp7 := (hp6.below hb6 (Nat.le_refl _)).more hb6.size
  clear c0 c1 cz e0 e1 e2 e3 el
  obtain ⟨c0, c1, cz⟩ := s6.cells
  go_wp2_with fail
  refine (HC2.out _ _ _ _ _ s6.rd hp7).mono ?_
  rintro e w7 ⟨rfl, hb7⟩
  have s7 := s6.step hb7
  have x7 := x6.below hb7 x6.lt
  clear c0 c1 cz
  obtain ⟨c0, c1, cz⟩ := s7.cells
  go_wp2_with fail
  have hY8 := (hY.below s7.bl (Nat.le_refl _)).more s7.bl.size
  refine (HKE.out _ _ _ _ _ s7.rd hY8).mono ?_
  rintro e w8 ⟨rfl, hb8⟩
  have s8 := s7.step hb8
  have x8 := x7.below hb8 x7.lt
  have hY9 := (hY8.below hb8 (Nat.le_refl _)).more hb8.size
  clear c0 c1 cz
  go_wp2_with fail
  refine (alive_any _).mono ?_
  rintro e wz ⟨rfl, hbz⟩
  have sz := s8.step hbz
  go_wp2_with fail
  go_ret
  exact ⟨rfl, sz.bl⟩

set_option maxRecDepth 100000 in
set_option maxHeartbeats 2000000 in
include hR hn hY hL hf hy20 hl60 in
theorem sharp_tf_yes_t (d l1 : Int) (p : List Nat) (i : Int) (HDI : Hid (DiC d true 0 N bs a b)) (HPA : Hid (PaC p 0 N bs a b)) (HBT : Hid (BwC l1 d true true N bs a b)) (HCH : Hid (ChC l most false N bs a b)) (hd0 : -1000000000000000 ≤ d) (hd1 : d ≤ 1000000000000000) (HC1 : Hid (CpC p d true N bs a b)) (HC2 : Hid (CpC p (d - 1) false N bs a b)) (HKE : Hid (KxC y i true 0 N bs)) (an bn : Nat) (ha : a = an) (hb : b = bn) (hal : an < y.length) (hbl : bn < y.length) (ya yb : Int) (hya : Ln.gt y an = ya) (hyb : Ln.gt y bn = yb) (b0 : -400000000 ≤ ya) (b1 : ya ≤ 400000000) (b2 : -400000000 ≤ yb) (b3 : yb ≤ 400000000) (k2 : yb - ya ≤ d) (k3 : l1 ≤ yb - ya) : Calls Try.prog 5 #[.agg #[.int .i64 N, .slice A bs.length c], .slice Ay y.length cy, .slice Al l.length cl, .int .i64 a, .int .i64 b, .int .i64 most] w fun e w' => e = .returned (.bool true) ∧ Below w.heap.size w w' := by
  have s0 := Sy.new (w := w) N c hR
  have HF := Lib.hid hf
  clear hf
  subst ha
  subst hb
  have HA := Lib.hid hya
  have HB := Lib.hid hyb
  clear hya hyb
  go_enter Try.func5, Try.ntmps5
  go_wp2_with fail
  refine (some_law N A bs.length c hn _).mono ?_
  rw [HF.out]
  rintro e w1 ⟨rfl, hb1⟩
  have s1 := s0.step hb1
  obtain ⟨c0, c1, cz⟩ := s1.cells
  go_wp2_with fail
  refine (HDI.out _ _ _ s1.rd).mono ?_
  rintro e w2 ⟨rfl, hb2⟩
  have s2 := s1.step hb2
  clear c0 c1 cz
  obtain ⟨c0, c1, cz⟩ := s2.cells
  go_wp2_with fail
  refine (HPA.out _ _ _ s2.rd).mono ?_
  rintro e w3 ⟨Ap, cp, rfl, hp3, hb3⟩
  have s3 := s2.step hb3
  clear c0 c1 cz
  obtain ⟨c0, c1, cz⟩ := s3.cells
  go_wp2_with fail
  refine (HBT.out _ _ _ s3.rd).mono ?_
  rintro e w4 ⟨rfl, hb4⟩
  have hp4 := (hp3.below hb4 (Nat.le_refl _)).more hb4.size
  have hX4 : Below w4.heap.size w4 (w4.alloc (.cells #[.int .i64 l1, .int .i64 d, .bool true, .bool true] 28)) := (Below.refl _ _).alloc (Nat.le_refl _) _
  have hp5 := (hp4.below hX4 (Nat.le_refl _)).more hX4.size
  have s4 := (s3.step hb4).alloc (.cells #[.int .i64 l1, .int .i64 d, .bool true, .bool true] 28)
  have x4 := Bk.new w4 28 #[.int .i64 l1, .int .i64 d, .bool true, .bool true]
  clear c0 c1 cz
  obtain ⟨c0, c1, cz⟩ := s4.cells
  go_wp2_with fail
  obtain ⟨v4, hv4⟩ : ∃ v4, w4.alloc (.cells #[.int .i64 l1, .int .i64 d, .bool true, .bool true] 28) = v4 := ⟨_, rfl⟩
  obtain ⟨xb, hxb⟩ : ∃ xb, w4.heap.size = xb := ⟨_, rfl⟩
  rw [hv4] at s4 x4 hp5 ⊢
  rw [hxb] at x4 ⊢
  clear hX4 hv4 hxb c0 c1 cz
  have hL4 := (hL.below s4.bl (Nat.le_refl _)).more s4.bl.size
  refine (HCH.out _ _ _ _ _ s4.rd hL4).mono ?_
  rintro e w5 ⟨rfl, hb5⟩
  have s5 := s4.step hb5
  have x5 := x4.below hb5 x4.lt
  have hp6 := (hp5.below hb5 (Nat.le_refl _)).more hb5.size
  obtain ⟨c0, c1, cz⟩ := s5.cells
  have e0 := x5.cell 0
  have e1 := x5.cell 1
  have e2 := x5.cell 2
  have e3 := x5.cell 3
  have el := x5.lt
  simp only [List.getElem?_toArray, List.getElem?_cons_zero, List.getElem?_cons_succ] at e0 e1 e2 e3
  go_wp2_with fail
  refine (HC1.out _ _ _ _ _ s5.rd hp6).mono ?_
  rintro e w6 ⟨rfl, hb6⟩
  have s6 := s5.step hb6
  have x6 := x5.below hb6 x5.lt
  have hp7 := (hp6.below hb6 (Nat.le_refl _)).more hb6.size
  clear c0 c1 cz e0 e1 e2 e3 el
  obtain ⟨c0, c1, cz⟩ := s6.cells
  go_wp2_with fail
  refine (HC2.out _ _ _ _ _ s6.rd hp7).mono ?_
  rintro e w7 ⟨rfl, hb7⟩
  have s7 := s6.step hb7
  have x7 := x6.below hb7 x6.lt
  clear c0 c1 cz
  obtain ⟨c0, c1, cz⟩ := s7.cells
  go_wp2_with fail
  have hY8 := (hY.below s7.bl (Nat.le_refl _)).more s7.bl.size
  refine (HKE.out _ _ _ _ _ s7.rd hY8).mono ?_
  rintro e w8 ⟨rfl, hb8⟩
  have s8 := s7.step hb8
  have x8 := x7.below hb8 x7.lt
  have hY9 := (hY8.below hb8 (Nat.le_refl _)).more hb8.size
  clear c0 c1 cz
  obtain ⟨ba, oa, rfl, hba, ea⟩ := hY9.gt (k := an) hal
  obtain ⟨bb, ob, eb0, hbb, eb⟩ := hY9.gt (k := bn) hbl
  cases eb0
  rw [HA.out] at ea
  rw [HB.out] at eb
  have hi0 : (0 : Int) ≤ (an : Int) := Int.natCast_nonneg _
  have hi1 : (0 : Int) ≤ (bn : Int) := Int.natCast_nonneg _
  have hi2 : (an : Int) < y.length := by omega
  have hi3 : (bn : Int) < y.length := by omega
  go_wp2_with fail
  go_quiet (fail)
  go_wp2_with fail
  refine (alive_any _).mono ?_
  rintro e wz ⟨rfl, hbz⟩
  have hbz' := (below_drewN (Below.refl w8.heap.size w8) _).trans hbz
  have sz := s8.step hbz'
  have xz := x8.below hbz' x8.lt
  have f0 := xz.cell 0
  have f1 := xz.cell 1
  have f2 := xz.cell 2
  have f3 := xz.cell 3
  have fl := xz.lt
  simp only [List.getElem?_toArray, List.getElem?_cons_zero, List.getElem?_cons_succ] at f0 f1 f2 f3
  go_wp2_with fail
  go_ret
  exact ⟨rfl, sz.bl⟩

set_option maxRecDepth 100000 in
set_option maxHeartbeats 2000000 in
include hR hn hY hL hf hy20 hl60 in
theorem sharp_tf_yes_f (d l1 : Int) (p : List Nat) (i : Int) (HDI : Hid (DiC d true 0 N bs a b)) (HPA : Hid (PaC p 0 N bs a b)) (HBT : Hid (BwC l1 d false true N bs a b)) (HCH : Hid (ChC l most false N bs a b)) (hd0 : -1000000000000000 ≤ d) (hd1 : d ≤ 1000000000000000) (HC1 : Hid (CpC p d true N bs a b)) (HC2 : Hid (CpC p (d - 1) false N bs a b)) (HKE : Hid (KxC y i true 0 N bs)) (an bn : Nat) (ha : a = an) (hb : b = bn) (hal : an < y.length) (hbl : bn < y.length) (ya yb : Int) (hya : Ln.gt y an = ya) (hyb : Ln.gt y bn = yb) (b0 : -400000000 ≤ ya) (b1 : ya ≤ 400000000) (b2 : -400000000 ≤ yb) (b3 : yb ≤ 400000000) (k2 : yb - ya ≤ d) : Calls Try.prog 5 #[.agg #[.int .i64 N, .slice A bs.length c], .slice Ay y.length cy, .slice Al l.length cl, .int .i64 a, .int .i64 b, .int .i64 most] w fun e w' => e = .returned (.bool true) ∧ Below w.heap.size w w' := by
  have s0 := Sy.new (w := w) N c hR
  have HF := Lib.hid hf
  clear hf
  subst ha
  subst hb
  have HA := Lib.hid hya
  have HB := Lib.hid hyb
  clear hya hyb
  go_enter Try.func5, Try.ntmps5
  go_wp2_with fail
  refine (some_law N A bs.length c hn _).mono ?_
  rw [HF.out]
  rintro e w1 ⟨rfl, hb1⟩
  have s1 := s0.step hb1
  obtain ⟨c0, c1, cz⟩ := s1.cells
  go_wp2_with fail
  refine (HDI.out _ _ _ s1.rd).mono ?_
  rintro e w2 ⟨rfl, hb2⟩
  have s2 := s1.step hb2
  clear c0 c1 cz
  obtain ⟨c0, c1, cz⟩ := s2.cells
  go_wp2_with fail
  refine (HPA.out _ _ _ s2.rd).mono ?_
  rintro e w3 ⟨Ap, cp, rfl, hp3, hb3⟩
  have s3 := s2.step hb3
  clear c0 c1 cz
  obtain ⟨c0, c1, cz⟩ := s3.cells
  go_wp2_with fail
  refine (HBT.out _ _ _ s3.rd).mono ?_
  rintro e w4 ⟨rfl, hb4⟩
  have hp4 := (hp3.below hb4 (Nat.le_refl _)).more hb4.size
  have hX4 : Below w4.heap.size w4 (w4.alloc (.cells #[.int .i64 l1, .int .i64 d, .bool false, .bool true] 28)) := (Below.refl _ _).alloc (Nat.le_refl _) _
  have hp5 := (hp4.below hX4 (Nat.le_refl _)).more hX4.size
  have s4 := (s3.step hb4).alloc (.cells #[.int .i64 l1, .int .i64 d, .bool false, .bool true] 28)
  have x4 := Bk.new w4 28 #[.int .i64 l1, .int .i64 d, .bool false, .bool true]
  clear c0 c1 cz
  obtain ⟨c0, c1, cz⟩ := s4.cells
  go_wp2_with fail
  obtain ⟨v4, hv4⟩ : ∃ v4, w4.alloc (.cells #[.int .i64 l1, .int .i64 d, .bool false, .bool true] 28) = v4 := ⟨_, rfl⟩
  obtain ⟨xb, hxb⟩ : ∃ xb, w4.heap.size = xb := ⟨_, rfl⟩
  rw [hv4] at s4 x4 hp5 ⊢
  rw [hxb] at x4 ⊢
  clear hX4 hv4 hxb c0 c1 cz
  have hL4 := (hL.below s4.bl (Nat.le_refl _)).more s4.bl.size
  refine (HCH.out _ _ _ _ _ s4.rd hL4).mono ?_
  rintro e w5 ⟨rfl, hb5⟩
  have s5 := s4.step hb5
  have x5 := x4.below hb5 x4.lt
  have hp6 := (hp5.below hb5 (Nat.le_refl _)).more hb5.size
  obtain ⟨c0, c1, cz⟩ := s5.cells
  have e0 := x5.cell 0
  have e1 := x5.cell 1
  have e2 := x5.cell 2
  have e3 := x5.cell 3
  have el := x5.lt
  simp only [List.getElem?_toArray, List.getElem?_cons_zero, List.getElem?_cons_succ] at e0 e1 e2 e3
  go_wp2_with fail
  refine (HC1.out _ _ _ _ _ s5.rd hp6).mono ?_
  rintro e w6 ⟨rfl, hb6⟩
  have s6 := s5.step hb6
  have x6 := x5.below hb6 x5.lt
  have hp7 := (hp6.below hb6 (Nat.le_refl _)).more hb6.size
  clear c0 c1 cz e0 e1 e2 e3 el
  obtain ⟨c0, c1, cz⟩ := s6.cells
  go_wp2_with fail
  refine (HC2.out _ _ _ _ _ s6.rd hp7).mono ?_
  rintro e w7 ⟨rfl, hb7⟩
  have s7 := s6.step hb7
  have x7 := x6.below hb7 x6.lt
  clear c0 c1 cz
  obtain ⟨c0, c1, cz⟩ := s7.cells
  go_wp2_with fail
  have hY8 := (hY.below s7.bl (Nat.le_refl _)).more s7.bl.size
  refine (HKE.out _ _ _ _ _ s7.rd hY8).mono ?_
  rintro e w8 ⟨rfl, hb8⟩
  have s8 := s7.step hb8
  have x8 := x7.below hb8 x7.lt
  have hY9 := (hY8.below hb8 (Nat.le_refl _)).more hb8.size
  clear c0 c1 cz
  obtain ⟨ba, oa, rfl, hba, ea⟩ := hY9.gt (k := an) hal
  obtain ⟨bb, ob, eb0, hbb, eb⟩ := hY9.gt (k := bn) hbl
  cases eb0
  rw [HA.out] at ea
  rw [HB.out] at eb
  have hi0 : (0 : Int) ≤ (an : Int) := Int.natCast_nonneg _
  have hi1 : (0 : Int) ≤ (bn : Int) := Int.natCast_nonneg _
  have hi2 : (an : Int) < y.length := by omega
  have hi3 : (bn : Int) < y.length := by omega
  go_wp2_with fail
  go_quiet (fail)
  go_wp2_with fail
  refine (alive_any _).mono ?_
  rintro e wz ⟨rfl, hbz⟩
  have hbz' := (below_drewN (Below.refl w8.heap.size w8) _).trans hbz
  have sz := s8.step hbz'
  have xz := x8.below hbz' x8.lt
  have f0 := xz.cell 0
  have f1 := xz.cell 1
  have f2 := xz.cell 2
  have f3 := xz.cell 3
  have fl := xz.lt
  simp only [List.getElem?_toArray, List.getElem?_cons_zero, List.getElem?_cons_succ] at f0 f1 f2 f3
  go_wp2_with fail
  go_ret
  exact ⟨rfl, sz.bl⟩

set_option maxRecDepth 100000 in
set_option maxHeartbeats 2000000 in
include hR hn hY hL hf hy20 hl60 in
theorem sharp_ff_no1 (d l1 : Int) (h1 : Int) (l2 : Bool) (p : List Nat) (i : Int) (HDI : Hid (DiC d false 0 N bs a b)) (HPA : Hid (PaC p 5 N bs a b)) (HBT : Hid (BwC l1 h1 l2 false N bs a b)) (HCH : Hid (ChC l most false N bs a b)) (r : Bool) (e0 : Int) (he : e0 ≠ 0) (HKE : Hid (KxC y i r e0 N bs)) : Calls Try.prog 5 #[.agg #[.int .i64 N, .slice A bs.length c], .slice Ay y.length cy, .slice Al l.length cl, .int .i64 a, .int .i64 b, .int .i64 most] w fun e w' => e = .returned (.bool true) ∧ Below w.heap.size w w' := by
  have s0 := Sy.new (w := w) N c hR
  have HF := Lib.hid hf
  clear hf
  have hne : (e0 != 0) = true := by simp [he]
  clear he
  go_enter Try.func5, Try.ntmps5
  go_wp2_with fail
  refine (some_law N A bs.length c hn _).mono ?_
  rw [HF.out]
  rintro e w1 ⟨rfl, hb1⟩
  have s1 := s0.step hb1
  obtain ⟨c0, c1, cz⟩ := s1.cells
  go_wp2_with fail
  refine (HDI.out _ _ _ s1.rd).mono ?_
  rintro e w2 ⟨rfl, hb2⟩
  have s2 := s1.step hb2
  clear c0 c1 cz
  obtain ⟨c0, c1, cz⟩ := s2.cells
  go_wp2_with fail
  refine (HPA.out _ _ _ s2.rd).mono ?_
  rintro e w3 ⟨Ap, cp, rfl, hp3, hb3⟩
  have s3 := s2.step hb3
  clear c0 c1 cz
  obtain ⟨c0, c1, cz⟩ := s3.cells
  go_wp2_with fail
  refine (HBT.out _ _ _ s3.rd).mono ?_
  rintro e w4 ⟨rfl, hb4⟩
  have hp4 := (hp3.below hb4 (Nat.le_refl _)).more hb4.size
  have hX4 : Below w4.heap.size w4 (w4.alloc (.cells #[.int .i64 l1, .int .i64 h1, .bool l2, .bool false] 28)) := (Below.refl _ _).alloc (Nat.le_refl _) _
  have hp5 := (hp4.below hX4 (Nat.le_refl _)).more hX4.size
  have s4 := (s3.step hb4).alloc (.cells #[.int .i64 l1, .int .i64 h1, .bool l2, .bool false] 28)
  have x4 := Bk.new w4 28 #[.int .i64 l1, .int .i64 h1, .bool l2, .bool false]
  clear c0 c1 cz
  obtain ⟨c0, c1, cz⟩ := s4.cells
  go_wp2_with fail
  obtain ⟨v4, hv4⟩ : ∃ v4, w4.alloc (.cells #[.int .i64 l1, .int .i64 h1, .bool l2, .bool false] 28) = v4 := ⟨_, rfl⟩
  obtain ⟨xb, hxb⟩ : ∃ xb, w4.heap.size = xb := ⟨_, rfl⟩
  rw [hv4] at s4 x4 hp5 ⊢
  rw [hxb] at x4 ⊢
  clear hX4 hv4 hxb c0 c1 cz
  have hL4 := (hL.below s4.bl (Nat.le_refl _)).more s4.bl.size
  refine (HCH.out _ _ _ _ _ s4.rd hL4).mono ?_
  rintro e w5 ⟨rfl, hb5⟩
  have s5 := s4.step hb5
  have x5 := x4.below hb5 x4.lt
  have hp6 := (hp5.below hb5 (Nat.le_refl _)).more hb5.size
  obtain ⟨c0, c1, cz⟩ := s5.cells
  have e0 := x5.cell 0
  have e1 := x5.cell 1
  have e2 := x5.cell 2
  have e3 := x5.cell 3
  have el := x5.lt
  simp only [List.getElem?_toArray, List.getElem?_cons_zero, List.getElem?_cons_succ] at e0 e1 e2 e3
  go_wp2_with fail
  have hY8 := (hY.below s5.bl (Nat.le_refl _)).more s5.bl.size
  refine (HKE.out _ _ _ _ _ s5.rd hY8).mono ?_
  rintro e w8 ⟨rfl, hb8⟩
  have s8 := s5.step hb8
  have x8 := x5.below hb8 x5.lt
  have hY9 := (hY8.below hb8 (Nat.le_refl _)).more hb8.size
  clear c0 c1 cz
  go_wp2_with fail
  refine (alive_any _).mono ?_
  rintro e wz ⟨rfl, hbz⟩
  have sz := s8.step hbz
  go_wp2_with fail
  go_ret
  exact ⟨rfl, sz.bl⟩

set_option maxRecDepth 100000 in
set_option maxHeartbeats 2000000 in
include hR hn hY hL hf hy20 hl60 in
theorem sharp_ff_no2 (d l1 : Int) (h1 : Int) (l2 : Bool) (p : List Nat) (i : Int) (HDI : Hid (DiC d false 0 N bs a b)) (HPA : Hid (PaC p 5 N bs a b)) (HBT : Hid (BwC l1 h1 l2 false N bs a b)) (HCH : Hid (ChC l most false N bs a b)) (HKE : Hid (KxC y i false 0 N bs)) : Calls Try.prog 5 #[.agg #[.int .i64 N, .slice A bs.length c], .slice Ay y.length cy, .slice Al l.length cl, .int .i64 a, .int .i64 b, .int .i64 most] w fun e w' => e = .returned (.bool true) ∧ Below w.heap.size w w' := by
  have s0 := Sy.new (w := w) N c hR
  have HF := Lib.hid hf
  clear hf
  go_enter Try.func5, Try.ntmps5
  go_wp2_with fail
  refine (some_law N A bs.length c hn _).mono ?_
  rw [HF.out]
  rintro e w1 ⟨rfl, hb1⟩
  have s1 := s0.step hb1
  obtain ⟨c0, c1, cz⟩ := s1.cells
  go_wp2_with fail
  refine (HDI.out _ _ _ s1.rd).mono ?_
  rintro e w2 ⟨rfl, hb2⟩
  have s2 := s1.step hb2
  clear c0 c1 cz
  obtain ⟨c0, c1, cz⟩ := s2.cells
  go_wp2_with fail
  refine (HPA.out _ _ _ s2.rd).mono ?_
  rintro e w3 ⟨Ap, cp, rfl, hp3, hb3⟩
  have s3 := s2.step hb3
  clear c0 c1 cz
  obtain ⟨c0, c1, cz⟩ := s3.cells
  go_wp2_with fail
  refine (HBT.out _ _ _ s3.rd).mono ?_
  rintro e w4 ⟨rfl, hb4⟩
  have hp4 := (hp3.below hb4 (Nat.le_refl _)).more hb4.size
  have hX4 : Below w4.heap.size w4 (w4.alloc (.cells #[.int .i64 l1, .int .i64 h1, .bool l2, .bool false] 28)) := (Below.refl _ _).alloc (Nat.le_refl _) _
  have hp5 := (hp4.below hX4 (Nat.le_refl _)).more hX4.size
  have s4 := (s3.step hb4).alloc (.cells #[.int .i64 l1, .int .i64 h1, .bool l2, .bool false] 28)
  have x4 := Bk.new w4 28 #[.int .i64 l1, .int .i64 h1, .bool l2, .bool false]
  clear c0 c1 cz
  obtain ⟨c0, c1, cz⟩ := s4.cells
  go_wp2_with fail
  obtain ⟨v4, hv4⟩ : ∃ v4, w4.alloc (.cells #[.int .i64 l1, .int .i64 h1, .bool l2, .bool false] 28) = v4 := ⟨_, rfl⟩
  obtain ⟨xb, hxb⟩ : ∃ xb, w4.heap.size = xb := ⟨_, rfl⟩
  rw [hv4] at s4 x4 hp5 ⊢
  rw [hxb] at x4 ⊢
  clear hX4 hv4 hxb c0 c1 cz
  have hL4 := (hL.below s4.bl (Nat.le_refl _)).more s4.bl.size
  refine (HCH.out _ _ _ _ _ s4.rd hL4).mono ?_
  rintro e w5 ⟨rfl, hb5⟩
  have s5 := s4.step hb5
  have x5 := x4.below hb5 x4.lt
  have hp6 := (hp5.below hb5 (Nat.le_refl _)).more hb5.size
  obtain ⟨c0, c1, cz⟩ := s5.cells
  have e0 := x5.cell 0
  have e1 := x5.cell 1
  have e2 := x5.cell 2
  have e3 := x5.cell 3
  have el := x5.lt
  simp only [List.getElem?_toArray, List.getElem?_cons_zero, List.getElem?_cons_succ] at e0 e1 e2 e3
  go_wp2_with fail
  have hY8 := (hY.below s5.bl (Nat.le_refl _)).more s5.bl.size
  refine (HKE.out _ _ _ _ _ s5.rd hY8).mono ?_
  rintro e w8 ⟨rfl, hb8⟩
  have s8 := s5.step hb8
  have x8 := x5.below hb8 x5.lt
  have hY9 := (hY8.below hb8 (Nat.le_refl _)).more hb8.size
  clear c0 c1 cz
  go_wp2_with fail
  refine (alive_any _).mono ?_
  rintro e wz ⟨rfl, hbz⟩
  have sz := s8.step hbz
  go_wp2_with fail
  go_ret
  exact ⟨rfl, sz.bl⟩

set_option maxRecDepth 100000 in
set_option maxHeartbeats 2000000 in
include hR hn hY hL hf hy20 hl60 in
theorem sharp_ff_yes_t (d l1 : Int) (h1 : Int) (p : List Nat) (i : Int) (HDI : Hid (DiC d false 0 N bs a b)) (HPA : Hid (PaC p 5 N bs a b)) (HBT : Hid (BwC l1 h1 true false N bs a b)) (HCH : Hid (ChC l most false N bs a b)) (HKE : Hid (KxC y i true 0 N bs)) (an bn : Nat) (ha : a = an) (hb : b = bn) (hal : an < y.length) (hbl : bn < y.length) (ya yb : Int) (hya : Ln.gt y an = ya) (hyb : Ln.gt y bn = yb) (b0 : -400000000 ≤ ya) (b1 : ya ≤ 400000000) (b2 : -400000000 ≤ yb) (b3 : yb ≤ 400000000) (k3 : l1 ≤ yb - ya) : Calls Try.prog 5 #[.agg #[.int .i64 N, .slice A bs.length c], .slice Ay y.length cy, .slice Al l.length cl, .int .i64 a, .int .i64 b, .int .i64 most] w fun e w' => e = .returned (.bool true) ∧ Below w.heap.size w w' := by
  have s0 := Sy.new (w := w) N c hR
  have HF := Lib.hid hf
  clear hf
  subst ha
  subst hb
  have HA := Lib.hid hya
  have HB := Lib.hid hyb
  clear hya hyb
  go_enter Try.func5, Try.ntmps5
  go_wp2_with fail
  refine (some_law N A bs.length c hn _).mono ?_
  rw [HF.out]
  rintro e w1 ⟨rfl, hb1⟩
  have s1 := s0.step hb1
  obtain ⟨c0, c1, cz⟩ := s1.cells
  go_wp2_with fail
  refine (HDI.out _ _ _ s1.rd).mono ?_
  rintro e w2 ⟨rfl, hb2⟩
  have s2 := s1.step hb2
  clear c0 c1 cz
  obtain ⟨c0, c1, cz⟩ := s2.cells
  go_wp2_with fail
  refine (HPA.out _ _ _ s2.rd).mono ?_
  rintro e w3 ⟨Ap, cp, rfl, hp3, hb3⟩
  have s3 := s2.step hb3
  clear c0 c1 cz
  obtain ⟨c0, c1, cz⟩ := s3.cells
  go_wp2_with fail
  refine (HBT.out _ _ _ s3.rd).mono ?_
  rintro e w4 ⟨rfl, hb4⟩
  have hp4 := (hp3.below hb4 (Nat.le_refl _)).more hb4.size
  have hX4 : Below w4.heap.size w4 (w4.alloc (.cells #[.int .i64 l1, .int .i64 h1, .bool true, .bool false] 28)) := (Below.refl _ _).alloc (Nat.le_refl _) _
  have hp5 := (hp4.below hX4 (Nat.le_refl _)).more hX4.size
  have s4 := (s3.step hb4).alloc (.cells #[.int .i64 l1, .int .i64 h1, .bool true, .bool false] 28)
  have x4 := Bk.new w4 28 #[.int .i64 l1, .int .i64 h1, .bool true, .bool false]
  clear c0 c1 cz
  obtain ⟨c0, c1, cz⟩ := s4.cells
  go_wp2_with fail
  obtain ⟨v4, hv4⟩ : ∃ v4, w4.alloc (.cells #[.int .i64 l1, .int .i64 h1, .bool true, .bool false] 28) = v4 := ⟨_, rfl⟩
  obtain ⟨xb, hxb⟩ : ∃ xb, w4.heap.size = xb := ⟨_, rfl⟩
  rw [hv4] at s4 x4 hp5 ⊢
  rw [hxb] at x4 ⊢
  clear hX4 hv4 hxb c0 c1 cz
  have hL4 := (hL.below s4.bl (Nat.le_refl _)).more s4.bl.size
  refine (HCH.out _ _ _ _ _ s4.rd hL4).mono ?_
  rintro e w5 ⟨rfl, hb5⟩
  have s5 := s4.step hb5
  have x5 := x4.below hb5 x4.lt
  have hp6 := (hp5.below hb5 (Nat.le_refl _)).more hb5.size
  obtain ⟨c0, c1, cz⟩ := s5.cells
  have e0 := x5.cell 0
  have e1 := x5.cell 1
  have e2 := x5.cell 2
  have e3 := x5.cell 3
  have el := x5.lt
  simp only [List.getElem?_toArray, List.getElem?_cons_zero, List.getElem?_cons_succ] at e0 e1 e2 e3
  go_wp2_with fail
  have hY8 := (hY.below s5.bl (Nat.le_refl _)).more s5.bl.size
  refine (HKE.out _ _ _ _ _ s5.rd hY8).mono ?_
  rintro e w8 ⟨rfl, hb8⟩
  have s8 := s5.step hb8
  have x8 := x5.below hb8 x5.lt
  have hY9 := (hY8.below hb8 (Nat.le_refl _)).more hb8.size
  clear c0 c1 cz
  obtain ⟨ba, oa, rfl, hba, ea⟩ := hY9.gt (k := an) hal
  obtain ⟨bb, ob, eb0, hbb, eb⟩ := hY9.gt (k := bn) hbl
  cases eb0
  rw [HA.out] at ea
  rw [HB.out] at eb
  have hi0 : (0 : Int) ≤ (an : Int) := Int.natCast_nonneg _
  have hi1 : (0 : Int) ≤ (bn : Int) := Int.natCast_nonneg _
  have hi2 : (an : Int) < y.length := by omega
  have hi3 : (bn : Int) < y.length := by omega
  go_wp2_with fail
  go_quiet (fail)
  go_wp2_with fail
  refine (alive_any _).mono ?_
  rintro e wz ⟨rfl, hbz⟩
  have hbz' := (below_drewN (Below.refl w8.heap.size w8) _).trans hbz
  have sz := s8.step hbz'
  have xz := x8.below hbz' x8.lt
  have f0 := xz.cell 0
  have f1 := xz.cell 1
  have f2 := xz.cell 2
  have f3 := xz.cell 3
  have fl := xz.lt
  simp only [List.getElem?_toArray, List.getElem?_cons_zero, List.getElem?_cons_succ] at f0 f1 f2 f3
  go_wp2_with fail
  go_ret
  exact ⟨rfl, sz.bl⟩

set_option maxRecDepth 100000 in
set_option maxHeartbeats 2000000 in
include hR hn hY hL hf hy20 hl60 in
theorem sharp_ff_yes_f (d l1 : Int) (h1 : Int) (p : List Nat) (i : Int) (HDI : Hid (DiC d false 0 N bs a b)) (HPA : Hid (PaC p 5 N bs a b)) (HBT : Hid (BwC l1 h1 false false N bs a b)) (HCH : Hid (ChC l most false N bs a b)) (HKE : Hid (KxC y i true 0 N bs)) (an bn : Nat) (ha : a = an) (hb : b = bn) (hal : an < y.length) (hbl : bn < y.length) (ya yb : Int) (hya : Ln.gt y an = ya) (hyb : Ln.gt y bn = yb) (b0 : -400000000 ≤ ya) (b1 : ya ≤ 400000000) (b2 : -400000000 ≤ yb) (b3 : yb ≤ 400000000) : Calls Try.prog 5 #[.agg #[.int .i64 N, .slice A bs.length c], .slice Ay y.length cy, .slice Al l.length cl, .int .i64 a, .int .i64 b, .int .i64 most] w fun e w' => e = .returned (.bool true) ∧ Below w.heap.size w w' := by
  have s0 := Sy.new (w := w) N c hR
  have HF := Lib.hid hf
  clear hf
  subst ha
  subst hb
  have HA := Lib.hid hya
  have HB := Lib.hid hyb
  clear hya hyb
  go_enter Try.func5, Try.ntmps5
  go_wp2_with fail
  refine (some_law N A bs.length c hn _).mono ?_
  rw [HF.out]
  rintro e w1 ⟨rfl, hb1⟩
  have s1 := s0.step hb1
  obtain ⟨c0, c1, cz⟩ := s1.cells
  go_wp2_with fail
  refine (HDI.out _ _ _ s1.rd).mono ?_
  rintro e w2 ⟨rfl, hb2⟩
  have s2 := s1.step hb2
  clear c0 c1 cz
  obtain ⟨c0, c1, cz⟩ := s2.cells
  go_wp2_with fail
  refine (HPA.out _ _ _ s2.rd).mono ?_
  rintro e w3 ⟨Ap, cp, rfl, hp3, hb3⟩
  have s3 := s2.step hb3
  clear c0 c1 cz
  obtain ⟨c0, c1, cz⟩ := s3.cells
  go_wp2_with fail
  refine (HBT.out _ _ _ s3.rd).mono ?_
  rintro e w4 ⟨rfl, hb4⟩
  have hp4 := (hp3.below hb4 (Nat.le_refl _)).more hb4.size
  have hX4 : Below w4.heap.size w4 (w4.alloc (.cells #[.int .i64 l1, .int .i64 h1, .bool false, .bool false] 28)) := (Below.refl _ _).alloc (Nat.le_refl _) _
  have hp5 := (hp4.below hX4 (Nat.le_refl _)).more hX4.size
  have s4 := (s3.step hb4).alloc (.cells #[.int .i64 l1, .int .i64 h1, .bool false, .bool false] 28)
  have x4 := Bk.new w4 28 #[.int .i64 l1, .int .i64 h1, .bool false, .bool false]
  clear c0 c1 cz
  obtain ⟨c0, c1, cz⟩ := s4.cells
  go_wp2_with fail
  obtain ⟨v4, hv4⟩ : ∃ v4, w4.alloc (.cells #[.int .i64 l1, .int .i64 h1, .bool false, .bool false] 28) = v4 := ⟨_, rfl⟩
  obtain ⟨xb, hxb⟩ : ∃ xb, w4.heap.size = xb := ⟨_, rfl⟩
  rw [hv4] at s4 x4 hp5 ⊢
  rw [hxb] at x4 ⊢
  clear hX4 hv4 hxb c0 c1 cz
  have hL4 := (hL.below s4.bl (Nat.le_refl _)).more s4.bl.size
  refine (HCH.out _ _ _ _ _ s4.rd hL4).mono ?_
  rintro e w5 ⟨rfl, hb5⟩
  have s5 := s4.step hb5
  have x5 := x4.below hb5 x4.lt
  have hp6 := (hp5.below hb5 (Nat.le_refl _)).more hb5.size
  obtain ⟨c0, c1, cz⟩ := s5.cells
  have e0 := x5.cell 0
  have e1 := x5.cell 1
  have e2 := x5.cell 2
  have e3 := x5.cell 3
  have el := x5.lt
  simp only [List.getElem?_toArray, List.getElem?_cons_zero, List.getElem?_cons_succ] at e0 e1 e2 e3
  go_wp2_with fail
  have hY8 := (hY.below s5.bl (Nat.le_refl _)).more s5.bl.size
  refine (HKE.out _ _ _ _ _ s5.rd hY8).mono ?_
  rintro e w8 ⟨rfl, hb8⟩
  have s8 := s5.step hb8
  have x8 := x5.below hb8 x5.lt
  have hY9 := (hY8.below hb8 (Nat.le_refl _)).more hb8.size
  clear c0 c1 cz
  obtain ⟨ba, oa, rfl, hba, ea⟩ := hY9.gt (k := an) hal
  obtain ⟨bb, ob, eb0, hbb, eb⟩ := hY9.gt (k := bn) hbl
  cases eb0
  rw [HA.out] at ea
  rw [HB.out] at eb
  have hi0 : (0 : Int) ≤ (an : Int) := Int.natCast_nonneg _
  have hi1 : (0 : Int) ≤ (bn : Int) := Int.natCast_nonneg _
  have hi2 : (an : Int) < y.length := by omega
  have hi3 : (bn : Int) < y.length := by omega
  go_wp2_with fail
  go_quiet (fail)
  go_wp2_with fail
  refine (alive_any _).mono ?_
  rintro e wz ⟨rfl, hbz⟩
  have hbz' := (below_drewN (Below.refl w8.heap.size w8) _).trans hbz
  have sz := s8.step hbz'
  have xz := x8.below hbz' x8.lt
  have f0 := xz.cell 0
  have f1 := xz.cell 1
  have f2 := xz.cell 2
  have f3 := xz.cell 3
  have fl := xz.lt
  simp only [List.getElem?_toArray, List.getElem?_cons_zero, List.getElem?_cons_succ] at f0 f1 f2 f3
  go_wp2_with fail
  go_ret
  exact ⟨rfl, sz.bl⟩

end

theorem lineSharp_any (N : Int) (A : Option Addr) (c : Nat) (bs : List Ln.Bd) (Ay : Option Addr) (cy : Nat) (y : List Int) (Al : Option Addr) (cl : Nat) (l : List Int) (a b most : Int) (w : World)
    (hR : Rd w w.heap.size 4 A bs.length (bcells bs)) (hn : bs.length ≤ 9223372036854775807) (hlv : ∀ x ∈ bs, x.gone = false) (hY : Rd w w.heap.size 1 Ay y.length (ints y)) (hL : Rd w w.heap.size 1 Al l.length (ints l)) :
    Calls Try.prog 5 #[.agg #[.int .i64 N, .slice A bs.length c], .slice Ay y.length cy, .slice Al l.length cl, .int .i64 a, .int .i64 b, .int .i64 most] w fun e w' => e = .returned (.bool true) ∧ Below w.heap.size w w' := by
  rcases hf : Ln.fewF N bs.length 14 40 with _ | _
  · exact sharp_e1 N A c bs Ay cy y Al cl l a b most w hR hn hf
  rcases Nat.lt_or_ge 20 y.length with h2 | h2
  · exact sharp_e2 N A c bs Ay cy y Al cl l a b most w hR hn hf h2
  rcases Nat.lt_or_ge 60 l.length with h3 | h3
  · exact sharp_e3 N A c bs Ay cy y Al cl l a b most w hR hn hf h2 h3
  have hlen := Ln.fewF_len hf (by omega)
  have hLv : Ln.Lv bs := ⟨by omega, hlv⟩
  have hdi := fun A c w h => distance_any N A c bs a b w h hLv
  by_cases hs : Ln.soundF N bs [a, b] = 0
  · obtain ⟨hcp, hco, hck⟩ := Ln.sound_zero hs
    obtain ⟨hok, hNt⟩ := Ln.ok_of_check hck
    have hNN := (Ln.cons_iff hok).1 hco
    have pa := Ln.pts_of hcp (p := a) (by simp)
    have pb := Ln.pts_of hcp (p := b) (by simp)
    have htop := hok.top
    obtain ⟨g1, g2, g3, g4, g5, g6⟩ := Ln.sharp_ok hlv hs
    have hpt := fun A c w h => path_any N A c bs a b w h hLv
    have hbt := fun A c w h => between_any N A c bs a b w h hLv
    have hch := fun A c A2 c2 w h h2 => checkPath_any N A c bs A2 c2 l a b most w h hLv h2 (by omega)
    have hke := fun A c A2 c2 w h h2 => kept_any N A c bs A2 c2 y w h (by omega) h2 (by omega)
    rw [Ln.btF_zero hs] at hbt
    rw [Ln.chF_err, hcp] at hch
    unfold spanV at hbt
    obtain ⟨⟨l1, l2⟩, hlo⟩ : ∃ r, Ln.lowF 0 (Ln.dF N bs b a) = r := ⟨_, rfl⟩
    rw [hlo] at hbt
    dsimp only at hbt
    have hlow : l2 = true → Ln.dF N bs b a ≠ Ln.NONE ∧ l1 = -(Ln.dF N bs b a) := fun e => by
      subst e
      unfold Ln.lowF at hlo
      split at hlo
      · cases hlo
      · rename_i hne
        simp only [Prod.mk.injEq] at hlo
        exact ⟨hne, by omega⟩
    obtain ⟨⟨ki, kr, ke⟩, hk⟩ : ∃ r, Ln.keptF N bs y = r := ⟨_, rfl⟩
    rw [hk] at hke
    dsimp only at hke
    have hkp : kr = true → ke = 0 ∧ (y.length : Int) = N ∧ (∀ k, k < y.length → -400000000 ≤ Ln.gt y k ∧ Ln.gt y k ≤ 400000000) ∧ Ln.Pot bs (Ln.gt y) := fun e => by
      obtain ⟨_, q2, _, q4, q5, q6⟩ := Ln.keptF_inv (N := N) (bs := bs) (y := y) (by rw [hk]; exact e)
      rw [hk] at q6
      simp only [Prod.mk.injEq] at q6
      exact ⟨q6.2.2, q2, q4, q5⟩
    obtain ⟨pr, hpr⟩ : ∃ pr, (Ln.chF N bs l a b most).1 = pr := ⟨_, rfl⟩
    have g3 := g3 l most
    have g4 := fun yy => g4 l most yy
    rw [hpr] at hch g3 g4
    by_cases hd : Ln.dF N bs a b = Ln.NONE
    · have hpf : pr = false := by
        cases pr
        · rfl
        · exact absurd hd (g3 rfl).1
      subst hpf
      rw [show Ln.diF N bs a b = (0, false, 0) from by rw [Ln.diF, if_pos hs, if_pos hd]] at hdi
      rw [g1 hd] at hpt
      rw [show Ln.highF 0 (Ln.dF N bs a b) = (0, false) from by rw [Ln.highF, if_pos hd]] at hbt
      dsimp only at hbt hpt hdi
      by_cases hke0 : ke = 0
      · subst hke0
        cases kr
        · exact sharp_ff_no2 N A c bs Ay cy y Al cl l a b most w hR hn hY hL hf h2 h3 0 l1 0 l2 [] ki (Lib.hid hdi) (Lib.hid hpt) (Lib.hid hbt) (Lib.hid hch) (Lib.hid hke)
        · obtain ⟨_, k2, k3, k4⟩ := hkp rfl
          have q1 := k3 a.toNat (by omega)
          have q2 := k3 b.toNat (by omega)
          cases l2
          · exact sharp_ff_yes_f N A c bs Ay cy y Al cl l a b most w hR hn hY hL hf h2 h3 0 l1 0 [] ki (Lib.hid hdi) (Lib.hid hpt) (Lib.hid hbt) (Lib.hid hch) (Lib.hid hke) a.toNat b.toNat (by omega) (by omega) (by omega) (by omega) _ _ rfl rfl q1.1 q1.2 q2.1 q2.2
          · obtain ⟨r1, r2⟩ := hlow rfl
            have := g6 _ k4 r1
            exact sharp_ff_yes_t N A c bs Ay cy y Al cl l a b most w hR hn hY hL hf h2 h3 0 l1 0 [] ki (Lib.hid hdi) (Lib.hid hpt) (Lib.hid hbt) (Lib.hid hch) (Lib.hid hke) a.toNat b.toNat (by omega) (by omega) (by omega) (by omega) _ _ rfl rfl q1.1 q1.2 q2.1 q2.2 (by omega)
      · exact sharp_ff_no1 N A c bs Ay cy y Al cl l a b most w hR hn hY hL hf h2 h3 0 l1 0 l2 [] ki (Lib.hid hdi) (Lib.hid hpt) (Lib.hid hbt) (Lib.hid hch) kr ke hke0 (Lib.hid hke)
    · have hdb : -1000000 * ((N.toNat : Int) - 1) ≤ Ln.dF N bs a b ∧ Ln.dF N bs a b ≤ 1000000 * ((N.toNat : Int) - 1) := by
        have := (Ln.dist_small hok hNN (a := a.toNat) (by omega) b.toNat).resolve_left hd
        have e : Ln.dF N bs a b = Ln.gt (Ln.distF bs N.toNat a.toNat) b.toNat := rfl
        omega
      obtain ⟨i1, i2, i3, i4⟩ := g2 hd
      have hc1 := fun A c A2 c2 w h h2 => checkPath_any N A c bs A2 c2 (Ln.zl (Ln.paF N bs a b).1) a b (Ln.dF N bs a b) w h hLv h2 (by rw [Ln.zl_length]; omega)
      have hc2 := fun A c A2 c2 w h h2 => checkPath_any N A c bs A2 c2 (Ln.zl (Ln.paF N bs a b).1) a b (Ln.dF N bs a b - 1) w h hLv h2 (by rw [Ln.zl_length]; omega)
      rw [i3, Ln.zl_length, ← nlist_zl] at hc1
      rw [i4, Ln.zl_length, ← nlist_zl] at hc2
      rw [i1] at hpt
      rw [show Ln.diF N bs a b = (Ln.dF N bs a b, true, 0) from by rw [Ln.diF, if_pos hs, if_neg hd]] at hdi
      rw [show Ln.highF 0 (Ln.dF N bs a b) = (Ln.dF N bs a b, true) from by rw [Ln.highF, if_neg hd, Int.zero_add]] at hbt
      dsimp only at hbt hpt hdi hc1 hc2
      obtain ⟨d, hde⟩ : ∃ d, Ln.dF N bs a b = d := ⟨_, rfl⟩
      obtain ⟨p, hpe⟩ : ∃ p, (Ln.paF N bs a b).1 = p := ⟨_, rfl⟩
      rw [hde] at hbt hdi hc1 hc2 hdb g3 g5
      rw [hpe] at hpt hc1 hc2
      have hd0 : -1000000000000000 ≤ d := by omega
      have hd1 : d ≤ 1000000000000000 := by omega
      by_cases hke0 : ke = 0
      · subst hke0
        cases kr
        · cases pr
          · exact sharp_tf_no2 N A c bs Ay cy y Al cl l a b most w hR hn hY hL hf h2 h3 d l1 l2 p ki (Lib.hid hdi) (Lib.hid hpt) (Lib.hid hbt) (Lib.hid hch) hd0 hd1 (Lib.hid hc1) (Lib.hid hc2) (Lib.hid hke)
          · exact sharp_tt_no2 N A c bs Ay cy y Al cl l a b most w hR hn hY hL hf h2 h3 d l1 l2 p ki (Lib.hid hdi) (Lib.hid hpt) (Lib.hid hbt) (Lib.hid hch) hd0 hd1 (Lib.hid hc1) (Lib.hid hc2) (g3 rfl).2 (Lib.hid hke)
        · obtain ⟨_, k2, k3, k4⟩ := hkp rfl
          have q1 := k3 a.toNat (by omega)
          have q2 := k3 b.toNat (by omega)
          have k5 := g5 _ k4 (by rw [← hde]; exact hd)
          cases pr
          · cases l2
            · exact sharp_tf_yes_f N A c bs Ay cy y Al cl l a b most w hR hn hY hL hf h2 h3 d l1 p ki (Lib.hid hdi) (Lib.hid hpt) (Lib.hid hbt) (Lib.hid hch) hd0 hd1 (Lib.hid hc1) (Lib.hid hc2) (Lib.hid hke) a.toNat b.toNat (by omega) (by omega) (by omega) (by omega) _ _ rfl rfl q1.1 q1.2 q2.1 q2.2 k5
            · obtain ⟨r1, r2⟩ := hlow rfl
              have := g6 _ k4 r1
              exact sharp_tf_yes_t N A c bs Ay cy y Al cl l a b most w hR hn hY hL hf h2 h3 d l1 p ki (Lib.hid hdi) (Lib.hid hpt) (Lib.hid hbt) (Lib.hid hch) hd0 hd1 (Lib.hid hc1) (Lib.hid hc2) (Lib.hid hke) a.toNat b.toNat (by omega) (by omega) (by omega) (by omega) _ _ rfl rfl q1.1 q1.2 q2.1 q2.2 k5 (by omega)
          · have k6 := g4 _ rfl k4
            cases l2
            · exact sharp_tt_yes_f N A c bs Ay cy y Al cl l a b most w hR hn hY hL hf h2 h3 d l1 p ki (Lib.hid hdi) (Lib.hid hpt) (Lib.hid hbt) (Lib.hid hch) hd0 hd1 (Lib.hid hc1) (Lib.hid hc2) (g3 rfl).2 (Lib.hid hke) a.toNat b.toNat (by omega) (by omega) (by omega) (by omega) _ _ rfl rfl q1.1 q1.2 q2.1 q2.2 k6 k5
            · obtain ⟨r1, r2⟩ := hlow rfl
              have := g6 _ k4 r1
              exact sharp_tt_yes_t N A c bs Ay cy y Al cl l a b most w hR hn hY hL hf h2 h3 d l1 p ki (Lib.hid hdi) (Lib.hid hpt) (Lib.hid hbt) (Lib.hid hch) hd0 hd1 (Lib.hid hc1) (Lib.hid hc2) (g3 rfl).2 (Lib.hid hke) a.toNat b.toNat (by omega) (by omega) (by omega) (by omega) _ _ rfl rfl q1.1 q1.2 q2.1 q2.2 k6 k5 (by omega)
      · cases pr
        · exact sharp_tf_no1 N A c bs Ay cy y Al cl l a b most w hR hn hY hL hf h2 h3 d l1 l2 p ki (Lib.hid hdi) (Lib.hid hpt) (Lib.hid hbt) (Lib.hid hch) hd0 hd1 (Lib.hid hc1) (Lib.hid hc2) kr ke hke0 (Lib.hid hke)
        · exact sharp_tt_no1 N A c bs Ay cy y Al cl l a b most w hR hn hY hL hf h2 h3 d l1 l2 p ki (Lib.hid hdi) (Lib.hid hpt) (Lib.hid hbt) (Lib.hid hch) hd0 hd1 (Lib.hid hc1) (Lib.hid hc2) (g3 rfl).2 kr ke hke0 (Lib.hid hke)
  · rw [show Ln.diF N bs a b = (0, false, Ln.soundF N bs [a, b]) from by rw [Ln.diF, if_neg hs]] at hdi
    exact sharp_bad N A c bs Ay cy y Al cl l a b most w hR hn hf h2 h3 0 _ hs (Lib.hid hdi)

end Go.Proofs.Ytdndhfggdjphjaa
