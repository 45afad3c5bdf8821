/-
  LineEither: the law's walk.
-/
import Derived.Test.YtdndhfggdjphjaaAlive
import Derived.Test.YtdndhfggdjphjaaCons
import Derived.Test.YtdndhfggdjphjaaKeptL
import Derived.Test.YtdndhfggdjphjaaChk
set_option linter.unusedVariables false
set_option linter.unusedSimpArgs false
namespace Go.Proofs.Ytdndhfggdjphjaa
open Go.RowKit Go.Shelf

theorem nlist_zl (l : List Nat) : nlist l = ints (Ln.zl l) := by simp [nlist, ints, Ln.zl]

def CiC (cl : List Nat) (bad : Bool) (e0 : Int) (N : Int) (bs : List Ln.Bd) : Prop := ∀ A c w, Rd w w.heap.size 4 A bs.length (bcells bs) →
  Calls Try.prog 21 #[.agg #[.int .i64 N, .slice A bs.length c]] w fun e w' => ∃ A' c', e = .returned (.tuple #[.slice A' cl.length c', .bool bad, .int .i64 e0]) ∧ Rd w' w'.heap.size 1 A' cl.length (nlist cl) ∧ Below w.heap.size w w'
def SoC (y : List Int) (e0 : Int) (N : Int) (bs : List Ln.Bd) : Prop := ∀ A c w, Rd w w.heap.size 4 A bs.length (bcells bs) →
  Calls Try.prog 22 #[.agg #[.int .i64 N, .slice A bs.length c]] w fun e w' => ∃ A' c', e = .returned (.tuple #[.slice A' y.length c', .int .i64 e0]) ∧ Rd w' w'.heap.size 1 A' y.length (ints y) ∧ Below w.heap.size w w'
def CsC (r : Bool) (e0 : Int) (N : Int) (bs : List Ln.Bd) : Prop := ∀ A c w, Rd w w.heap.size 4 A bs.length (bcells bs) →
  Calls Try.prog 23 #[.agg #[.int .i64 N, .slice A bs.length c]] w fun e w' => e = .returned (.tuple #[.bool r, .int .i64 e0]) ∧ Below w.heap.size w w'
def CcC (l : List Int) (r : Bool) (e0 : Int) (N : Int) (bs : List Ln.Bd) : Prop := ∀ A c A2 c2 w, Rd w w.heap.size 4 A bs.length (bcells bs) → Rd w w.heap.size 1 A2 l.length (ints l) →
  Calls Try.prog 24 #[.agg #[.int .i64 N, .slice A bs.length c], .slice A2 l.length c2] w fun e w' => e = .returned (.tuple #[.bool r, .int .i64 e0]) ∧ Below w.heap.size w w'
def CnC (l : List Nat) (r : Bool) (e0 : Int) (N : Int) (bs : List Ln.Bd) : Prop := ∀ A c A2 c2 w, Rd w w.heap.size 4 A bs.length (bcells bs) → Rd w w.heap.size 1 A2 l.length (nlist l) →
  Calls Try.prog 24 #[.agg #[.int .i64 N, .slice A bs.length c], .slice A2 l.length c2] w fun e w' => e = .returned (.tuple #[.bool r, .int .i64 e0]) ∧ Below w.heap.size w w'
def KpC (y : List Int) (N : Int) (bs : List Ln.Bd) : Prop := ∀ A c A2 c2 w, Rd w w.heap.size 4 A bs.length (bcells bs) → Rd w w.heap.size 1 A2 y.length (ints y) →
  Calls Try.prog 25 #[.agg #[.int .i64 N, .slice A bs.length c], .slice A2 y.length c2] w fun e w' => e = .returned (.tuple #[.int .i64 0, .bool true, .int .i64 0]) ∧ Below w.heap.size w w'

section
variable (N : Int) (A : Option Addr) (c : Nat) (bs : List Ln.Bd) (A2 : Option Addr) (c2 : Nat) (l : List Int) (w : World)
  (hR : Rd w w.heap.size 4 A bs.length (bcells bs)) (hn : bs.length ≤ 9223372036854775807)

set_option maxRecDepth 100000 in
set_option maxHeartbeats 1000000 in
include hR hn in
theorem either_early (h : Ln.fewF N bs.length 14 40 = false ∨ 40 < l.length) :
    Calls Try.prog 4 #[.agg #[.int .i64 N, .slice A bs.length c], .slice A2 l.length c2] w fun e w' => e = .returned (.bool true) ∧ Below w.heap.size w w' := by
  have s0 := Sy.new (w := w) N c hR
  rcases hf : Ln.fewF N bs.length 14 40 with _ | _
  · have HF := Lib.hid hf
    clear hf h
    go_enter Try.func4, Try.ntmps4
    go_wp2_with fail
    refine (some_law N A bs.length c hn _).mono ?_
    rw [HF.out]
    rintro e w1 ⟨rfl, hb1⟩
    have s1 := s0.step hb1
    go_wp2_with fail
    refine (alive_any _).mono ?_
    rintro e w2 ⟨rfl, hb2⟩
    have s2 := s1.step hb2
    go_wp2_with fail
    go_ret
    exact ⟨rfl, s2.bl⟩
  · have HF := Lib.hid hf
    rw [hf] at h
    have h := h.resolve_left (by simp)
    clear hf
    go_enter Try.func4, Try.ntmps4
    go_wp2_with fail
    refine (some_law N A bs.length c hn _).mono ?_
    rw [HF.out]
    rintro e w1 ⟨rfl, hb1⟩
    have s1 := s0.step hb1
    go_wp2_with fail
    refine (alive_any _).mono ?_
    rintro e w2 ⟨rfl, hb2⟩
    have s2 := s1.step hb2
    go_wp2_with fail
    go_ret
    exact ⟨rfl, s2.bl⟩

variable (hL : Rd w w.heap.size 1 A2 l.length (ints l)) (hf : Ln.fewF N bs.length 14 40 = true) (hll : l.length ≤ 40)

set_option maxRecDepth 100000 in
set_option maxHeartbeats 2000000 in
include hR hn hL hf hll in
theorem either_bad (ck : Int) (hck : ck ≠ 0) (HCI : Hid (CiC [] false ck N bs)) (HSO : Hid (SoC [] ck N bs)) (HCO : Hid (CsC false ck N bs)) (HCC : Hid (CcC l false ck N bs)) :
    Calls Try.prog 4 #[.agg #[.int .i64 N, .slice A bs.length c], .slice A2 l.length c2] w fun e w' => e = .returned (.bool true) ∧ Below w.heap.size w w' := by
  have s0 := Sy.new (w := w) N c hR
  have HF := Lib.hid hf
  have hne : (ck != 0) = true := by simp [hck]
  clear hf hck
  go_enter Try.func4, Try.ntmps4
  go_wp2_with fail
  refine (some_law N A bs.length c hn _).mono ?_
  rw [HF.out]
  rintro e w1 ⟨rfl, hb1⟩
  have s1 := s0.step hb1
  obtain ⟨c0, c1, cl⟩ := s1.cells
  go_wp2_with fail
  refine (HCI.out _ _ _ s1.rd).mono ?_
  rintro e w2 ⟨Ac, cc, rfl, hc2, hb2⟩
  have s2 := s1.step hb2
  clear c0 c1 cl
  obtain ⟨c0, c1, cl⟩ := s2.cells
  go_wp2_with fail
  refine (HSO.out _ _ _ s2.rd).mono ?_
  rintro e w3 ⟨Ay, cy, rfl, hy3, hb3⟩
  have s3 := s2.step hb3
  clear c0 c1 cl
  obtain ⟨c0, c1, cl⟩ := s3.cells
  go_wp2_with fail
  refine (HCO.out _ _ _ s3.rd).mono ?_
  rintro e w4 ⟨rfl, hb4⟩
  have s4 := s3.step hb4
  have hL4 := (hL.below s4.bl (Nat.le_refl _)).more s4.bl.size
  clear c0 c1 cl
  obtain ⟨c0, c1, cl⟩ := s4.cells
  go_wp2_with fail
  refine (HCC.out _ _ _ _ _ s4.rd hL4).mono ?_
  rintro e w5 ⟨rfl, hb5⟩
  have s5 := s4.step hb5
  clear c0 c1 cl
  go_wp2_with fail
  refine (alive_any _).mono ?_
  rintro e w6 ⟨rfl, hb6⟩
  have s6 := s5.step hb6
  go_wp2_with fail
  go_ret
  exact ⟨rfl, s6.bl⟩

set_option maxRecDepth 100000 in
set_option maxHeartbeats 2000000 in
include hR hn hL hf hll in
theorem either_yes (y : List Int) (hyl : y.length ≤ 1000) (HCI : Hid (CiC [] false 0 N bs)) (HSO : Hid (SoC y 0 N bs)) (HCO : Hid (CsC true 0 N bs)) (HCC : Hid (CcC l false 0 N bs)) (HKE : Hid (KpC y N bs)) :
    Calls Try.prog 4 #[.agg #[.int .i64 N, .slice A bs.length c], .slice A2 l.length c2] w fun e w' => e = .returned (.bool true) ∧ Below w.heap.size w w' := by
  have s0 := Sy.new (w := w) N c hR
  have HF := Lib.hid hf
  clear hf
  go_enter Try.func4, Try.ntmps4
  go_wp2_with fail
  refine (some_law N A bs.length c hn _).mono ?_
  rw [HF.out]
  rintro e w1 ⟨rfl, hb1⟩
  have s1 := s0.step hb1
  obtain ⟨c0, c1, cl⟩ := s1.cells
  go_wp2_with fail
  refine (HCI.out _ _ _ s1.rd).mono ?_
  rintro e w2 ⟨Ac, cc, rfl, hc2, hb2⟩
  have s2 := s1.step hb2
  clear c0 c1 cl
  obtain ⟨c0, c1, cl⟩ := s2.cells
  go_wp2_with fail
  refine (HSO.out _ _ _ s2.rd).mono ?_
  rintro e w3 ⟨Ay, cy, rfl, hy3, hb3⟩
  have s3 := s2.step hb3
  clear c0 c1 cl
  obtain ⟨c0, c1, cl⟩ := s3.cells
  go_wp2_with fail
  refine (HCO.out _ _ _ s3.rd).mono ?_
  rintro e w4 ⟨rfl, hb4⟩
  have s4 := s3.step hb4
  have hy4 := (hy3.below hb4 (Nat.le_refl _)).more hb4.size
  have hL4 := (hL.below s4.bl (Nat.le_refl _)).more s4.bl.size
  clear c0 c1 cl
  obtain ⟨c0, c1, cl⟩ := s4.cells
  go_wp2_with fail
  refine (HCC.out _ _ _ _ _ s4.rd hL4).mono ?_
  rintro e w5 ⟨rfl, hb5⟩
  have s5 := s4.step hb5
  have hy5 := (hy4.below hb5 (Nat.le_refl _)).more hb5.size
  clear c0 c1 cl
  obtain ⟨c0, c1, cl⟩ := s5.cells
  go_wp2_with fail
  refine (HKE.out _ _ _ _ _ s5.rd hy5).mono ?_
  rintro e w6 ⟨rfl, hb6⟩
  have s6 := s5.step hb6
  clear c0 c1 cl
  go_wp2_with fail
  refine (alive_any _).mono ?_
  rintro e w7 ⟨rfl, hb7⟩
  have s7 := s6.step hb7
  go_wp2_with fail
  go_ret
  exact ⟨rfl, s7.bl⟩

set_option maxRecDepth 100000 in
set_option maxHeartbeats 4000000 in
include hR hn hL hf hll in
theorem either_no (g : Bool) (cl : List Nat) (hcl : cl.length ≤ 1000) (hg : g = true → cl.length ≤ l.length) (HCI : Hid (CiC cl true 0 N bs)) (HSO : Hid (SoC [] 10 N bs)) (HCO : Hid (CsC false 0 N bs)) (HCC : Hid (CcC l g 0 N bs)) (HCN : Hid (CnC cl true 0 N bs)) :
    Calls Try.prog 4 #[.agg #[.int .i64 N, .slice A bs.length c], .slice A2 l.length c2] w fun e w' => e = .returned (.bool true) ∧ Below w.heap.size w w' := by
  have s0 := Sy.new (w := w) N c hR
  have HF := Lib.hid hf
  clear hf
  rcases g with _ | _
  case' false => clear hg
  case' true => have hg := hg rfl
  all_goals
    go_enter Try.func4, Try.ntmps4
    go_wp2_with fail
    refine (some_law N A bs.length c hn _).mono ?_
    rw [HF.out]
    rintro e w1 ⟨rfl, hb1⟩
    have s1 := s0.step hb1
    obtain ⟨c0, c1, cz⟩ := s1.cells
    go_wp2_with fail
    refine (HCI.out _ _ _ s1.rd).mono ?_
    rintro e w2 ⟨Ac, cc, rfl, hc2, hb2⟩
    have s2 := s1.step hb2
    clear c0 c1 cz
    obtain ⟨c0, c1, cz⟩ := s2.cells
    go_wp2_with fail
    refine (HSO.out _ _ _ s2.rd).mono ?_
    rintro e w3 ⟨Ay, cy, rfl, hy3, hb3⟩
    have s3 := s2.step hb3
    have hc3 := (hc2.below hb3 (Nat.le_refl _)).more hb3.size
    clear c0 c1 cz
    obtain ⟨c0, c1, cz⟩ := s3.cells
    go_wp2_with fail
    refine (HCO.out _ _ _ s3.rd).mono ?_
    rintro e w4 ⟨rfl, hb4⟩
    have s4 := s3.step hb4
    have hc4 := (hc3.below hb4 (Nat.le_refl _)).more hb4.size
    have hL4 := (hL.below s4.bl (Nat.le_refl _)).more s4.bl.size
    clear c0 c1 cz
    obtain ⟨c0, c1, cz⟩ := s4.cells
    go_wp2_with fail
    refine (HCC.out _ _ _ _ _ s4.rd hL4).mono ?_
    rintro e w5 ⟨rfl, hb5⟩
    have s5 := s4.step hb5
    have hc5 := (hc4.below hb5 (Nat.le_refl _)).more hb5.size
    clear c0 c1 cz
    obtain ⟨c0, c1, cz⟩ := s5.cells
    go_wp2_with fail
    refine (HCN.out _ _ _ _ _ s5.rd hc5).mono ?_
    rintro e w6 ⟨rfl, hb6⟩
    have s6 := s5.step hb6
    clear c0 c1 cz
    go_wp2_with fail
    refine (alive_any _).mono ?_
    rintro e w7 ⟨rfl, hb7⟩
    have s7 := s6.step hb7
    go_wp2_with fail
    go_ret
    exact ⟨rfl, s7.bl⟩
end

theorem lineEither_any (N : Int) (A : Option Addr) (c : Nat) (bs : List Ln.Bd) (A2 : Option Addr) (c2 : Nat) (l : List Int) (w : World) (hR : Rd w w.heap.size 4 A bs.length (bcells bs)) (hn : bs.length ≤ 9223372036854775807) (hlv : ∀ x ∈ bs, x.gone = false)
    (hL : Rd w w.heap.size 1 A2 l.length (ints l)) :
    Calls Try.prog 4 #[.agg #[.int .i64 N, .slice A bs.length c], .slice A2 l.length c2] w fun e w' => e = .returned (.bool true) ∧ Below w.heap.size w w' := by
  by_cases he : Ln.fewF N bs.length 14 40 = false ∨ 40 < l.length
  · exact either_early N A c bs A2 c2 l w hR hn he
  · have hf : Ln.fewF N bs.length 14 40 = true := by
      rcases h : Ln.fewF N bs.length 14 40 with _ | _
      · exact absurd (.inl h) he
      · rfl
    have hll : l.length ≤ 40 := by omega
    have hlen := Ln.fewF_len hf (by omega)
    have hLv : Ln.Lv bs := ⟨by omega, hlv⟩
    have hci := fun A c w h => circle_any N A c bs w h hLv
    have hso := fun A c w h => some_any N A c bs w h hLv
    have hco := fun A c w h => cons_any N A c bs w h hLv
    have hcc := fun A c A2 c2 w h h2 => checkCircle_any N A c bs A2 c2 l w h hLv h2 (by omega)
    by_cases hck : Ln.check N bs = 0
    · have hN14 := (Ln.fewF_ok hf hck).1
      obtain ⟨e1, e2⟩ := Ln.either_ok l hlv hck hN14
      have hce := Ln.ccF_err (N := N) (bs := bs) (l := l)
      rw [hck] at hce
      rw [hce] at hcc
      rcases hcons : Ln.consF bs N.toNat with _ | _
      · obtain ⟨q1, q2, q3, q4⟩ := e2 hcons
        have hcn := fun A c A2 c2 w h h2 => checkCircle_any N A c bs A2 c2 (Ln.zl (Ln.circF bs N.toNat)) w h hLv h2 (by rw [Ln.zl_length]; have := (Ln.circK_top (bs := bs) (N := N.toNat) N.toNat).2.1; unfold Ln.circF; omega)
        rw [q3, Ln.zl_length, ← nlist_zl] at hcn
        rw [q1] at hci
        rw [q2] at hso
        rw [show Ln.coF N bs = (false, 0) from by rw [Ln.coF, if_pos hck, hcons]] at hco
        exact either_no N A c bs A2 c2 l w hR hn hL hf hll (Ln.ccF N bs l).1 (Ln.circF bs N.toNat) (by have := (Ln.circK_top (bs := bs) (N := N.toNat) N.toNat).2.1; unfold Ln.circF; omega) q4 (Lib.hid hci) (Lib.hid hso) (Lib.hid hco) (Lib.hid hcc) (Lib.hid hcn)
      · obtain ⟨q1, q2, q3, q4⟩ := e1 hcons
        have hvl := Ln.valF_length bs N.toNat
        have hke := fun A c A2 c2 w h1 h2 => kept_any N A c bs A2 c2 (Ln.valF bs N.toNat) w h1 (by omega) h2 (by omega)
        rw [q3] at hke
        rw [q1] at hci
        rw [q2] at hso
        rw [q4] at hcc
        rw [show Ln.coF N bs = (true, 0) from by rw [Ln.coF, if_pos hck, hcons]] at hco
        exact either_yes N A c bs A2 c2 l w hR hn hL hf hll (Ln.valF bs N.toNat) (by omega) (Lib.hid hci) (Lib.hid hso) (Lib.hid hco) (Lib.hid hcc) (Lib.hid hke)
    · rw [show Ln.ciF N bs = ([], false, Ln.check N bs) from by rw [Ln.ciF, if_neg hck]] at hci
      rw [show Ln.someF N bs = ([], Ln.check N bs) from by rw [Ln.someF, Ln.sound_nil, if_neg hck, if_neg hck]] at hso
      rw [show Ln.coF N bs = (false, Ln.check N bs) from by rw [Ln.coF, if_neg hck]] at hco
      rw [show Ln.ccF N bs l = (false, Ln.check N bs) from by rw [Ln.ccF, if_neg hck]] at hcc
      exact either_bad N A c bs A2 c2 l w hR hn hL hf hll (Ln.check N bs) hck (Lib.hid hci) (Lib.hid hso) (Lib.hid hco) (Lib.hid hcc)

end Go.Proofs.Ytdndhfggdjphjaa
