/-
  CheckVariations and Declination of course and of the reference.
-/
import Derived.Test.YtncdeogpmodoaabGreatDoorChk
set_option linter.unusedVariables false
set_option linter.unusedSimpArgs false
namespace Go.Proofs.YtncdeogpmodoaabGreatDoor
open Go.RowKit
set_option maxRecDepth 100000

theorem below_drewN {C : Nat} {w w' : World} (h : Below C w w') (n : Nat) : Below C w (w'.drewN n) := ⟨h.os, h.tape, h.output, h.size, h.block⟩

namespace Cs
theorem okV_step {b : Int} {vs : List (Int × Int)} {k : Nat} (hk : k < vs.length) (h : okV 0 vs = okV b (vs.drop k)) :
    (b + 1 ≤ vs[k].1 ∧ vs[k].1 ≤ 3000 ∧ -60 ≤ vs[k].2 ∧ vs[k].2 ≤ 60 → okV 0 vs = okV vs[k].1 (vs.drop (k + 1))) ∧
      (¬ (b + 1 ≤ vs[k].1 ∧ vs[k].1 ≤ 3000 ∧ -60 ≤ vs[k].2 ∧ vs[k].2 ≤ 60) → okV 0 vs = false) := by
  rw [List.drop_eq_getElem_cons hk] at h
  obtain ⟨⟨y, e⟩, hv⟩ : ∃ v, vs[k] = v := ⟨_, rfl⟩
  rw [hv] at h ⊢
  dsimp only
  rw [h, okV]
  constructor
  · intro hh
    rw [decide_eq_true hh, Bool.true_and]
  · intro hh
    rw [decide_eq_false hh, Bool.false_and]
theorem varsE_long {vs : List (Int × Int)} (h : 40 < vs.length) : varsE vs = 2 := by rw [varsE, if_pos h]
theorem varsE_ok {vs : List (Int × Int)} (h : ¬ 40 < vs.length) (hk : okV 0 vs = true) : varsE vs = 0 := by rw [varsE, if_neg h, if_pos hk]
theorem varsE_no {vs : List (Int × Int)} (h : ¬ 40 < vs.length) (hk : okV 0 vs = false) : varsE vs = 1 := by rw [varsE, if_neg h, if_neg (by rw [hk]; simp)]
/-- The year ahead of variation k. -/
def prev (vs : List (Int × Int)) : Nat → Int
  | 0 => 0
  | k + 1 => (vs[k]?.getD (0, 0)).1
theorem prev_at {vs : List (Int × Int)} {k : Nat} (hk : k < vs.length) : prev vs (k + 1) = vs[k].1 := by simp [prev, hk]
end Cs

set_option maxHeartbeats 2000000 in
theorem checkVariations_any (A : Option Addr) (c : Nat) (vs : List (Int × Int)) (w : World) (hR : Rd w w.heap.size 2 A vs.length (vcells vs)) (hl : vs.length ≤ 1000000) :
    Calls Tryz.prog 70 #[.slice A vs.length c] w fun e w' => e = .returned (.int .i64 (Cs.varsE vs)) ∧ Below w.heap.size w w' := by
  by_cases h40 : 40 < vs.length
  · rw [Cs.varsE_long h40]
    go_enter Tryz.func70, Tryz.ntmps70
    go_wp2
    go_ret
    exact ⟨rfl, Below.refl _ _⟩
  · have hok := fun h => Cs.varsE_ok h40 h
    have hno := fun h => Cs.varsE_no h40 h
    obtain ⟨r, hr⟩ : ∃ r, Cs.varsE vs = r := ⟨_, rfl⟩
    rw [hr] at hok hno ⊢
    have h40' : vs.length ≤ 40 := by omega
    have HOK := Lib.hid hok
    have HNO := Lib.hid hno
    have h41 : (vs.length : Int) ≤ 40 := by omega
    clear hok hno hr h40
    go_enter Tryz.func70, Tryz.ntmps70
    go_wp2
    go_loopw [3, 11] (fun B I wr => ∃ (k : Nat) (b : Int), k ≤ vs.length ∧ I = .int .i64 k ∧ B = .int .i64 b ∧ 0 ≤ b ∧ b ≤ 3000 ∧ Cs.okV 0 vs = Cs.okV b (vs.drop k) ∧ Below w.heap.size w wr)
      (fun _ I _ => vs.length - (intOf I).toNat)
    case atStart => exact ⟨0, 0, Nat.zero_le _, rfl, rfl, by omega, by omega, by simp, Below.refl _ _⟩
    case round =>
      obtain ⟨k, b, hk, rfl, rfl, hb0, hb1, hF, hB⟩ := hrel
      by_cases hlt : k < vs.length
      · obtain ⟨hs1, hs2⟩ := Cs.okV_step hlt hF
        obtain ⟨bv, ov, rfl, hbv, e0, e1⟩ := (hR.below hB (Nat.le_refl _)).var hlt
        obtain ⟨⟨y, e⟩, hv⟩ : ∃ v, vs[k] = v := ⟨_, rfl⟩
        rw [hv] at hs1 hs2 e0 e1
        dsimp only at hs1 hs2 e0 e1
        have hB2 := hB.alloc hB.size (.cells #[.int .i64 y, .int .i64 e] 76)
        have HB2 := Lib.hid hB2
        clear hB2 hv hF
        by_cases g1 : b + 1 ≤ y ∧ y ≤ 3000
        · have d1 : decide (b + 1 ≤ y ∧ y ≤ 3000) = true := decide_eq_true g1
          by_cases g2 : -60 ≤ e ∧ e ≤ 60
          · have d2 : decide (-60 ≤ e ∧ e ≤ 60) = true := decide_eq_true g2
            have HF := Lib.hid (hs1 ⟨g1.1, g1.2, g2.1, g2.2⟩)
            obtain ⟨g3, g4⟩ := g1
            clear hs1 hs2 g2
            go_wp2_with (go_at_call 37; refine (between_any _ _ _ _).mono ?_; (first | rw [d1] | rw [d2]); rintro e w' ⟨rfl, rfl⟩)
            go_roundw
            case rel => exact ⟨k + 1, y, by omega, by go_num, rfl, by omega, by omega, HF.out, HB2.out⟩
            case measure => simp [intOf]; omega
          · have d2 : decide (-60 ≤ e ∧ e ≤ 60) = false := decide_eq_false g2
            have HF := Lib.hid (HNO.out (hs2 (fun h => g2 h.2.2)))
            clear hs1 hs2 g1 g2
            go_wp2_with (go_at_call 37; refine (between_any _ _ _ _).mono ?_; (first | rw [d1] | rw [d2]); rintro e w' ⟨rfl, rfl⟩)
            go_ret
            exact ⟨ret_int (by rw [HF.out]), HB2.out⟩
        · have d1 : decide (b + 1 ≤ y ∧ y ≤ 3000) = false := decide_eq_false g1
          have HF := Lib.hid (HNO.out (hs2 (fun h => g1 ⟨h.1, h.2.1⟩)))
          clear hs1 hs2 g1
          go_wp2_with (go_at_call 37; refine (between_any _ _ _ _).mono ?_; rw [d1]; rintro e w' ⟨rfl, rfl⟩)
          go_ret
          exact ⟨ret_int (by rw [HF.out]), HB2.out⟩
      · obtain rfl : k = vs.length := by omega
        rw [List.drop_length] at hF
        have HF := Lib.hid (HOK.out hF)
        clear hF
        go_wp2
        go_ret
        exact ⟨ret_int (by rw [HF.out]), hB⟩

end Go.Proofs.YtncdeogpmodoaabGreatDoor
