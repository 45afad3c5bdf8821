/-
  CheckVariations and Declination of course and of the reference.
-/
import Derived.Test.YtncdeogpmodoaaaGreatDoorChk
set_option linter.unusedVariables false
set_option linter.unusedSimpArgs false
namespace Go.Proofs.YtncdeogpmodoaaaGreatDoor
open Go.RowKit
set_option maxRecDepth 100000

theorem below_drewN {C : Nat} {w w' : World} (h : Below C w w') (n : Nat) : Below C w (w'.drewN n) := ⟨h.os, h.tape, h.output, h.size, h.block⟩

namespace Cs
theorem okV_step {b : Int} {vs : List (Int × Int)} {k : Nat} (hk : k < vs.length) (h : okV 0 vs = okV b (vs.drop k)) :
    (b + 1 ≤ vs[k].1 ∧ vs[k].1 ≤ 3000 ∧ -60 ≤ vs[k].2 ∧ vs[k].2 ≤ 60 → okV 0 vs = okV vs[k].1 (vs.drop (k + 1))) ∧
      (¬ (b + 1 ≤ vs[k].1 ∧ vs[k].1 ≤ 3000 ∧ -60 ≤ vs[k].2 ∧ vs[k].2 ≤ 60) → okV 0 vs = false) := by
  rw [List.drop_eq_getElem_cons hk] at h
  obtain ⟨⟨y, e⟩, hv⟩ : ∃ v, vs[k] = v := ⟨_, rfl⟩
  rw [hv] at h ⊢
  dsimp only
  rw [h, okV]
  constructor
  · intro hh
    rw [decide_eq_true hh, Bool.true_and]
  · intro hh
    rw [decide_eq_false hh, Bool.false_and]
theorem varsE_long {vs : List (Int × Int)} (h : 40 < vs.length) : varsE vs = 2 := by rw [varsE, if_pos h]
theorem varsE_ok {vs : List (Int × Int)} (h : ¬ 40 < vs.length) (hk : okV 0 vs = true) : varsE vs = 0 := by rw [varsE, if_neg h, if_pos hk]
theorem varsE_no {vs : List (Int × Int)} (h : ¬ 40 < vs.length) (hk : okV 0 vs = false) : varsE vs = 1 := by rw [varsE, if_neg h, if_neg (by rw [hk]; simp)]
/-- The year ahead of variation k. -/
def prev (vs : List (Int × Int)) : Nat → Int
  | 0 => 0
  | k + 1 => (vs[k]?.getD (0, 0)).1
theorem prev_at {vs : List (Int × Int)} {k : Nat} (hk : k < vs.length) : prev vs (k + 1) = vs[k].1 := by simp [prev, hk]
end Cs

set_option maxHeartbeats 2000000 in
theorem checkVariations_any (A : Option Addr) (c : Nat) (vs : List (Int × Int)) (w : World) (hR : Rd w w.heap.size 2 A vs.length (vcells vs)) (hl : vs.length ≤ 1000000) :
    Calls Tryz.prog 37 #[.slice A vs.length c] w fun e w' => e = .returned (.int .i64 (Cs.varsE vs)) ∧ Below w.heap.size w w' := by
  by_cases h40 : 40 < vs.length
  · rw [Cs.varsE_long h40]
    go_enter Tryz.func37, Tryz.ntmps37
    go_wp2
    go_ret
    exact ⟨rfl, Below.refl _ _⟩
  · have hok := fun h => Cs.varsE_ok h40 h
    have hno := fun h => Cs.varsE_no h40 h
    obtain ⟨r, hr⟩ : ∃ r, Cs.varsE vs = r := ⟨_, rfl⟩
    rw [hr] at hok hno ⊢
    have h40' : vs.length ≤ 40 := by omega
    have HOK := Lib.hid hok
    have HNO := Lib.hid hno
    have h41 : (vs.length : Int) ≤ 40 := by omega
    clear hok hno hr h40
    go_enter Tryz.func37, Tryz.ntmps37
    go_wp2
    go_loopw [3, 11] (fun B I wr => ∃ (k : Nat) (b : Int), k ≤ vs.length ∧ I = .int .i64 k ∧ B = .int .i64 b ∧ 0 ≤ b ∧ b ≤ 3000 ∧ Cs.okV 0 vs = Cs.okV b (vs.drop k) ∧ Below w.heap.size w wr)
      (fun _ I _ => vs.length - (intOf I).toNat)
    case atStart => exact ⟨0, 0, Nat.zero_le _, rfl, rfl, by omega, by omega, by simp, Below.refl _ _⟩
    case round =>
      obtain ⟨k, b, hk, rfl, rfl, hb0, hb1, hF, hB⟩ := hrel
      by_cases hlt : k < vs.length
      · obtain ⟨hs1, hs2⟩ := Cs.okV_step hlt hF
        obtain ⟨bv, ov, rfl, hbv, e0, e1⟩ := (hR.below hB (Nat.le_refl _)).var hlt
        obtain ⟨⟨y, e⟩, hv⟩ : ∃ v, vs[k] = v := ⟨_, rfl⟩
        rw [hv] at hs1 hs2 e0 e1
        dsimp only at hs1 hs2 e0 e1
        have hB2 := hB.alloc hB.size (.cells #[.int .i64 y, .int .i64 e] 80)
        have HB2 := Lib.hid hB2
        clear hB2 hv hF
        by_cases g1 : b + 1 ≤ y ∧ y ≤ 3000
        · have d1 : decide (b + 1 ≤ y ∧ y ≤ 3000) = true := decide_eq_true g1
          by_cases g2 : -60 ≤ e ∧ e ≤ 60
          · have d2 : decide (-60 ≤ e ∧ e ≤ 60) = true := decide_eq_true g2
            have HF := Lib.hid (hs1 ⟨g1.1, g1.2, g2.1, g2.2⟩)
            obtain ⟨g3, g4⟩ := g1
            clear hs1 hs2 g2
            go_wp2_with (go_at_call 61; refine (between_any _ _ _ _).mono ?_; (first | rw [d1] | rw [d2]); rintro e w' ⟨rfl, rfl⟩)
            go_roundw
            case rel => exact ⟨k + 1, y, by omega, by go_num, rfl, by omega, by omega, HF.out, HB2.out⟩
            case measure => simp [intOf]; omega
          · have d2 : decide (-60 ≤ e ∧ e ≤ 60) = false := decide_eq_false g2
            have HF := Lib.hid (HNO.out (hs2 (fun h => g2 h.2.2)))
            clear hs1 hs2 g1 g2
            go_wp2_with (go_at_call 61; refine (between_any _ _ _ _).mono ?_; (first | rw [d1] | rw [d2]); rintro e w' ⟨rfl, rfl⟩)
            go_ret
            exact ⟨ret_int (by rw [HF.out]), HB2.out⟩
        · have d1 : decide (b + 1 ≤ y ∧ y ≤ 3000) = false := decide_eq_false g1
          have HF := Lib.hid (HNO.out (hs2 (fun h => g1 ⟨h.1, h.2.1⟩)))
          clear hs1 hs2 g1
          go_wp2_with (go_at_call 61; refine (between_any _ _ _ _).mono ?_; rw [d1]; rintro e w' ⟨rfl, rfl⟩)
          go_ret
          exact ⟨ret_int (by rw [HF.out]), HB2.out⟩
      · obtain rfl : k = vs.length := by omega
        rw [List.drop_length] at hF
        have HF := Lib.hid (HOK.out hF)
        clear hF
        go_wp2
        go_ret
        exact ⟨ret_int (by rw [HF.out]), hB⟩

set_option maxHeartbeats 4000000 in
theorem rcheckVariations_any (A : Option Addr) (c : Nat) (vs : List (Int × Int)) (w : World) (hR : Rd w w.heap.size 2 A vs.length (vcells vs)) (hl : vs.length ≤ 1000000) :
    Calls Tryz.prog 38 #[.slice A vs.length c] w fun e w' => e = .returned (.int .i64 (Cs.varsE vs)) ∧ Below w.heap.size w w' := by
  by_cases h40 : 40 < vs.length
  · rw [Cs.varsE_long h40]
    go_enter Tryz.func38, Tryz.ntmps38
    go_wp2
    go_ret
    exact ⟨rfl, Below.refl _ _⟩
  · have hok := fun h => Cs.varsE_ok h40 h
    have hno := fun h => Cs.varsE_no h40 h
    obtain ⟨r, hr⟩ : ∃ r, Cs.varsE vs = r := ⟨_, rfl⟩
    rw [hr] at hok hno ⊢
    have h40' : vs.length ≤ 40 := by omega
    have HOK := Lib.hid hok
    have HNO := Lib.hid hno
    have h41 : (vs.length : Int) ≤ 40 := by omega
    clear hok hno hr h40
    go_enter Tryz.func38, Tryz.ntmps38
    go_wp2
    go_loopw [3] (fun I wr => ∃ k : Nat, k ≤ vs.length ∧ I = .int .i64 k ∧ 0 ≤ Cs.prev vs k ∧ Cs.okV 0 vs = Cs.okV (Cs.prev vs k) (vs.drop k) ∧ Below w.heap.size w wr)
      (fun I _ => vs.length - (intOf I).toNat)
    case atStart => exact ⟨0, Nat.zero_le _, rfl, by simp [Cs.prev], by simp [Cs.prev], Below.refl _ _⟩
    case round =>
      obtain ⟨k, hk, rfl, hb0, hF, hB⟩ := hrel
      by_cases hlt : k < vs.length
      · obtain ⟨hs1, hs2⟩ := Cs.okV_step hlt hF
        have hpk := Cs.prev_at hlt
        obtain ⟨bv, ov, rfl, hbv, e0, e1⟩ := (hR.below hB (Nat.le_refl _)).var hlt
        have hpv : 0 < k → wr.cell? ⟨bv, ov + (k - 1) * 2, none⟩ = some (.int .i64 (Cs.prev vs k)) := fun h => by
          obtain ⟨b', o', e', _, p0, _⟩ := (hR.below hB (Nat.le_refl _)).var (k := k - 1) (by omega)
          cases e'
          have := Cs.prev_at (vs := vs) (k := k - 1) (by omega)
          rw [show k - 1 + 1 = k by omega] at this
          rw [this]
          exact p0
        have hz : k = 0 → Cs.prev vs k = 0 := fun h => by subst h; rfl
        obtain ⟨⟨y, e⟩, hv⟩ : ∃ v, vs[k] = v := ⟨_, rfl⟩
        rw [hv] at hs1 hs2 e0 e1 hpk
        dsimp only at hs1 hs2 e0 e1 hpk
        obtain ⟨b, hbb⟩ : ∃ b, Cs.prev vs k = b := ⟨_, rfl⟩
        rw [hbb] at hs1 hs2 hpv hz hb0
        have hB2 := hB.alloc hB.size (.cells #[.int .i64 y, .int .i64 e] 80)
        have hlb : bv < wr.heap.size := Nat.lt_of_lt_of_le hbv hB.size
        have HB2 := Lib.hid hB2
        have HPK := Lib.hid hpk
        clear hB2 hv hF hbb hpk hB
        have hk0 : (0 : Int) ≤ (k : Int) := Int.natCast_nonneg _
        have hki : (k : Int) < (vs.length : Int) := by omega
        by_cases hg : b + 1 ≤ y ∧ y ≤ 3000 ∧ -60 ≤ e ∧ e ≤ 60
        · have HF := Lib.hid (hs1 hg)
          obtain ⟨g1, g2, g3, g4⟩ := hg
          have q1 : decide (y < 1) = false := decide_eq_false (by omega)
          have q2 : decide (3000 < y) = false := decide_eq_false (by omega)
          have q3 : decide (e < -60) = false := decide_eq_false (by omega)
          have q4 : decide (60 < e) = false := decide_eq_false (by omega)
          have q5 : decide (y ≤ b) = false := decide_eq_false (by omega)
          clear hs1 hs2 hz
          rcases Nat.eq_zero_or_pos k with hk0' | hk0'
          · subst hk0'
            rw [Nat.zero_mul, Nat.add_zero] at e0 e1
            clear hpv
            go_wp2
            go_quiet (fail)
            go_wp2
            go_roundw
            case rel => exact ⟨1, by omega, rfl, by rw [HPK.out]; omega, by rw [HPK.out]; exact HF.out, below_drewN HB2.out _⟩
            case measure => simp [intOf]; omega
          · have p0 := hpv hk0'
            have h1k : (1 : Int) ≤ (k : Int) := by omega
            have hk1 : ((k : Int) - 1).toNat = k - 1 := by omega
            have hk2 : (k : Int) - 1 < (vs.length : Int) := by omega
            have q6 : decide ((0 : Int) < (k : Int)) = true := decide_eq_true (by omega)
            clear hpv
            go_wp2
            go_quiet (fail)
            go_wp2
            go_roundw
            case rel => exact ⟨k + 1, by omega, by go_num, by rw [HPK.out]; omega, by rw [HPK.out]; exact HF.out, below_drewN HB2.out _⟩
            case measure => simp [intOf]; omega
        · have HF := Lib.hid (HNO.out (hs2 hg))
          have hcs : y < 1 ∨ (1 ≤ y ∧ 3000 < y) ∨ (1 ≤ y ∧ y ≤ 3000 ∧ e < -60) ∨ (1 ≤ y ∧ y ≤ 3000 ∧ -60 ≤ e ∧ 60 < e) ∨ (1 ≤ y ∧ y ≤ 3000 ∧ -60 ≤ e ∧ e ≤ 60 ∧ 0 < k ∧ y ≤ b) := by
            rcases Nat.eq_zero_or_pos k with h | h
            · have := hz h
              omega
            · omega
          clear hs1 hs2 hz hg
          rcases hcs with g1 | ⟨g1, g2⟩ | ⟨g1, g2, g3⟩ | ⟨g1, g2, g3, g4⟩ | ⟨g1, g2, g3, g4, g5, g6⟩
          · have q1 : decide (y < 1) = true := decide_eq_true (by omega)
            clear hpv
            go_wp2
            go_quiet (fail)
            go_wp2
            go_ret
            exact ⟨ret_int (by rw [HF.out]), below_drewN HB2.out _⟩
          · have q1 : decide (y < 1) = false := decide_eq_false (by omega)
            have q2 : decide (3000 < y) = true := decide_eq_true (by omega)
            clear hpv
            go_wp2
            go_quiet (fail)
            go_wp2
            go_ret
            exact ⟨ret_int (by rw [HF.out]), below_drewN HB2.out _⟩
          · have q1 : decide (y < 1) = false := decide_eq_false (by omega)
            have q2 : decide (3000 < y) = false := decide_eq_false (by omega)
            have q3 : decide (e < -60) = true := decide_eq_true (by omega)
            clear hpv
            go_wp2
            go_quiet (fail)
            go_wp2
            go_ret
            exact ⟨ret_int (by rw [HF.out]), below_drewN HB2.out _⟩
          · have q1 : decide (y < 1) = false := decide_eq_false (by omega)
            have q2 : decide (3000 < y) = false := decide_eq_false (by omega)
            have q3 : decide (e < -60) = false := decide_eq_false (by omega)
            have q4 : decide (60 < e) = true := decide_eq_true (by omega)
            clear hpv
            go_wp2
            go_quiet (fail)
            go_wp2
            go_ret
            exact ⟨ret_int (by rw [HF.out]), below_drewN HB2.out _⟩
          · have p0 := hpv g5
            have q1 : decide (y < 1) = false := decide_eq_false (by omega)
            have q2 : decide (3000 < y) = false := decide_eq_false (by omega)
            have q3 : decide (e < -60) = false := decide_eq_false (by omega)
            have q4 : decide (60 < e) = false := decide_eq_false (by omega)
            have q5 : decide (y ≤ b) = true := decide_eq_true (by omega)
            have h1k : (1 : Int) ≤ (k : Int) := by omega
            have hk1 : ((k : Int) - 1).toNat = k - 1 := by omega
            have hk2 : (k : Int) - 1 < (vs.length : Int) := by omega
            have q6 : decide ((0 : Int) < (k : Int)) = true := decide_eq_true (by omega)
            clear hpv
            go_wp2
            go_quiet (fail)
            go_wp2
            go_ret
            exact ⟨ret_int (by rw [HF.out]), below_drewN HB2.out _⟩
      · obtain rfl : k = vs.length := by omega
        rw [List.drop_length] at hF
        have HF := Lib.hid (HOK.out hF)
        clear hF
        go_wp2
        go_ret
        exact ⟨ret_int (by rw [HF.out]), hB⟩

end Go.Proofs.YtncdeogpmodoaaaGreatDoor
