/-
  Declination, ends, aimOf, aimEast of course; Declination and sector of the reference.
-/
import Derived.Test.YtncdeogpmodoaaaGreatDoorVar
import Derived.Test.YtncdeogpmodoaaaGreatDoorFit
set_option linter.unusedVariables false
set_option linter.unusedSimpArgs false
namespace Go.Proofs.YtncdeogpmodoaaaGreatDoor
open Go.RowKit
set_option maxRecDepth 100000

namespace Cs
theorem decG_append (year : Int) (a b : List (Int × Int)) (acc : Int × Bool) : decG year acc (a ++ b) = decG year (decG year acc a) b := by
  induction a generalizing acc with
  | nil => rfl
  | cons v a ih =>
    obtain ⟨y, e⟩ := v
    rw [List.cons_append, decG, decG, ih]
theorem dec_ok {vs : List (Int × Int)} (h : varsE vs = 0) (year : Int) : dec vs year = decG year (0, false) vs := by rw [dec, if_pos h]
theorem dec_no {vs : List (Int × Int)} (h : varsE vs ≠ 0) (year : Int) : dec vs year = (0, false) := by rw [dec, if_neg h]
theorem varsE_len {vs : List (Int × Int)} (h : varsE vs = 0) : vs.length ≤ 40 := by
  unfold varsE at h
  split at h
  · cases h
  · omega
theorem decG_step {year : Int} {vs : List (Int × Int)} {k : Nat} {acc : Int × Bool} (hk : k < vs.length) : decG year acc (vs.drop k) = decG year (if vs[k].1 ≤ year then (vs[k].2, true) else acc) (vs.drop (k + 1)) := by
  rw [List.drop_eq_getElem_cons hk]
  rfl
theorem decG_last {year : Int} {vs : List (Int × Int)} {k : Nat} {acc : Int × Bool} (hk : k < vs.length) : decG year acc (vs.take (k + 1)) = if vs[k].1 ≤ year then (vs[k].2, true) else decG year acc (vs.take k) := by
  rw [List.take_succ_eq_append_getElem hk, decG_append]
  rfl
end Cs

set_option maxHeartbeats 2000000 in
theorem declination_any (A : Option Addr) (c : Nat) (vs : List (Int × Int)) (year : Int) (w : World) (hR : Rd w w.heap.size 2 A vs.length (vcells vs)) (hl : vs.length ≤ 1000000) :
    Calls Tryz.prog 29 #[.slice A vs.length c, .int .i64 year] w fun e w' => e = .returned (.tuple #[.int .i64 (Cs.dec vs year).1, .bool (Cs.dec vs year).2]) ∧ Below w.heap.size w w' := by
  have hcv := checkVariations_any A c vs w hR hl
  by_cases hs : Cs.varsE vs = 0
  · rw [hs] at hcv
    have h40 := Cs.varsE_len hs
    rw [Cs.dec_ok hs]
    obtain ⟨r, hr⟩ : ∃ r, Cs.decG year (0, false) vs = r := ⟨_, rfl⟩
    have hr0 : Cs.decG year (0, false) (vs.drop 0) = r := by simpa using hr
    rw [hr]
    have HCV := Lib.hid hcv
    have HR0 := Lib.hid hr0
    clear hcv hr0 hr hs
    go_enter Tryz.func29, Tryz.ntmps29
    go_wp2_with fail
    refine HCV.out.mono ?_
    rintro e w1 ⟨rfl, hb1⟩
    go_wp2_with fail
    go_loopw [6, 7, 15] (fun E K I wr => ∃ (k : Nat) (x : Int) (b : Bool), k ≤ vs.length ∧ I = .int .i64 k ∧ E = .int .i64 x ∧ K = .bool b ∧ Cs.decG year (x, b) (vs.drop k) = r ∧ Below w.heap.size w wr)
      (fun _ _ I _ => vs.length - (intOf I).toNat)
    case atStart => exact ⟨0, 0, false, Nat.zero_le _, rfl, rfl, rfl, HR0.out, hb1⟩
    case round =>
      clear hb1
      obtain ⟨k, x, b, hk, rfl, rfl, rfl, hF, hB⟩ := hrel
      by_cases hlt : k < vs.length
      · rw [Cs.decG_step hlt] at hF
        obtain ⟨bv, ov, rfl, hbv, e0, e1⟩ := (hR.below hB (Nat.le_refl _)).var hlt
        obtain ⟨⟨y, e⟩, hv⟩ : ∃ v, vs[k] = v := ⟨_, rfl⟩
        rw [hv] at e0 e1 hF
        dsimp only at e0 e1 hF
        have HB2 := Lib.hid (hB.alloc hB.size (.cells #[.int .i64 y, .int .i64 e] 80))
        clear hv hB
        by_cases g : y ≤ year
        · rw [if_pos g] at hF
          have HF := Lib.hid hF
          clear hF
          go_wp2_with fail
          go_roundw
          case rel => exact ⟨k + 1, e, true, by omega, by go_num, rfl, rfl, HF.out, HB2.out⟩
          case measure => simp [intOf]; omega
        · rw [if_neg g] at hF
          have HF := Lib.hid hF
          clear hF
          go_wp2_with fail
          go_roundw
          case rel => exact ⟨k + 1, x, b, by omega, by go_num, rfl, rfl, HF.out, HB2.out⟩
          case measure => simp [intOf]; omega
      · obtain rfl : k = vs.length := by omega
        rw [List.drop_length] at hF
        have HF := Lib.hid (show (x, b) = r from hF)
        clear hF
        go_wp2_with fail
        go_ret2
        have h := HF.out
        subst h
        exact ⟨rfl, hB⟩
  · rw [Cs.dec_no hs]
    have hne : (Cs.varsE vs != 0) = true := by simp [hs]
    obtain ⟨s, hss⟩ : ∃ s, Cs.varsE vs = s := ⟨_, rfl⟩
    rw [hss] at hcv hne
    have HCV := Lib.hid hcv
    clear hcv hs hss
    go_enter Tryz.func29, Tryz.ntmps29
    go_wp2_with fail
    refine HCV.out.mono ?_
    rintro e w1 ⟨rfl, hb1⟩
    go_wp2_with fail
    go_ret2
    exact ⟨rfl, hb1⟩

set_option maxHeartbeats 2000000 in
theorem rdeclination_any (A : Option Addr) (c : Nat) (vs : List (Int × Int)) (year : Int) (w : World) (hR : Rd w w.heap.size 2 A vs.length (vcells vs)) (hl : vs.length ≤ 1000000) :
    Calls Tryz.prog 30 #[.slice A vs.length c, .int .i64 year] w fun e w' => e = .returned (.tuple #[.int .i64 (Cs.dec vs year).1, .bool (Cs.dec vs year).2]) ∧ Below w.heap.size w w' := by
  have hcv := rcheckVariations_any A c vs w hR hl
  by_cases hs : Cs.varsE vs = 0
  · rw [hs] at hcv
    have h40 := Cs.varsE_len hs
    rw [Cs.dec_ok hs]
    obtain ⟨r, hr⟩ : ∃ r, Cs.decG year (0, false) vs = r := ⟨_, rfl⟩
    have hr0 : Cs.decG year (0, false) (vs.take vs.length) = r := by rw [List.take_length]; exact hr
    rw [hr]
    have HCV := Lib.hid hcv
    have HR0 := Lib.hid hr0
    clear hcv hr0 hr hs
    go_enter Tryz.func30, Tryz.ntmps30
    go_wp2_with fail
    refine HCV.out.mono ?_
    rintro e w1 ⟨rfl, hb1⟩
    go_wp2_with fail
    go_loopw [6] (fun I wr => ∃ k : Nat, k ≤ vs.length ∧ I = .int .i64 ((k : Int) - 1) ∧ Cs.decG year (0, false) (vs.take k) = r ∧ Below w.heap.size w wr)
      (fun I _ => (intOf I + 1).toNat)
    case atStart => exact ⟨vs.length, Nat.le_refl _, rfl, HR0.out, hb1⟩
    case round =>
      clear hb1
      obtain ⟨k, hk, rfl, hF, hB⟩ := hrel
      rcases k with _ | k
      · have HF := Lib.hid (show ((0 : Int), false) = r from hF)
        clear hF
        rw [show ((0 : Nat) : Int) - 1 = -1 from rfl]
        go_wp2_with fail
        go_ret2
        have h := HF.out
        subst h
        exact ⟨rfl, hB⟩
      · have hlt : k < vs.length := by omega
        rw [Cs.decG_last hlt] at hF
        obtain ⟨bv, ov, rfl, hbv, e0, e1⟩ := (hR.below hB (Nat.le_refl _)).var hlt
        obtain ⟨⟨y, e⟩, hv⟩ : ∃ v, vs[k] = v := ⟨_, rfl⟩
        rw [hv] at e0 e1 hF
        dsimp only at e0 e1 hF
        have HB2 := Lib.hid hB
        have hki : ((k + 1 : Nat) : Int) - 1 = (k : Int) := by omega
        rw [hki]
        have hk0 : (0 : Int) ≤ (k : Int) := Int.natCast_nonneg _
        have hkl : (k : Int) < (vs.length : Int) := by omega
        clear hv hB
        by_cases g : y ≤ year
        · rw [if_pos g] at hF
          have HF := Lib.hid hF
          clear hF
          go_wp2_with fail
          go_ret2
          have h := HF.out
          subst h
          exact ⟨rfl, HB2.out⟩
        · rw [if_neg g] at hF
          have HF := Lib.hid hF
          clear hF
          go_wp2_with fail
          go_roundw
          case rel => exact ⟨k, by omega, by go_num, HF.out, HB2.out⟩
          case measure => first | (simp [intOf]; done) | (simp [intOf]; omega)
  · rw [Cs.dec_no hs]
    have hne : (Cs.varsE vs != 0) = true := by simp [hs]
    obtain ⟨s, hss⟩ : ∃ s, Cs.varsE vs = s := ⟨_, rfl⟩
    rw [hss] at hcv hne
    have HCV := Lib.hid hcv
    clear hcv hs hss
    go_enter Tryz.func30, Tryz.ntmps30
    go_wp2_with fail
    refine HCV.out.mono ?_
    rintro e w1 ⟨rfl, hb1⟩
    go_wp2_with fail
    go_ret2
    exact ⟨rfl, hb1⟩

/-- The ends of the true length, in parts of a link. -/
theorem ends_any (a s l : Int) (w : World) (ha : -500 ≤ a ∧ a ≤ 500) (hs : 0 ≤ s ∧ s ≤ 200) (hl : 1 ≤ l ∧ l ≤ 100000) :
    Calls Tryz.prog 62 #[.agg #[.int .i64 a, .int .i64 s], .int .i64 l] w fun e w' => e = .returned (.tuple #[.int .i64 (l * (10000 + a - s)), .int .i64 (l * (10000 + a + s))]) ∧ Below w.heap.size w w' := by
  have hB := (Below.refl w.heap.size w).alloc (Nat.le_refl _) (.cells #[.int .i64 a, .int .i64 s] 27)
  have m1 : 0 ≤ l * (10000 + a - s) := Int.mul_nonneg (by omega) (by omega)
  have m2 : l * (10000 + a - s) ≤ 100000 * 10700 := Int.mul_le_mul (by omega) (by omega) (by omega) (by omega)
  have m3 : 0 ≤ l * (10000 + a + s) := Int.mul_nonneg (by omega) (by omega)
  have m4 : l * (10000 + a + s) ≤ 100000 * 10700 := Int.mul_le_mul (by omega) (by omega) (by omega) (by omega)
  have w1 : IntKind.i64.wrap (10000 + a) = 10000 + a := IntWalk.i64_in _ (by omega)
  have w2 : IntKind.i64.wrap (10000 + a - s) = 10000 + a - s := IntWalk.i64_in _ (by omega)
  have w3 : IntKind.i64.wrap (10000 + a + s) = 10000 + a + s := IntWalk.i64_in _ (by omega)
  have w4 : IntKind.i64.wrap (l * (10000 + a - s)) = l * (10000 + a - s) := IntWalk.i64_in _ (by omega)
  have w5 : IntKind.i64.wrap (l * (10000 + a + s)) = l * (10000 + a + s) := IntWalk.i64_in _ (by omega)
  have HB := Lib.hid hB
  clear hB
  go_enter Tryz.func62, Tryz.ntmps62
  go_wp2
  go_quiet (fail)
  go_wp2
  go_ret2
  exact ⟨rfl, below_drewN HB.out _⟩

end Go.Proofs.YtncdeogpmodoaaaGreatDoor
