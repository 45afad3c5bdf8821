/-
  CourseTexts: what is written is read again, plainly; the law's walk.
-/
import Derived.Test.YtncdeogpmodoaabGreatDoorLaw
import Derived.Test.YtncdeogpmodoaabGreatDoorDir
import Derived.Test.YtncdeogpmodoaabGreatDoorRle
set_option linter.unusedVariables false
set_option linter.unusedSimpArgs false
namespace Go.Proofs.YtncdeogpmodoaabGreatDoor
open Go.RowKit
set_option maxRecDepth 100000

namespace Cs
theorem lnk_len {n : Int} (h0 : 0 ≤ n) (h1 : n ≤ 1000000) : lnkF (lenF n) = (n, 0) := by
  have h : sumF lenU 0 (Lib.splitN (lenF n) [32] 8) = some n := say_write (most := 1000000) lenU_ok (by decide) (by decide) h0 h1 (sum_len h0 h1)
  rw [lnkF, readF, h]
  simp
theorem are_acr {n : Int} (h0 : 0 ≤ n) (h1 : n ≤ 1000000000000) : areF (acrF n) = (n, 0) := by
  have h : sumF areU 0 (Lib.splitN (acrF n) [32] 8) = some n := say_write (most := 1000000000000) areU_ok (by decide) (by decide) h0 h1 (sum_are h0 h1)
  rw [areF, readF, h]
  simp
theorem ber_quad (d : Int) : berF (quadF d) = (norm d, 0) := by
  have hr := norm_range d
  have h := dir_write hr.1 (by omega)
  rw [quadF_norm] at h
  rw [berF, readF, h]
  simp [quadF_norm]
theorem readF_ok {say : List Bs → Option Int} {write : Int → Bs} {s : Bs} (h : (readF say write s).2 = 0) : write (readF say write s).1 = s := by
  unfold readF at h ⊢
  cases hs : say (Lib.splitN s [32] 8) with
  | none => rw [hs] at h; simp at h
  | some n =>
    rw [hs] at h
    dsimp only at h ⊢
    by_cases hw : write n = s
    · rw [if_pos hw]; exact hw
    · rw [if_neg hw] at h; simp at h
theorem len_short (n : Int) : (lenF n).length ≤ 1000000 := by
  unfold lenF writeF
  split
  · rename_i h
    split
    · decide
    · have := outF_len (us := lenU) (fun x hx => (lenU_ok x hx).2.2) lenU_short (by decide) h.1 (by omega)
      exact Nat.le_trans this (by decide)
  · simp
theorem acr_short (n : Int) : (acrF n).length ≤ 1000000 := by
  unfold acrF writeF
  split
  · rename_i h
    split
    · decide
    · have := outF_len (us := areU) (fun x hx => (areU_ok x hx).2.2) areU_short (by decide) h.1 (by omega)
      exact Nat.le_trans this (by decide)
  · simp
theorem quadW_short {m : Int} (h0 : 0 ≤ m) (h1 : m ≤ 359) : (quadW m).length ≤ 3 ∧ ∀ x ∈ quadW m, x.length ≤ 100 := by
  have hi : ∀ q : Int, 0 ≤ q → q ≤ 360 → (Lib.itoa q).length ≤ 100 := fun q a b => itoa_len a (by omega)
  unfold quadW
  split
  · refine ⟨by simp, fun x hx => ?_⟩
    rw [List.mem_singleton.1 hx]
    rcases h : quarters[(m / 90).toNat]? with _ | y
    · simp
    · have := List.mem_of_getElem? h
      simp only [quarters, List.mem_cons, List.not_mem_nil, or_false] at this
      rcases this with rfl | rfl | rfl | rfl <;> decide
  · split
    · refine ⟨by simp, fun x hx => ?_⟩
      simp only [List.mem_cons, List.not_mem_nil, or_false] at hx
      rcases hx with rfl | rfl | rfl
      · decide
      · exact hi _ (by omega) (by omega)
      · decide
    · split
      · refine ⟨by simp, fun x hx => ?_⟩
        simp only [List.mem_cons, List.not_mem_nil, or_false] at hx
        rcases hx with rfl | rfl | rfl
        · decide
        · exact hi _ (by omega) (by omega)
        · decide
      · split
        · refine ⟨by simp, fun x hx => ?_⟩
          simp only [List.mem_cons, List.not_mem_nil, or_false] at hx
          rcases hx with rfl | rfl | rfl
          · decide
          · exact hi _ (by omega) (by omega)
          · decide
        · refine ⟨by simp, fun x hx => ?_⟩
          simp only [List.mem_cons, List.not_mem_nil, or_false] at hx
          rcases hx with rfl | rfl | rfl
          · decide
          · exact hi _ (by omega) (by omega)
          · decide
theorem quad_short (d : Int) : (quadF d).length ≤ 1000000 := by
  have hr := norm_range d
  obtain ⟨h1, h2⟩ := quadW_short hr.1 hr.2
  have h := join_len (quadW (norm d)) 100 h2
  have := Nat.mul_le_mul_right (100 + 1) h1
  unfold quadF
  omega
end Cs

set_option maxHeartbeats 8000000 in
theorem courseTexts_any (n d : Int) (s : Cs.Bs) (hs64 : s.length ≤ 9223372036854775807) (w : World) (hE : Env w) :
    Calls Tryz.prog 8 #[.int .i64 n, .int .i64 d, sv s] w fun e w' => e = .returned (.bool true) ∧ Below w.heap.size w w' := by
  have M0 := Lib.hid (show Mea w w from ⟨Below.refl _ _, hE⟩)
  clear hE
  by_cases hl : 100 < s.length
  · have d0 : decide (100 < (s.length : Int)) = true := decide_eq_true (by omega)
    rw [sv_def]
    clear hl
    go_enter Tryz.func8, Tryz.ntmps8
    go_wp2_with fail
    refine (measured_any _ M0.out.e).mono ?_
    rintro e w1 ⟨rfl, hb⟩
    have M1 := Lib.hid (M0.out.next hb)
    clear hb
    go_wp2_with fail
    go_ret
    exact ⟨rfl, M1.out.b⟩
  · have d0 : decide (100 < (s.length : Int)) = false := decide_eq_false (by omega)
    have hs : s.length ≤ 1000000 := by omega
    have b5 := fun W h => Quadrant_any d W h
    have b6 := fun W h => Bearing_any (Cs.quadF d) (Cs.quad_short d) W h
    have b7 := fun W => norm_any d W
    rw [Cs.ber_quad] at b6
    obtain ⟨T5, hT5⟩ : ∃ T, Cs.quadF d = T := ⟨_, rfl⟩
    obtain ⟨nd, hnd⟩ : ∃ T, Cs.norm d = T := ⟨_, rfl⟩
    rw [hT5] at b5 b6
    rw [hnd] at b6 b7
    have q1 := fun W h => Links_any s hs W h
    have q2 := fun W h => Area_any s hs W h
    have q3 := fun W h => Bearing_any s hs W h
    have p1 : (Cs.lnkF s).2 = 0 → Cs.lenF (Cs.lnkF s).1 = s := Cs.readF_ok
    have p2 : (Cs.areF s).2 = 0 → Cs.acrF (Cs.areF s).1 = s := Cs.readF_ok
    have p3 : (Cs.berF s).2 = 0 → Cs.quadF (Cs.berF s).1 = s := Cs.readF_ok
    obtain ⟨⟨a, f⟩, hr1⟩ : ∃ r, Cs.lnkF s = r := ⟨_, rfl⟩
    obtain ⟨⟨b, g⟩, hr2⟩ : ∃ r, Cs.areF s = r := ⟨_, rfl⟩
    obtain ⟨⟨c, h⟩, hr3⟩ : ∃ r, Cs.berF s = r := ⟨_, rfl⟩
    rw [hr1] at q1 p1
    rw [hr2] at q2 p2
    rw [hr3] at q3 p3
    dsimp only at q1 q2 q3 p1 p2 p3
    simp only [sv_def] at b5 b6 q1 q2 q3 ⊢
    have B5 := Lib.hid b5
    have B6 := Lib.hid b6
    have B7 := Lib.hid b7
    have Q1 := Lib.hid q1
    have Q2 := Lib.hid q2
    have Q3 := Lib.hid q3
    have P1 := Lib.hid p1
    have P2 := Lib.hid p2
    have P3 := Lib.hid p3
    clear b5 b6 b7 q1 q2 q3 p1 p2 p3 hr1 hr2 hr3 hT5 hnd hs hl
    go_enter Tryz.func8, Tryz.ntmps8
    go_upto_region 3 with fail
    go_cut [28] (fun z wx => z = .bool (decide (0 ≤ n ∧ n ≤ 1000000)) ∧ Mea w wx)
    case first =>
      by_cases g0 : 0 ≤ n
      · have e0 : decide (0 ≤ n) = true := decide_eq_true g0
        rcases e1 : decide (n ≤ 1000000) with _ | _
        · have e2 : decide (0 ≤ n ∧ n ≤ 1000000) = false := decide_eq_false (fun h => of_decide_eq_false e1 h.2)
          have E2 := Lib.hid e2
          clear g0 e2
          go_wp2_with fail
          go_meet
          exact ⟨congrArg Value.bool E2.out.symm, M0.out⟩
        · have e2 : decide (0 ≤ n ∧ n ≤ 1000000) = true := decide_eq_true ⟨g0, of_decide_eq_true e1⟩
          have E2 := Lib.hid e2
          clear g0 e2
          go_wp2_with fail
          go_meet
          exact ⟨congrArg Value.bool E2.out.symm, M0.out⟩
      · have e0 : decide (0 ≤ n) = false := decide_eq_false g0
        have e2 : decide (0 ≤ n ∧ n ≤ 1000000) = false := decide_eq_false (fun h => g0 h.1)
        have E2 := Lib.hid e2
        clear g0 e2
        go_wp2_with fail
        go_meet
        exact ⟨congrArg Value.bool E2.out.symm, M0.out⟩
    case rest =>
    obtain ⟨rfl, hM⟩ := hcut
    obtain ⟨W0, hW⟩ : ∃ W, W = wc := ⟨_, rfl⟩
    subst hW
    have N0 := Lib.hid hM
    clear hM M0
    go_upto_if 28 with fail
    go_cut [7] (fun _ wx => Mea w wx)
    case first =>
      by_cases g : 0 ≤ n ∧ n ≤ 1000000
      · have e2 : decide (0 ≤ n ∧ n ≤ 1000000) = true := decide_eq_true g
        have c1 := fun W h => Length_any n W h
        have c2 := fun W h => Links_any (Cs.lenF n) (Cs.len_short n) W h
        obtain ⟨T, hT⟩ : ∃ T, Cs.lenF n = T := ⟨_, rfl⟩
        rw [Cs.lnk_len g.1 g.2] at c2
        rw [hT] at c1 c2
        simp only [sv_def] at c1 c2
        rw [e2]
        have C1 := Lib.hid c1
        have C2 := Lib.hid c2
        have M0 := N0
        clear c1 c2 hT g e2
        go_wp2_with fail
        refine (C1.out _ M0.out.e).mono ?_
        rintro e w1 ⟨rfl, hb⟩
        have M1 := Lib.hid (M0.out.next hb)
        clear hb
        go_wp2_with fail
        refine (C2.out _ M1.out.e).mono ?_
        rintro e w2 ⟨rfl, hb⟩
        have M2 := Lib.hid (M1.out.next hb)
        clear hb
        go_wp2_with fail
        go_meet
        exact M2.out
      · have e2 : decide (0 ≤ n ∧ n ≤ 1000000) = false := decide_eq_false g
        rw [e2]
        clear g e2
        go_wp2_with fail
        go_meet
        exact N0.out
    case rest =>
    have hM := hcut
    clear hcut
    obtain ⟨W1, hW⟩ : ∃ W, W = wc := ⟨_, rfl⟩
    subst hW
    have M1 := Lib.hid hM
    clear hM N0
    go_upto_region 7 with fail
    go_cut [47] (fun z wx => z = .bool (decide (0 ≤ n ∧ n ≤ 1000000000000)) ∧ Mea w wx)
    case first =>
      by_cases g0 : 0 ≤ n
      · have e0 : decide (0 ≤ n) = true := decide_eq_true g0
        rcases e1 : decide (n ≤ 1000000000000) with _ | _
        · have e2 : decide (0 ≤ n ∧ n ≤ 1000000000000) = false := decide_eq_false (fun h => of_decide_eq_false e1 h.2)
          have E2 := Lib.hid e2
          clear g0 e2
          go_wp2_with fail
          go_meet
          exact ⟨congrArg Value.bool E2.out.symm, M1.out⟩
        · have e2 : decide (0 ≤ n ∧ n ≤ 1000000000000) = true := decide_eq_true ⟨g0, of_decide_eq_true e1⟩
          have E2 := Lib.hid e2
          clear g0 e2
          go_wp2_with fail
          go_meet
          exact ⟨congrArg Value.bool E2.out.symm, M1.out⟩
      · have e0 : decide (0 ≤ n) = false := decide_eq_false g0
        have e2 : decide (0 ≤ n ∧ n ≤ 1000000000000) = false := decide_eq_false (fun h => g0 h.1)
        have E2 := Lib.hid e2
        clear g0 e2
        go_wp2_with fail
        go_meet
        exact ⟨congrArg Value.bool E2.out.symm, M1.out⟩
    case rest =>
    obtain ⟨rfl, hM⟩ := hcut
    obtain ⟨W1, hW⟩ : ∃ W, W = wc := ⟨_, rfl⟩
    subst hW
    have N1 := Lib.hid hM
    clear hM M1
    go_upto_if 47 with fail
    go_cut [7] (fun _ wx => Mea w wx)
    case first =>
      by_cases g : 0 ≤ n ∧ n ≤ 1000000000000
      · have e2 : decide (0 ≤ n ∧ n ≤ 1000000000000) = true := decide_eq_true g
        have c1 := fun W h => Acres_any n W h
        have c2 := fun W h => Area_any (Cs.acrF n) (Cs.acr_short n) W h
        obtain ⟨T, hT⟩ : ∃ T, Cs.acrF n = T := ⟨_, rfl⟩
        rw [Cs.are_acr g.1 g.2] at c2
        rw [hT] at c1 c2
        simp only [sv_def] at c1 c2
        rw [e2]
        have C1 := Lib.hid c1
        have C2 := Lib.hid c2
        have M0 := N1
        clear c1 c2 hT g e2
        go_wp2_with fail
        refine (C1.out _ M0.out.e).mono ?_
        rintro e w1 ⟨rfl, hb⟩
        have M1 := Lib.hid (M0.out.next hb)
        clear hb
        go_wp2_with fail
        refine (C2.out _ M1.out.e).mono ?_
        rintro e w2 ⟨rfl, hb⟩
        have M2 := Lib.hid (M1.out.next hb)
        clear hb
        go_wp2_with fail
        go_meet
        exact M2.out
      · have e2 : decide (0 ≤ n ∧ n ≤ 1000000000000) = false := decide_eq_false g
        rw [e2]
        clear g e2
        go_wp2_with fail
        go_meet
        exact N1.out
    case rest =>
    have hM := hcut
    clear hcut
    obtain ⟨W2, hW⟩ : ∃ W, W = wc := ⟨_, rfl⟩
    subst hW
    have M2 := Lib.hid hM
    clear hM N1
    go_wp2_with fail
    refine (B5.out _ M2.out.e).mono ?_
    rintro e w3 ⟨rfl, hb⟩
    have M3 := Lib.hid (M2.out.next hb)
    clear hb
    go_wp2_with fail
    refine (B6.out _ M3.out.e).mono ?_
    rintro e w4 ⟨rfl, hb⟩
    have M4 := Lib.hid (M3.out.next hb)
    clear hb
    go_wp2_with fail
    refine (B7.out _).mono ?_
    rintro e w' ⟨rfl, rfl⟩
    go_wp2_with fail
    refine (Q1.out _ M4.out.e).mono ?_
    rintro e w5 ⟨rfl, hb⟩
    have M5 := Lib.hid (M4.out.next hb)
    clear hb
    go_wp2_with fail
    refine (Q2.out _ M5.out.e).mono ?_
    rintro e w6 ⟨rfl, hb⟩
    have M6 := Lib.hid (M5.out.next hb)
    clear hb
    go_wp2_with fail
    refine (Q3.out _ M6.out.e).mono ?_
    rintro e w7 ⟨rfl, hb⟩
    have M7 := Lib.hid (M6.out.next hb)
    clear hb
    go_upto_region 17 with fail
    go_cut [117] (fun z wx => z = .bool false ∧ Mea w wx)
    case first =>
      by_cases hv0 : f = 0
      · have t0 := P1.out hv0
        have l0 := fun W h => Length_any a W h
        rw [t0] at l0
        simp only [sv_def] at l0
        have L1 := Lib.hid l0
        subst hv0
        clear t0 l0
        by_cases hv1 : g = 0
        · have t1 := P2.out hv1
          have l1 := fun W h => Acres_any b W h
          rw [t1] at l1
          simp only [sv_def] at l1
          have L2 := Lib.hid l1
          subst hv1
          clear t1 l1
          by_cases hv2 : h = 0
          · have t2 := P3.out hv2
            have l2 := fun W h => Quadrant_any c W h
            rw [t2] at l2
            simp only [sv_def] at l2
            have L3 := Lib.hid l2
            subst hv2
            clear t2 l2
            go_wp2_with fail
            refine (L1.out _ M7.out.e).mono ?_
            rintro e w8 ⟨rfl, hb⟩
            have M8 := Lib.hid (M7.out.next hb)
            clear hb
            go_wp2_with fail
            refine (L2.out _ M8.out.e).mono ?_
            rintro e w9 ⟨rfl, hb⟩
            have M9 := Lib.hid (M8.out.next hb)
            clear hb
            go_wp2_with fail
            refine (L3.out _ M9.out.e).mono ?_
            rintro e w10 ⟨rfl, hb⟩
            have M10 := Lib.hid (M9.out.next hb)
            clear hb
            go_wp2_with fail
            go_meet
            exact ⟨rfl, M10.out⟩
          · have z2 : (h == 0) = false := by simp [hv2]
            clear hv2
            go_wp2_with fail
            refine (L1.out _ M7.out.e).mono ?_
            rintro e w8 ⟨rfl, hb⟩
            have M8 := Lib.hid (M7.out.next hb)
            clear hb
            go_wp2_with fail
            refine (L2.out _ M8.out.e).mono ?_
            rintro e w9 ⟨rfl, hb⟩
            have M9 := Lib.hid (M8.out.next hb)
            clear hb
            go_wp2_with fail
            go_meet
            exact ⟨rfl, M9.out⟩
        · have z1 : (g == 0) = false := by simp [hv1]
          clear hv1
          by_cases hv2 : h = 0
          · have t2 := P3.out hv2
            have l2 := fun W h => Quadrant_any c W h
            rw [t2] at l2
            simp only [sv_def] at l2
            have L3 := Lib.hid l2
            subst hv2
            clear t2 l2
            go_wp2_with fail
            refine (L1.out _ M7.out.e).mono ?_
            rintro e w8 ⟨rfl, hb⟩
            have M8 := Lib.hid (M7.out.next hb)
            clear hb
            go_wp2_with fail
            refine (L3.out _ M8.out.e).mono ?_
            rintro e w9 ⟨rfl, hb⟩
            have M9 := Lib.hid (M8.out.next hb)
            clear hb
            go_wp2_with fail
            go_meet
            exact ⟨rfl, M9.out⟩
          · have z2 : (h == 0) = false := by simp [hv2]
            clear hv2
            go_wp2_with fail
            refine (L1.out _ M7.out.e).mono ?_
            rintro e w8 ⟨rfl, hb⟩
            have M8 := Lib.hid (M7.out.next hb)
            clear hb
            go_wp2_with fail
            go_meet
            exact ⟨rfl, M8.out⟩
      · have z0 : (f == 0) = false := by simp [hv0]
        clear hv0
        by_cases hv1 : g = 0
        · have t1 := P2.out hv1
          have l1 := fun W h => Acres_any b W h
          rw [t1] at l1
          simp only [sv_def] at l1
          have L2 := Lib.hid l1
          subst hv1
          clear t1 l1
          by_cases hv2 : h = 0
          · have t2 := P3.out hv2
            have l2 := fun W h => Quadrant_any c W h
            rw [t2] at l2
            simp only [sv_def] at l2
            have L3 := Lib.hid l2
            subst hv2
            clear t2 l2
            go_wp2_with fail
            refine (L2.out _ M7.out.e).mono ?_
            rintro e w8 ⟨rfl, hb⟩
            have M8 := Lib.hid (M7.out.next hb)
            clear hb
            go_wp2_with fail
            refine (L3.out _ M8.out.e).mono ?_
            rintro e w9 ⟨rfl, hb⟩
            have M9 := Lib.hid (M8.out.next hb)
            clear hb
            go_wp2_with fail
            go_meet
            exact ⟨rfl, M9.out⟩
          · have z2 : (h == 0) = false := by simp [hv2]
            clear hv2
            go_wp2_with fail
            refine (L2.out _ M7.out.e).mono ?_
            rintro e w8 ⟨rfl, hb⟩
            have M8 := Lib.hid (M7.out.next hb)
            clear hb
            go_wp2_with fail
            go_meet
            exact ⟨rfl, M8.out⟩
        · have z1 : (g == 0) = false := by simp [hv1]
          clear hv1
          by_cases hv2 : h = 0
          · have t2 := P3.out hv2
            have l2 := fun W h => Quadrant_any c W h
            rw [t2] at l2
            simp only [sv_def] at l2
            have L3 := Lib.hid l2
            subst hv2
            clear t2 l2
            go_wp2_with fail
            refine (L3.out _ M7.out.e).mono ?_
            rintro e w8 ⟨rfl, hb⟩
            have M8 := Lib.hid (M7.out.next hb)
            clear hb
            go_wp2_with fail
            go_meet
            exact ⟨rfl, M8.out⟩
          · have z2 : (h == 0) = false := by simp [hv2]
            clear hv2
            go_wp2_with fail
            go_meet
            exact ⟨rfl, M7.out⟩
    case rest =>
    obtain ⟨rfl, hM⟩ := hcut
    obtain ⟨W8, hW⟩ : ∃ W, W = wc := ⟨_, rfl⟩
    subst hW
    have M8 := Lib.hid hM
    clear hM
    go_wp2_with fail
    refine (measured_any _ M8.out.e).mono ?_
    rintro e w9 ⟨rfl, hb⟩
    have M9 := Lib.hid (M8.out.next hb)
    clear hb
    go_wp2_with fail
    go_ret
    exact ⟨rfl, M9.out.b⟩

end Go.Proofs.YtncdeogpmodoaabGreatDoor
