/-
  The reference's Common.
-/
import Derived.Test.YtncdeogpmodoaaaGreatDoorRc
set_option linter.unusedVariables false
set_option linter.unusedSimpArgs false
namespace Go.Proofs.YtncdeogpmodoaaaGreatDoor
open Go.RowKit
set_option maxRecDepth 100000

namespace Cs
/-- The error behind the reference's first, and second, loop over the courses. -/
def fin1 (e : Int) (l : List Co) : Int := if e ≠ 0 then e else if l.all courseOk then 0 else 1
def fin2 (vs : List (Int × Int)) (e : Int) (l : List Co) : Int := if e ≠ 0 then e else if l.all (fun c => (dec vs c.y).2) then 0 else 20
theorem fin_check (vs : List (Int × Int)) (cs : List Co) : fin2 vs (fin1 (varsE vs) cs) cs = checkE vs cs := by
  unfold fin1 fin2 checkE
  by_cases h : varsE vs = 0
  · rcases cs.all courseOk with _ | _ <;> simp [h]
  · simp [h]
theorem fin1_zero (l : List Co) : fin1 0 l = if l.all courseOk then 0 else 1 := by simp [fin1]
theorem fin1_ne {e : Int} (h : e ≠ 0) (l : List Co) : fin1 e l = e := by simp [fin1, h]
theorem fin1_step {cs : List Co} {k : Nat} (hk : k < cs.length) : fin1 0 (cs.drop k) = fin1 (courseE cs[k]) (cs.drop (k + 1)) := by
  rw [List.drop_eq_getElem_cons hk, fin1_zero, List.all_cons]
  rcases hc : courseOk cs[k] with _ | _
  · rw [courseE_not hc, fin1_ne (by decide), Bool.false_and, if_neg (by simp)]
  · rw [courseE_of hc, fin1_zero, Bool.true_and]
theorem fin2_zero (vs : List (Int × Int)) (l : List Co) : fin2 vs 0 l = if l.all (fun c => (dec vs c.y).2) then 0 else 20 := by simp [fin2]
theorem fin2_ne (vs : List (Int × Int)) {e : Int} (h : e ≠ 0) (l : List Co) : fin2 vs e l = e := by simp [fin2, h]
theorem fin2_step (vs : List (Int × Int)) {cs : List Co} {k : Nat} (hk : k < cs.length) : fin2 vs 0 (cs.drop k) = fin2 vs (if (dec vs cs[k].y).2 then 0 else 20) (cs.drop (k + 1)) := by
  rw [List.drop_eq_getElem_cons hk, fin2_zero, List.all_cons]
  rcases hc : (dec vs cs[k].y).2 with _ | _
  · rw [if_neg (by simp), fin2_ne vs (by decide), if_neg (by simp)]
  · rw [if_pos rfl, fin2_zero, Bool.true_and]
theorem checkE_part {vs : List (Int × Int)} {cs : List Co} (h : checkE vs cs = 0) (k : Nat) (hk : k < cs.length) : checkE vs [cs[k]] = 0 := by
  unfold checkE at h ⊢
  split at h
  · rename_i h1; exact absurd h h1
  · rename_i h1
    rw [if_neg h1]
    split at h
    · rename_i h2
      split at h
      · rename_i h3
        rw [if_pos (by simpa using List.all_eq_true.1 h2 _ (List.getElem_mem hk)), if_pos (by simpa using List.all_eq_true.1 h3 _ (List.getElem_mem hk))]
      · cases h
    · cases h
theorem refG_step (vs : List (Int × Int)) (dx : Int) (cs : List Co) (lo hi : Int) (ok : Bool) {k : Nat} (hk : k < cs.length) {a b : Int} {is : Bool} (h : intM vs cs[k] dx = (a, b, is)) :
    refG vs dx (lo, hi, ok) (cs.drop k) = refG vs dx (max lo a, min hi b, ok && is) (cs.drop (k + 1)) := by
  rw [List.drop_eq_getElem_cons hk, refG, h]
end Cs

set_option maxHeartbeats 8000000 in
theorem rCommon_any (A A2 : Option Addr) (c c2 : Nat) (vs : List (Int × Int)) (cs : List Cs.Co) (dx : Int) (w : World) (hR : Rd w w.heap.size 2 A vs.length (vcells vs)) (hl : vs.length ≤ 1000000)
    (hC : Rd w w.heap.size 6 A2 cs.length (ccells cs)) (hlc : cs.length ≤ 1000000) :
    Calls Tryz.prog 51 #[.slice A vs.length c, .slice A2 cs.length c2, .int .i64 dx] w fun e w' => e = .returned (.tuple #[.int .i64 (Cs.comF vs cs dx).1.1, .int .i64 (Cs.comF vs cs dx).1.2.1, .bool (Cs.comF vs cs dx).1.2.2, .int .i64 (Cs.comF vs cs dx).2]) ∧ Below w.heap.size w w' := by
  have hcv := rcheckVariations_any A c vs w hR hl
  by_cases h40 : 40 < cs.length
  · have hr : Cs.comF vs cs dx = ((0, 0, false), 2) := by rw [Cs.comF, if_pos h40]
    rw [hr]
    clear hr hcv hR hC
    go_enter Tryz.func51, Tryz.ntmps51
    go_wp2_with fail
    refine bodyPost_ret (results_tmp4 rfl _ _ _) rfl ?_
    exact ⟨rfl, Below.refl _ _⟩
  · by_cases h0 : cs.length = 0
    · have hr : Cs.comF vs cs dx = ((0, 0, false), 5) := by rw [Cs.comF, if_neg h40, if_pos h0]
      rw [hr]
      clear hr hcv hR hC
      have hn0 : ((cs.length : Int) == 0) = true := by simp [h0]
      go_enter Tryz.func51, Tryz.ntmps51
      go_wp2_with fail
      refine bodyPost_ret (results_tmp4 rfl _ _ _) rfl ?_
      exact ⟨rfl, Below.refl _ _⟩
    · have hn0 : ((cs.length : Int) == 0) = false := beq_eq_false_iff_ne.2 (by omega)
      obtain ⟨E, hE⟩ : ∃ E, Cs.checkE vs cs = E := ⟨_, rfl⟩
      have hfc := Cs.fin_check vs cs
      rw [hE] at hfc
      obtain ⟨F1, hF1⟩ : ∃ F, Cs.fin1 (Cs.varsE vs) cs = F := ⟨_, rfl⟩
      rw [hF1] at hfc
      obtain ⟨V, hV⟩ : ∃ V, Cs.varsE vs = V := ⟨_, rfl⟩
      rw [hV] at hF1 hcv
      obtain ⟨R, hRR⟩ : ∃ R, Cs.comF vs cs dx = R := ⟨_, rfl⟩
      rw [hRR]
      have hR1 : E ≠ 0 → R = ((0, 0, false), E) := fun h => by
        rw [← hRR, Cs.comF, if_neg h40, if_neg h0, if_pos (by rw [Cs.eastE, if_pos (by rw [hE]; exact h), hE]; exact h), Cs.eastE, if_pos (by rw [hE]; exact h), hE]
      have hR2 : E = 0 → (dx = 0 ∨ dx < -100000 ∨ 100000 < dx) → R = ((0, 0, false), 1) := fun h hd => by
        have e : Cs.eastE vs cs dx = 1 := by rw [Cs.eastE, if_neg (by rw [hE, h]; simp), if_pos hd]
        rw [← hRR, Cs.comF, if_neg h40, if_neg h0, if_pos (by rw [e]; decide), e]
      have hR3 : E = 0 → ¬ (dx = 0 ∨ dx < -100000 ∨ 100000 < dx) → R = (Cs.refC (Cs.refG vs dx (-100000, 100000, true) cs), 0) := fun h hd => by
        have e : Cs.eastE vs cs dx = 0 := by rw [Cs.eastE, if_neg (by rw [hE, h]; simp), if_neg hd]
        rw [← hRR, Cs.comF, if_neg h40, if_neg h0, if_neg (by rw [e]; simp), Cs.comG_refG vs dx cs _ _ (by decide)]
      have hcf : E = 0 → ∀ k (hk : k < cs.length), Cs.comF vs [cs[k]] dx = if (dx = 0 ∨ dx < -100000 ∨ 100000 < dx) then ((0, 0, false), 1) else (Cs.intM vs cs[k] dx, 0) := fun h k hk => by
        have h1 := Cs.checkE_part (hE.trans h) k hk
        by_cases hd : dx = 0 ∨ dx < -100000 ∨ 100000 < dx
        · have e : Cs.eastE vs [cs[k]] dx = 1 := by rw [Cs.eastE, if_neg (by rw [h1]; simp), if_pos hd]
          rw [if_pos hd, Cs.comF_err (by rw [e]; decide), e]
        · have e : Cs.eastE vs [cs[k]] dx = 0 := by rw [Cs.eastE, if_neg (by rw [h1]; simp), if_neg hd]
          rw [if_neg hd, Cs.comF_one e]
      have HCV := Lib.hid hcv
      have HRR := Lib.hid hR
      have HCC := Lib.hid hC
      have HR1 := Lib.hid hR1
      have HR2 := Lib.hid hR2
      have HR3 := Lib.hid hR3
      have HCF := Lib.hid hcf
      have HF1 := Lib.hid hF1
      have HFC := Lib.hid hfc
      have HCK := Lib.hid fun co w => rcheckCourse_any co w
      have HDE := Lib.hid fun y w h => rdeclination_any A c vs y w h hl
      have HIN := Lib.hid fun co w h => rInterval_any A c vs co dx w h hl
      clear hcv hR hC hR1 hR2 hR3 hcf hF1 hfc hE hV hRR
      go_enter Tryz.func51, Tryz.ntmps51
      go_wp2_with fail
      refine HCV.out.mono ?_
      rintro e w1 ⟨rfl, hb1⟩
      go_wp2_with fail
      go_loopw [10, 9] (fun I X wr => ∃ (k : Nat) (x : Int), k ≤ cs.length ∧ I = .int .i64 k ∧ X = .int .i64 x ∧ Cs.fin1 x (cs.drop k) = F1 ∧ Below w.heap.size w wr) (fun I _ _ => cs.length - (intOf I).toNat)
      case atStart => exact ⟨0, V, Nat.zero_le _, rfl, rfl, by rw [List.drop_zero]; exact HF1.out, hb1⟩
      case round =>
        clear hb1
        obtain ⟨k, x, hk, rfl, rfl, hF, hB⟩ := hrel
        by_cases hgo : k < cs.length ∧ x = 0
        · obtain ⟨hlt, rfl⟩ := hgo
          obtain ⟨bv, ov, rfl, hbv, e0, e1, e2, e3, e4, e5⟩ := (HCC.out.below hB (Nat.le_refl _)).course hlt
          have hst := Cs.fin1_step hlt
          rw [hF] at hst
          have hck := HCK.out cs[k]
          obtain ⟨co, hv⟩ : ∃ v, cs[k] = v := ⟨_, rfl⟩
          rw [hv] at e0 e1 e2 e3 e4 e5 hst hck
          rw [cval_def] at hck
          obtain ⟨q, hq⟩ : ∃ q, Cs.courseE co = q := ⟨_, rfl⟩
          rw [hq] at hst hck
          have HST := Lib.hid hst
          have HCK2 := Lib.hid hck
          have HB2 := Lib.hid hB
          clear hF hst hck hB hv hq
          go_wp2_with fail
          refine (HCK2.out _).mono ?_
          rintro e w2 ⟨rfl, hb2⟩
          go_wp2_with fail
          go_roundw
          case rel => exact ⟨k + 1, q, by omega, by go_num, rfl, HST.out.symm, HB2.out.trans (hb2.mono HB2.out.size)⟩
          case measure => simp [intOf]; omega
        · have hX : x = F1 := by
            by_cases hx : x = 0
            · subst hx
              have : k = cs.length := by omega
              subst this
              rw [← hF, List.drop_length, Cs.fin1_zero]; simp
            · rw [← hF, Cs.fin1_ne hx]
          have hkx : k = cs.length ∨ (k < cs.length ∧ x ≠ 0) := by omega
          have HX := Lib.hid hX
          have HB2 := Lib.hid hB
          clear hF hX hB
          rcases hkx with rfl | ⟨hlt, hx⟩
          all_goals
            try (have hx0 : (x == 0) = false := beq_eq_false_iff_ne.2 hx; clear hx)
            go_wp2_with fail
            go_loopw [11, 9] (fun I X wr => ∃ (k : Nat) (x : Int), k ≤ cs.length ∧ I = .int .i64 k ∧ X = .int .i64 x ∧ Cs.fin2 vs x (cs.drop k) = E ∧ Below w.heap.size w wr) (fun I _ _ => cs.length - (intOf I).toNat)
            case atStart => exact ⟨0, _, Nat.zero_le _, rfl, rfl, by rw [List.drop_zero, HX.out]; exact HFC.out, HB2.out⟩
            case round =>
              obtain ⟨k2, x2, hk2, rfl, rfl, hF, hB⟩ := hrel
              by_cases hgo2 : k2 < cs.length ∧ x2 = 0
              · obtain ⟨hlt2, rfl⟩ := hgo2
                obtain ⟨bv, ov, rfl, hbv, e0, e1, e2, e3, e4, e5⟩ := (HCC.out.below hB (Nat.le_refl _)).course hlt2
                have hst := Cs.fin2_step vs hlt2
                rw [hF] at hst
                have hde := HDE.out cs[k2].y wr ((HRR.out.below hB (Nat.le_refl _)).more hB.size)
                obtain ⟨co, hv⟩ : ∃ v, cs[k2] = v := ⟨_, rfl⟩
                rw [hv] at e0 e1 e2 e3 e4 e5 hst hde
                obtain ⟨⟨d, kn⟩, hd⟩ : ∃ q, Cs.dec vs co.y = q := ⟨_, rfl⟩
                rw [hd] at hst hde
                dsimp only at hst hde
                have HST := Lib.hid hst
                have HDE2 := Lib.hid hde
                have HB3 := Lib.hid hB
                clear hF hst hde hB hv hd
                rcases kn with _ | _
                all_goals
                  go_wp2_with fail
                  refine HDE2.out.mono ?_
                  rintro e w2 ⟨rfl, hb2⟩
                  go_wp2_with fail
                  go_roundw
                  case rel => exact ⟨k2 + 1, _, by omega, by go_num, rfl, HST.out.symm, HB3.out.trans (hb2.mono HB3.out.size)⟩
                  case measure => simp [intOf]; omega
              · have hX2 : x2 = E := by
                  by_cases hx : x2 = 0
                  · subst hx
                    have : k2 = cs.length := by omega
                    subst this
                    rw [← hF, List.drop_length, Cs.fin2_zero]; simp
                  · rw [← hF, Cs.fin2_ne vs hx]
                have hkx2 : k2 = cs.length ∨ (k2 < cs.length ∧ x2 ≠ 0) := by omega
                have HB3 := Lib.hid hB
                subst hX2
                clear hF hB hgo2
                rcases hkx2 with rfl | ⟨hlt2, hx2⟩
                all_goals
                  try (have hx20 : (x2 == 0) = false := beq_eq_false_iff_ne.2 hx2; clear hx2)
                  try clear hx2
                  by_cases hE0 : x2 = 0
                  · subst hE0
                    first
                      | (exfalso; simp at hx20; done)
                      | (have hR2 := HR2.out rfl
                         have hR3 := HR3.out rfl
                         have hCF := HCF.out rfl
                         by_cases hbad : dx = 0 ∨ dx < -100000 ∨ 100000 < dx
                         · have HRES := Lib.hid (hR2 hbad)
                           have HCF2 := Lib.hid (fun k hk => (hCF k hk).trans (if_pos hbad))
                           clear hR2 hR3 hCF hbad
                           go_wp2_with fail
                           go_loopw [14, 6, 7, 8] (fun I L H O wr => I = .int .i64 ((0 : Nat) : Int) ∧ L = .int .i64 (-100000) ∧ H = .int .i64 100000 ∧ O = .bool true ∧ Below w.heap.size w wr) (fun I _ _ _ _ => cs.length - (intOf I).toNat)
                           case atStart => exact ⟨rfl, rfl, rfl, rfl, HB3.out⟩
                           case round =>
                             obtain ⟨rfl, rfl, rfl, rfl, hB⟩ := hrel
                             have hlt : 0 < cs.length := by omega
                             obtain ⟨bv, ov, rfl, hbv, e0, e1, e2, e3, e4, e5⟩ := (HCC.out.below hB (Nat.le_refl _)).course hlt
                             have hin := HIN.out cs[0] wr ((HRR.out.below hB (Nat.le_refl _)).more hB.size)
                             rw [HCF2.out 0 hlt, cval_def] at hin
                             obtain ⟨co, hv⟩ : ∃ v, cs[0] = v := ⟨_, rfl⟩
                             rw [hv] at e0 e1 e2 e3 e4 e5 hin
                             dsimp only at hin
                             have HIN2 := Lib.hid hin
                             have HB4 := Lib.hid hB
                             simp only [Nat.zero_mul, Nat.add_zero] at e0 e1 e2 e3 e4 e5
                             clear hin hB hv
                             go_wp2_with fail
                             refine HIN2.out.mono ?_
                             rintro e w2 ⟨rfl, hb2⟩
                             go_wp2_with fail
                             refine bodyPost_ret (results_tmp4 rfl _ _ _) rfl ?_
                             have h := HRES.out
                             subst h
                             exact ⟨rfl, HB4.out.trans (hb2.mono HB4.out.size)⟩
                         · have HRES := Lib.hid (hR3 hbad)
                           have HCF2 := Lib.hid (fun k hk => (hCF k hk).trans (if_neg hbad))
                           clear hR2 hR3 hCF hbad
                           obtain ⟨RG, hRG⟩ : ∃ z, Cs.refG vs dx (-100000, 100000, true) cs = z := ⟨_, rfl⟩
                           have HRG := Lib.hid hRG
                           clear hRG
                           go_wp2_with fail
                           go_loopw [14, 6, 7, 8] (fun I L H O wr => ∃ (k : Nat) (lo hi : Int) (ok : Bool), k ≤ cs.length ∧ I = .int .i64 k ∧ L = .int .i64 lo ∧ H = .int .i64 hi ∧ O = .bool ok ∧ Cs.refG vs dx (lo, hi, ok) (cs.drop k) = RG ∧ Below w.heap.size w wr) (fun I _ _ _ _ => cs.length - (intOf I).toNat)
                           case atStart => exact ⟨0, -100000, 100000, true, Nat.zero_le _, rfl, rfl, rfl, rfl, HRG.out, HB3.out⟩
                           case round =>
                             obtain ⟨k3, lo, hi, ok, hk3, rfl, rfl, rfl, rfl, hG, hB⟩ := hrel
                             by_cases hlt : k3 < cs.length
                             · obtain ⟨bv, ov, rfl, hbv, e0, e1, e2, e3, e4, e5⟩ := (HCC.out.below hB (Nat.le_refl _)).course hlt
                               have hin := HIN.out cs[k3] wr ((HRR.out.below hB (Nat.le_refl _)).more hB.size)
                               rw [HCF2.out k3 hlt, cval_def] at hin
                               obtain ⟨⟨a, b, is⟩, hm⟩ : ∃ q, Cs.intM vs cs[k3] dx = q := ⟨_, rfl⟩
                               rw [Cs.refG_step vs dx cs lo hi ok hlt hm] at hG
                               rw [hm] at hin
                               obtain ⟨co, hv⟩ : ∃ v, cs[k3] = v := ⟨_, rfl⟩
                               rw [hv] at e0 e1 e2 e3 e4 e5 hin
                               dsimp only at hin
                               have HIN2 := Lib.hid hin
                               have HB4 := Lib.hid hB
                               have HG := Lib.hid hG
                               clear hin hB hv hm hG
                               rcases ok with _ | _
                               all_goals
                                 go_wp2_with fail
                                 refine HIN2.out.mono ?_
                                 rintro e w2 ⟨rfl, hb2⟩
                                 go_wp2_with fail
                                 go_roundw
                                 case rel => exact ⟨k3 + 1, max lo a, min hi b, _, by omega, by go_num, vint (by omega), vint (by omega), rfl, HG.out, HB4.out.trans (hb2.mono HB4.out.size)⟩
                                 case measure => simp [intOf]; omega
                             · obtain rfl : k3 = cs.length := by omega
                               rw [List.drop_length] at hG
                               have hG2 : RG = (lo, hi, ok) := hG.symm
                               have HB4 := Lib.hid hB
                               have HG := Lib.hid hG2
                               clear hB hG hG2
                               rcases ok with _ | _
                               · have HX := Lib.hid (show R = ((0, 0, false), 0) from by rw [HRES.out, HRG.out, HG.out, Cs.refC]; simp)
                                 go_wp2_with fail
                                 refine bodyPost_ret (results_tmp4 rfl _ _ _) rfl ?_
                                 have h := HX.out
                                 subst h
                                 exact ⟨rfl, HB4.out⟩
                               · by_cases hle : lo ≤ hi
                                 · have HX := Lib.hid (show R = ((lo, hi, true), 0) from by rw [HRES.out, HRG.out, HG.out, Cs.refC]; simp [hle])
                                   go_wp2_with fail
                                   refine bodyPost_ret (results_tmp4 rfl _ _ _) rfl ?_
                                   have h := HX.out
                                   subst h
                                   exact ⟨rfl, HB4.out⟩
                                 · have HX := Lib.hid (show R = ((0, 0, false), 0) from by rw [HRES.out, HRG.out, HG.out, Cs.refC]; simp [hle])
                                   go_wp2_with fail
                                   refine bodyPost_ret (results_tmp4 rfl _ _ _) rfl ?_
                                   have h := HX.out
                                   subst h
                                   exact ⟨rfl, HB4.out⟩)
                  · have hne : (x2 != 0) = true := by simp [hE0]
                    have HRES := Lib.hid (HR1.out hE0)
                    clear hE0
                    go_wp2_with fail
                    refine bodyPost_ret (results_tmp4 rfl _ _ _) rfl ?_
                    have h := HRES.out
                    subst h
                    exact ⟨rfl, HB3.out⟩

end Go.Proofs.YtncdeogpmodoaaaGreatDoor
