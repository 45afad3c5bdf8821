/-
  check of course: the variations, then all courses, then their years.
-/
import Derived.Test.YtncdeogpmodoaaaGreatDoorDec
set_option linter.unusedVariables false
set_option linter.unusedSimpArgs false
namespace Go.Proofs.YtncdeogpmodoaaaGreatDoor
open Go.RowKit
set_option maxRecDepth 100000

namespace Cs
theorem courseE_of {c : Co} (h : courseOk c = true) : courseE c = 0 := by unfold courseE; rw [if_pos h]
theorem courseE_not {c : Co} (h : courseOk c = false) : courseE c = 1 := by unfold courseE; rw [if_neg (by rw [h]; simp)]
theorem checkE_vars {vs : List (Int × Int)} {cs : List Co} (h : varsE vs ≠ 0) : checkE vs cs = varsE vs := by rw [checkE, if_pos h]
theorem checkE_course {vs : List (Int × Int)} {cs : List Co} (h : varsE vs = 0) {k : Nat} (hk : k < cs.length) (hc : courseOk cs[k] = false) : checkE vs cs = 1 := by
  have : cs.all courseOk = false := List.all_eq_false.2 ⟨_, List.getElem_mem hk, by rw [hc]; simp⟩
  rw [checkE, if_neg (by rw [h]; simp), this]
  simp
theorem checkE_year {vs : List (Int × Int)} {cs : List Co} (h : varsE vs = 0) (ha : ∀ j (hj : j < cs.length), courseOk cs[j] = true) {k : Nat} (hk : k < cs.length) (hc : (dec vs cs[k].y).2 = false) : checkE vs cs = 20 := by
  have h1 : cs.all courseOk = true := by
    rw [List.all_eq_true]
    intro c hm
    obtain ⟨j, hj, rfl⟩ := List.mem_iff_getElem.1 hm
    exact ha j hj
  have h2 : cs.all (fun c => (dec vs c.y).2) = false := List.all_eq_false.2 ⟨_, List.getElem_mem hk, by rw [hc]; simp⟩
  rw [checkE, if_neg (by rw [h]; simp), if_pos h1, if_neg (by rw [h2]; simp)]
theorem checkE_ok {vs : List (Int × Int)} {cs : List Co} (h : varsE vs = 0) (ha : ∀ j (hj : j < cs.length), courseOk cs[j] = true) (hb : ∀ j (hj : j < cs.length), (dec vs cs[j].y).2 = true) : checkE vs cs = 0 := by
  have h1 : cs.all courseOk = true := by
    rw [List.all_eq_true]
    intro c hm
    obtain ⟨j, hj, rfl⟩ := List.mem_iff_getElem.1 hm
    exact ha j hj
  have h2 : cs.all (fun c => (dec vs c.y).2) = true := by
    rw [List.all_eq_true]
    intro c hm
    obtain ⟨j, hj, rfl⟩ := List.mem_iff_getElem.1 hm
    exact hb j hj
  rw [checkE, if_neg (by rw [h]; simp), if_pos h1, if_pos h2]
end Cs

set_option maxHeartbeats 4000000 in
theorem check_any (A A2 : Option Addr) (c c2 : Nat) (vs : List (Int × Int)) (cs : List Cs.Co) (w : World) (hR : Rd w w.heap.size 2 A vs.length (vcells vs)) (hl : vs.length ≤ 1000000)
    (hC : Rd w w.heap.size 6 A2 cs.length (ccells cs)) (hlc : cs.length ≤ 1000000) :
    Calls Tryz.prog 65 #[.slice A vs.length c, .slice A2 cs.length c2] w fun e w' => e = .returned (.int .i64 (Cs.checkE vs cs)) ∧ Below w.heap.size w w' := by
  have hcv := checkVariations_any A c vs w hR hl
  by_cases hs : Cs.varsE vs = 0
  · rw [hs] at hcv
    obtain ⟨r, hr⟩ : ∃ r, Cs.checkE vs cs = r := ⟨_, rfl⟩
    rw [hr]
    have h1 : ∀ k (hk : k < cs.length), Cs.courseOk cs[k] = false → 1 = r := fun k hk hc => by rw [← hr, Cs.checkE_course hs hk hc]
    have h2 : (∀ j (hj : j < cs.length), Cs.courseOk cs[j] = true) → ∀ k (hk : k < cs.length), (Cs.dec vs cs[k].y).2 = false → 20 = r := fun ha k hk hc => by rw [← hr, Cs.checkE_year hs ha hk hc]
    have h3 : (∀ j (hj : j < cs.length), Cs.courseOk cs[j] = true) → (∀ j (hj : j < cs.length), (Cs.dec vs cs[j].y).2 = true) → 0 = r := fun ha hb => by rw [← hr, Cs.checkE_ok hs ha hb]
    have H1 := Lib.hid h1
    have H2 := Lib.hid h2
    have H3 := Lib.hid h3
    have HCV := Lib.hid hcv
    have HCC := Lib.hid fun co w => checkCourse_any co w
    have HDE := Lib.hid fun y w h => declination_any A c vs y w h hl
    have HRR := Lib.hid hR
    clear h1 h2 h3 hcv hr hs hR
    go_enter Tryz.func65, Tryz.ntmps65
    go_wp2_with fail
    refine HCV.out.mono ?_
    rintro e w1 ⟨rfl, hb1⟩
    go_wp2_with fail
    go_loopw [20] (fun I wr => ∃ k : Nat, k ≤ cs.length ∧ I = .int .i64 k ∧ (∀ j (hj : j < cs.length), j < k → Cs.courseOk cs[j] = true) ∧ Below w.heap.size w wr) (fun I _ => cs.length - (intOf I).toNat)
    case atStart => exact ⟨0, Nat.zero_le _, rfl, fun j hj h => absurd h (by omega), hb1⟩
    case round =>
      clear hb1 HCV
      obtain ⟨k, hk, rfl, hF, hB⟩ := hrel
      by_cases hlt : k < cs.length
      · obtain ⟨bv, ov, rfl, hbv, e0, e1, e2, e3, e4, e5⟩ := (hC.below hB (Nat.le_refl _)).course hlt
        obtain ⟨co, hv⟩ : ∃ v, cs[k] = v := ⟨_, rfl⟩
        rw [hv] at e0 e1 e2 e3 e4 e5
        have hcc := HCC.out co
        have htv : cval co = .agg #[.int .i64 co.b, .int .i64 co.n, .int .i64 co.l, .int .i64 co.y, .int .i64 co.w, .int .i64 co.s] := rfl
        rw [htv] at hcc
        have hB2 := hB.alloc hB.size (.cells #[.int .i64 co.b, .int .i64 co.n, .int .i64 co.l, .int .i64 co.y, .int .i64 co.w, .int .i64 co.s] 29)
        have h1k := H1.out k hlt
        rw [hv] at h1k
        rcases hok : Cs.courseOk co with _ | _
        · have h1 := h1k hok
          rw [Cs.courseE_not hok] at hcc
          have HB2 := Lib.hid hB2
          have HCK := Lib.hid hcc
          have HX := Lib.hid h1
          clear hv hB hB2 hcc htv hF h1k h1 hok
          go_wp2_with fail
          refine (HCK.out _).mono ?_
          rintro e w2 ⟨rfl, hb2⟩
          go_wp2_with fail
          go_ret
          have h := HX.out
          subst h
          exact ⟨rfl, HB2.out.trans (hb2.mono HB2.out.size)⟩
        · rw [Cs.courseE_of hok] at hcc
          have HB2 := Lib.hid hB2
          have HCK := Lib.hid hcc
          have hF2 : ∀ j (hj : j < cs.length), j < k + 1 → Cs.courseOk cs[j] = true := fun j hj h => by
            by_cases hjk : j = k
            · subst hjk; rw [hv]; exact hok
            · exact hF j hj (by omega)
          have HF2 := Lib.hid hF2
          clear hv hB hB2 hcc htv hF h1k hok hF2
          go_wp2_with fail
          refine (HCK.out _).mono ?_
          rintro e w2 ⟨rfl, hb2⟩
          go_wp2_with fail
          go_roundw
          case rel => exact ⟨k + 1, by omega, by go_num, HF2.out, HB2.out.trans (hb2.mono HB2.out.size)⟩
          case measure => simp [intOf]; omega
      · obtain rfl : k = cs.length := by omega
        have HF := Lib.hid (show ∀ j (hj : j < cs.length), Cs.courseOk cs[j] = true from fun j hj => hF j hj hj)
        have HBB := Lib.hid hB
        clear hF hB hlt hk
        go_wp2_with fail
        go_loopw [32] (fun I wr => ∃ k : Nat, k ≤ cs.length ∧ I = .int .i64 k ∧ (∀ j (hj : j < cs.length), j < k → (Cs.dec vs cs[j].y).2 = true) ∧ Below w.heap.size w wr) (fun I _ => cs.length - (intOf I).toNat)
        case atStart => exact ⟨0, Nat.zero_le _, rfl, fun j hj h => absurd h (by omega), HBB.out⟩
        case round =>
          obtain ⟨k, hk, rfl, hF2, hB⟩ := hrel
          by_cases hlt : k < cs.length
          · obtain ⟨bv, ov, rfl, hbv, e0, e1, e2, e3, e4, e5⟩ := (hC.below hB (Nat.le_refl _)).course hlt
            have hd : ∀ q : Bool, (Cs.dec vs cs[k].y).2 = q → ∃ x, Cs.dec vs cs[k].y = (x, q) := fun q h => ⟨_, Prod.ext rfl h⟩
            have h2k := H2.out HF.out k hlt
            have hn : ((Cs.dec vs cs[k].y).2 = true) → ∀ j (hj : j < cs.length), j < k + 1 → (Cs.dec vs cs[j].y).2 = true := fun h j hj hlt => by
              by_cases hjk : j = k
              · subst hjk; exact h
              · exact hF2 j hj (by omega)
            have hde := HDE.out cs[k].y
            obtain ⟨co, hv⟩ : ∃ v, cs[k] = v := ⟨_, rfl⟩
            rw [hv] at e0 e1 e2 e3 e4 e5 hd h2k hn hde
            have hB2 := hB.alloc hB.size (.cells #[.int .i64 co.b, .int .i64 co.n, .int .i64 co.l, .int .i64 co.y, .int .i64 co.w, .int .i64 co.s] 29)
            have hR2 := (HRR.out.below hB2 (Nat.le_refl _)).more hB2.size
            rcases hok : (Cs.dec vs co.y).2 with _ | _
            · obtain ⟨x, hx⟩ := hd _ hok
              rw [hx] at hde
              have HDK := Lib.hid (hde _ hR2)
              have HX := Lib.hid (h2k hok)
              have HB2 := Lib.hid hB2
              clear hv hB hB2 hde hd h2k hn hok hx hF2 hR2
              go_wp2_with fail
              refine HDK.out.mono ?_
              rintro e w2 ⟨rfl, hb2⟩
              go_wp2_with fail
              go_ret
              have h := HX.out
              subst h
              exact ⟨rfl, HB2.out.trans (hb2.mono HB2.out.size)⟩
            · obtain ⟨x, hx⟩ := hd _ hok
              rw [hx] at hde
              have HDK := Lib.hid (hde _ hR2)
              have HN := Lib.hid (hn hok)
              have HB2 := Lib.hid hB2
              clear hv hB hB2 hde hd h2k hn hok hx hF2 hR2
              go_wp2_with fail
              refine HDK.out.mono ?_
              rintro e w2 ⟨rfl, hb2⟩
              go_wp2_with fail
              go_roundw
              case rel => exact ⟨k + 1, by omega, by go_num, HN.out, HB2.out.trans (hb2.mono HB2.out.size)⟩
              case measure => simp [intOf]; omega
          · obtain rfl : k = cs.length := by omega
            have HX := Lib.hid (H3.out HF.out fun j hj => hF2 j hj hj)
            have HB3 := Lib.hid hB
            clear hF2 hB hlt hk
            go_wp2_with fail
            go_ret
            have h := HX.out
            subst h
            exact ⟨rfl, HB3.out⟩
  · rw [Cs.checkE_vars hs]
    have hne : (Cs.varsE vs != 0) = true := by simp [hs]
    obtain ⟨s, hss⟩ : ∃ s, Cs.varsE vs = s := ⟨_, rfl⟩
    rw [hss] at hcv hne ⊢
    have HCV := Lib.hid hcv
    clear hcv hs hss hR hC
    go_enter Tryz.func65, Tryz.ntmps65
    go_wp2_with fail
    refine HCV.out.mono ?_
    rintro e w1 ⟨rfl, hb1⟩
    go_wp2_with fail
    go_ret
    exact ⟨rfl, hb1⟩

end Go.Proofs.YtncdeogpmodoaaaGreatDoor
