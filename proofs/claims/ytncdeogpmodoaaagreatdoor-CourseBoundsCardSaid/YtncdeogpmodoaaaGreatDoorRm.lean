/-
  The reference's squared, misfit.
-/
import Derived.Test.YtncdeogpmodoaaaGreatDoorRs
set_option linter.unusedVariables false
set_option linter.unusedSimpArgs false
namespace Go.Proofs.YtncdeogpmodoaaaGreatDoor
open Go.RowKit
set_option maxRecDepth 100000

theorem squared_any (dx dy : Int) (w : World) (hx : -100000 ≤ dx ∧ dx ≤ 100000) (hy : -100000 ≤ dy ∧ dy ≤ 100000) :
    Calls Tryz.prog 95 #[.int .i64 dx, .int .i64 dy] w fun e w' => e = .returned (.int .i64 (Cs.sq dx dy)) ∧ w = w' := by
  obtain ⟨x0, x1⟩ := Cs.sq_range (x := dx) (m := 100000) hx.1 hx.2
  obtain ⟨y0, y1⟩ := Cs.sq_range (x := dy) (m := 100000) hy.1 hy.2
  clear hx hy
  have hsq : Cs.sq dx dy = 100000000 * (dx * dx + dy * dy) := rfl
  rw [hsq]
  go_enter Tryz.func95, Tryz.ntmps95
  go_wp2_with fail
  go_ret
  exact ⟨rfl, rfl⟩

theorem vbool {a b : Bool} (h : a = b) : Value.bool a = .bool b := by rw [h]

set_option maxHeartbeats 8000000 in
theorem rmisfit_any (co : Cs.Co) (east dx dy : Int) (w : World) (hco : Cs.courseOk co = true) (he : -60 ≤ east ∧ east ≤ 60) (hx : -100000 ≤ dx ∧ dx ≤ 100000) (hy : -100000 ≤ dy ∧ dy ≤ 100000) :
    Calls Tryz.prog 84 #[cval co, .int .i64 east, .int .i64 dx, .int .i64 dy] w fun e w' =>
      e = .returned (.int .u8 (Cs.misA ⟨Cs.norm (co.b + east + 90) - 90 - co.n, Cs.norm (co.b + east + 90) - 90 + co.n, Cs.nearF co, Cs.farF co⟩ dx dy)) ∧ Below w.heap.size w w' := by
  obtain ⟨v1, v2, v3⟩ := Cs.len_range hco
  obtain ⟨_, ⟨n0, n1⟩, ⟨l0, l1⟩, _, ⟨a0, a1⟩, ⟨s0, s1⟩⟩ := (Cs.courseOk_iff co).1 hco
  have hse := fun w => rsector_any co east w hco he
  rw [Cs.misA_says, cval_def]
  rw [cval_def] at hse
  obtain ⟨L, hL⟩ : ∃ q, Cs.norm (co.b + east + 90) - 90 - co.n = q := ⟨_, rfl⟩
  obtain ⟨H, hH⟩ : ∃ q, Cs.norm (co.b + east + 90) - 90 + co.n = q := ⟨_, rfl⟩
  simp only [hL, hH] at hse ⊢
  have HSE := Lib.hid hse
  have hfa : Cs.farF co = co.l * (10000 + co.w + co.s) := rfl
  have hne : Cs.nearF co = co.l * (10000 + co.w - co.s) := rfl
  obtain ⟨fa, hfa2⟩ : ∃ q, Cs.farF co = q := ⟨_, rfl⟩
  obtain ⟨nr, hne2⟩ : ∃ q, Cs.nearF co = q := ⟨_, rfl⟩
  rw [hfa2] at hfa v2 v3 ⊢
  rw [hne2] at hne v1 v2 ⊢
  obtain ⟨f0, f1⟩ := Cs.sq_range (x := fa) (m := 1070000000) (by omega) (by omega)
  obtain ⟨r0, r1⟩ := Cs.sq_range (x := nr) (m := 1070000000) (by omega) (by omega)
  have wf : IntKind.i64.wrap (co.l * (10000 + co.w + co.s)) = fa := by rw [← hfa]; exact IntWalk.i64_in _ (by omega)
  have wn : IntKind.i64.wrap (co.l * (10000 + co.w - co.s)) = nr := by rw [← hne]; exact IntWalk.i64_in _ (by omega)
  obtain ⟨x0, x1⟩ := Cs.sq_range (x := dx) (m := 100000) hx.1 hx.2
  obtain ⟨y0, y1⟩ := Cs.sq_range (x := dy) (m := 100000) hy.1 hy.2
  have HSQ := Lib.hid fun w => squared_any dx dy w hx hy
  have hsq : Cs.sq dx dy = 100000000 * (dx * dx + dy * dy) := rfl
  have hq0 : 0 ≤ Cs.sq dx dy ∧ Cs.sq dx dy ≤ 2000000000000000000 := by rw [hsq]; omega
  have hsy : Cs.says ⟨L, H, nr, fa⟩ dx dy = [decide (0 < H) && decide (L < 180), decide (L ≤ 0) || decide (dy * Cs.sin L ≤ dx * Cs.cos L), decide (180 ≤ H) || decide (dx * Cs.cos H ≤ dy * Cs.sin H), decide (Cs.sq dx dy ≤ fa * fa),
    (decide (90 < H) && decide (L < 90)) || decide (nr * nr ≤ Cs.sq dx dy)] := rfl
  rw [hsy]
  obtain ⟨q, hq⟩ : ∃ q, Cs.sq dx dy = q := ⟨_, rfl⟩
  simp only [hq] at HSQ hq0 ⊢
  obtain ⟨q0, q1⟩ := hq0
  obtain ⟨c1, hc1⟩ : ∃ q, (decide (L ≤ 0) || decide (dy * Cs.sin L ≤ dx * Cs.cos L)) = q := ⟨_, rfl⟩
  obtain ⟨c2, hc2⟩ : ∃ q, (decide (180 ≤ H) || decide (dx * Cs.cos H ≤ dy * Cs.sin H)) = q := ⟨_, rfl⟩
  rw [hc1, hc2]
  obtain ⟨r, hr⟩ : ∃ r, Cs.firstNo [decide (0 < H) && decide (L < 180), c1, c2, decide (q ≤ fa * fa), (decide (90 < H) && decide (L < 90)) || decide (nr * nr ≤ q)] 0 = r := ⟨_, rfl⟩
  rw [hr]
  have HC1 := Lib.hid hc1
  have HC2 := Lib.hid hc2
  have HXY := Lib.hid (And.intro hx hy)
  have hB0 := (Below.refl w.heap.size w).alloc (Nat.le_refl _) (.cells #[.int .i64 co.b, .int .i64 co.n, .int .i64 co.l, .int .i64 co.y, .int .i64 co.w, .int .i64 co.s] 29)
  have HB0 := Lib.hid hB0
  have KC := Lib.hid (Bk.new w 29 #[.int .i64 co.b, .int .i64 co.n, .int .i64 co.l, .int .i64 co.y, .int .i64 co.w, .int .i64 co.s])
  clear hse hL hH hfa hne hfa2 hne2 hsq hsy hq hc1 hc2 hB0 hx hy he hco v1 v2 v3 x0 x1 y0 y1
  by_cases g0 : 0 < H ∧ L < 180
  · obtain ⟨g1, g2⟩ := g0
    rw [decide_eq_true g1, decide_eq_true g2] at hr
    have hr : Cs.firstNo [true, c1, c2, decide (q ≤ fa * fa), (decide (90 < H) && decide (L < 90)) || decide (nr * nr ≤ q)] 0 = r := hr
    have HR := Lib.hid hr
    clear hr
    go_enter Tryz.func84, Tryz.ntmps84
    go_wp2_with fail
    refine (HSE.out _).mono ?_
    rintro e w1 ⟨rfl, hb1⟩
    have k1 := KC.out.below hb1 (by simp)
    have HB1 := Lib.hid (HB0.out.trans (hb1.mono HB0.out.size))
    have p0 := (k1.cell 0).trans rfl
    have p1 := (k1.cell 1).trans rfl
    have p2 := (k1.cell 2).trans rfl
    have p3 := (k1.cell 3).trans rfl
    have p4 := (k1.cell 4).trans rfl
    have p5 := (k1.cell 5).trans rfl
    have lp := k1.lt
    clear hb1 k1
    go_upto_region 6 with fail
    go_cut [59] (fun s59 wx => s59 = .bool (!c1) ∧ Below w.heap.size w wx)
    case first =>
      clear p0 p1 p2 p3 p4 p5 lp
      obtain ⟨hx, hy⟩ := HXY.out
      by_cases g : 0 < L
      · have hc := HC1.out
        rw [decide_eq_false (by omega : ¬ L ≤ 0), Bool.false_or] at hc
        have HSI := Lib.hid fun w => rsin_any L w
        have HCO := Lib.hid fun w => rcos_any L w
        obtain ⟨m0, m1⟩ := mul_in hy (Cs.sin_range L)
        obtain ⟨m2, m3⟩ := mul_in hx (Cs.cos_range L)
        obtain ⟨si, hsi⟩ : ∃ q, Cs.sin L = q := ⟨_, rfl⟩
        obtain ⟨ci, hci⟩ : ∃ q, Cs.cos L = q := ⟨_, rfl⟩
        simp only [hsi, hci] at HSI HCO m0 m1 m2 m3 hc
        have w1 : IntKind.i64.wrap (dy * si) = dy * si := IntWalk.i64_in _ (by omega)
        have w2 : IntKind.i64.wrap (dx * ci) = dx * ci := IntWalk.i64_in _ (by omega)
        have HC := Lib.hid hc
        clear hsi hci hc hx hy
        go_wp2_with (first
          | (go_at_call 18; refine (HSI.out _).mono ?_; rintro e w8 ⟨rfl, hb8⟩)
          | (go_at_call 20; refine (HCO.out _).mono ?_; rintro e w9 ⟨rfl, hb9⟩))
        go_meet
        have hB8 := HB1.out.trans (hb8.mono HB1.out.size)
        exact ⟨vbool (by rw [← HC.out]; by_cases h : dy * si ≤ dx * ci <;> simp [h] <;> omega), hB8.trans (hb9.mono hB8.size)⟩
      · have hc := HC1.out
        rw [decide_eq_true (by omega : L ≤ 0), Bool.true_or] at hc
        have HC := Lib.hid hc
        clear hc hx hy
        go_wp2_with fail
        go_meet
        exact ⟨vbool (by rw [← HC.out]; rfl), HB1.out⟩
    case rest =>
      obtain ⟨rfl, hB2⟩ := hcut
      obtain ⟨W2, hW2⟩ : ∃ W, W = wc := ⟨_, rfl⟩
      subst hW2
      clear p0 p1 p2 p3 p4 p5 lp HC1
      have HB2 := Lib.hid hB2
      clear hB2 HB1
      rcases c1 with _ | _
      · go_wp2_with fail
        go_ret
        have h : 2 = r := HR.out
        subst h
        exact ⟨rfl, HB2.out⟩
      · go_upto_region 8 with fail
        go_cut [72] (fun s72 wx => s72 = .bool (!c2) ∧ Below w.heap.size w wx)
        case first =>
          obtain ⟨hx, hy⟩ := HXY.out
          by_cases g : H < 180
          · have hc := HC2.out
            rw [decide_eq_false (by omega : ¬ 180 ≤ H), Bool.false_or] at hc
            have HSI := Lib.hid fun w => rsin_any H w
            have HCO := Lib.hid fun w => rcos_any H w
            obtain ⟨m0, m1⟩ := mul_in hy (Cs.sin_range H)
            obtain ⟨m2, m3⟩ := mul_in hx (Cs.cos_range H)
            obtain ⟨si, hsi⟩ : ∃ q, Cs.sin H = q := ⟨_, rfl⟩
            obtain ⟨ci, hci⟩ : ∃ q, Cs.cos H = q := ⟨_, rfl⟩
            simp only [hsi, hci] at HSI HCO m0 m1 m2 m3 hc
            have w1 : IntKind.i64.wrap (dy * si) = dy * si := IntWalk.i64_in _ (by omega)
            have w2 : IntKind.i64.wrap (dx * ci) = dx * ci := IntWalk.i64_in _ (by omega)
            have HC := Lib.hid hc
            clear hsi hci hc hx hy
            go_wp2_with (first
              | (go_at_call 18; refine (HSI.out _).mono ?_; rintro e w8 ⟨rfl, hb8⟩)
              | (go_at_call 20; refine (HCO.out _).mono ?_; rintro e w9 ⟨rfl, hb9⟩))
            go_meet
            have hB8 := HB2.out.trans (hb8.mono HB2.out.size)
            exact ⟨vbool (by rw [← HC.out]; by_cases h : dx * ci ≤ dy * si <;> simp [h] <;> omega), hB8.trans (hb9.mono hB8.size)⟩
          · have hc := HC2.out
            rw [decide_eq_true (by omega : 180 ≤ H), Bool.true_or] at hc
            have HC := Lib.hid hc
            clear hc hx hy
            go_wp2_with fail
            go_meet
            exact ⟨vbool (by rw [← HC.out]; rfl), HB2.out⟩
        case rest =>
          obtain ⟨rfl, hB3⟩ := hcut
          obtain ⟨W3, hW3⟩ : ∃ W, W = wc := ⟨_, rfl⟩
          subst hW3
          have HB3 := Lib.hid hB3
          clear hB3 HB2 HC2
          rcases c2 with _ | _
          · go_wp2_with fail
            go_ret
            have h : 3 = r := HR.out
            subst h
            exact ⟨rfl, HB3.out⟩
          · by_cases g3 : q ≤ fa * fa
            · have hr := HR.out
              rw [decide_eq_true g3] at hr
              by_cases g4 : (90 < H ∧ L < 90) ∨ nr * nr ≤ q
              · have HX := Lib.hid (show 0 = r by rw [← hr, show ((decide (90 < H) && decide (L < 90)) || decide (nr * nr ≤ q)) = true by simpa using g4]; rfl)
                clear hr HR
                have g5 : (90 < H ∧ L < 90) ∨ (H ≤ 90 ∧ nr * nr ≤ q) ∨ (90 < H ∧ 90 ≤ L ∧ nr * nr ≤ q) := by omega
                clear g4
                rcases g5 with ⟨g5, g6⟩ | ⟨g5, g6⟩ | ⟨g5, g6, g7⟩
                all_goals
                  go_wp2_with (go_at_call 95; refine (HSQ.out _).mono ?_; rintro e w' ⟨rfl, rfl⟩)
                  go_ret
                  have h := HX.out
                  subst h
                  exact ⟨rfl, HB3.out⟩
              · have HX := Lib.hid (show 5 = r by rw [← hr, show ((decide (90 < H) && decide (L < 90)) || decide (nr * nr ≤ q)) = false by rw [Bool.or_eq_false_iff, Bool.and_eq_false_iff, decide_eq_false_iff_not, decide_eq_false_iff_not, decide_eq_false_iff_not]; omega]; rfl)
                clear hr HR
                have g5 : (H ≤ 90 ∧ q < nr * nr) ∨ (90 < H ∧ 90 ≤ L ∧ q < nr * nr) := by omega
                clear g4
                rcases g5 with ⟨g5, g6⟩ | ⟨g5, g6, g7⟩
                all_goals
                  go_wp2_with (go_at_call 95; refine (HSQ.out _).mono ?_; rintro e w' ⟨rfl, rfl⟩)
                  go_ret
                  have h := HX.out
                  subst h
                  exact ⟨rfl, HB3.out⟩
            · have hr := HR.out
              rw [decide_eq_false g3] at hr
              have HX := Lib.hid (show 4 = r from hr)
              clear hr HR
              go_wp2_with (go_at_call 95; refine (HSQ.out _).mono ?_; rintro e w' ⟨rfl, rfl⟩)
              go_ret
              have h := HX.out
              subst h
              exact ⟨rfl, HB3.out⟩
  · have hX : 1 = r := by
      rw [← hr, show (decide (0 < H) && decide (L < 180)) = false by rw [Bool.and_eq_false_iff, decide_eq_false_iff_not, decide_eq_false_iff_not]; omega]
      rfl
    have HX := Lib.hid hX
    have g5 : H ≤ 0 ∨ (0 < H ∧ 180 ≤ L) := by omega
    clear hX hr g0
    rcases g5 with g5 | ⟨g5, g6⟩
    all_goals
      go_enter Tryz.func84, Tryz.ntmps84
      go_wp2_with fail
      refine (HSE.out _).mono ?_
      rintro e w1 ⟨rfl, hb1⟩
      have k1 := KC.out.below hb1 (by simp)
      have HB1 := Lib.hid (HB0.out.trans (hb1.mono HB0.out.size))
      have p0 := (k1.cell 0).trans rfl
      have p1 := (k1.cell 1).trans rfl
      have p2 := (k1.cell 2).trans rfl
      have p3 := (k1.cell 3).trans rfl
      have p4 := (k1.cell 4).trans rfl
      have p5 := (k1.cell 5).trans rfl
      have lp := k1.lt
      clear hb1 k1
      go_wp2_with fail
      go_ret
      have h := HX.out
      subst h
      exact ⟨rfl, HB1.out⟩

end Go.Proofs.YtncdeogpmodoaaaGreatDoor
