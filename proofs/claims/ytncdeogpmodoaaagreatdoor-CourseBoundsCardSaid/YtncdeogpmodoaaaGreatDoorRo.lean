/-
  The reference's either, opened, Misfit.
-/
import Derived.Test.YtncdeogpmodoaaaGreatDoorRm
set_option linter.unusedVariables false
set_option linter.unusedSimpArgs false
namespace Go.Proofs.YtncdeogpmodoaaaGreatDoor
open Go.RowKit
set_option maxRecDepth 100000

set_option maxHeartbeats 2000000 in
theorem either_any (vs : List (Int × Int)) (co : Cs.Co) (dx dy : Int) (w : World) (hco : Cs.courseOk co = true) (hx : -100000 ≤ dx ∧ dx ≤ 100000) (hy : -100000 ≤ dy ∧ dy ≤ 100000) :
    Calls Tryz.prog 71 #[cval co, .int .i64 (Cs.dec vs co.y).1, .int .i64 dx, .int .i64 dy] w fun e w' => e = .returned (.int .u8 (Cs.misF vs co dx dy)) ∧ Below w.heap.size w w' := by
  have hdr := Cs.dec_range vs co.y
  obtain ⟨⟨b0, b1⟩, _⟩ := (Cs.courseOk_iff co).1 hco
  by_cases hd : dx < 0
  · have hm := fun w => rmisfit_any (Cs.turn co) (Cs.dec vs co.y).1 (-dx) (-dy) w (Cs.turn_ok hco) hdr (by omega) (by omega)
    have hr : Cs.misF vs co dx dy = Cs.misA ⟨Cs.norm ((Cs.turn co).b + (Cs.dec vs co.y).1 + 90) - 90 - (Cs.turn co).n, Cs.norm ((Cs.turn co).b + (Cs.dec vs co.y).1 + 90) - 90 + (Cs.turn co).n, Cs.nearF (Cs.turn co), Cs.farF (Cs.turn co)⟩ (-dx) (-dy) := by
      rw [Cs.misF, if_pos hd, Cs.aimEast, if_pos hd]
      rfl
    rw [hr]
    obtain ⟨r, hrr⟩ : ∃ q, Cs.misA ⟨Cs.norm ((Cs.turn co).b + (Cs.dec vs co.y).1 + 90) - 90 - (Cs.turn co).n, Cs.norm ((Cs.turn co).b + (Cs.dec vs co.y).1 + 90) - 90 + (Cs.turn co).n, Cs.nearF (Cs.turn co), Cs.farF (Cs.turn co)⟩ (-dx) (-dy) = q := ⟨_, rfl⟩
    rw [hrr] at hm ⊢
    have htv : cval (Cs.turn co) = .agg #[.int .i64 (Cs.norm (co.b + 180)), .int .i64 co.n, .int .i64 co.l, .int .i64 co.y, .int .i64 co.w, .int .i64 co.s] := rfl
    rw [htv] at hm
    rw [cval_def]
    have hnm := fun w => rnorm_any (co.b + 180) w
    obtain ⟨nb, hnb⟩ : ∃ q, Cs.norm (co.b + 180) = q := ⟨_, rfl⟩
    rw [hnb] at hm hnm
    obtain ⟨e, he⟩ : ∃ q, (Cs.dec vs co.y).1 = q := ⟨_, rfl⟩
    rw [he] at hm ⊢
    have HM := Lib.hid hm
    have HNM := Lib.hid hnm
    have HB0 := Lib.hid ((Below.refl w.heap.size w).alloc (Nat.le_refl _) (.cells #[.int .i64 nb, .int .i64 co.n, .int .i64 co.l, .int .i64 co.y, .int .i64 co.w, .int .i64 co.s] 29))
    clear hm hr hrr htv hnm hnb he hdr hco
    go_enter Tryz.func71, Tryz.ntmps71
    go_wp2_with (go_at_call 16; refine (HNM.out _).mono ?_; rintro e w' ⟨rfl, rfl⟩)
    refine (HM.out _).mono ?_
    rintro e w2 ⟨rfl, hb2⟩
    have HB2 := Lib.hid (HB0.out.trans (hb2.mono HB0.out.size))
    clear hb2
    go_wp2_with fail
    go_ret
    exact ⟨rfl, HB2.out⟩
  · have hm := fun w => rmisfit_any co (Cs.dec vs co.y).1 dx dy w hco hdr hx hy
    have hr : Cs.misF vs co dx dy = Cs.misA ⟨Cs.norm (co.b + (Cs.dec vs co.y).1 + 90) - 90 - co.n, Cs.norm (co.b + (Cs.dec vs co.y).1 + 90) - 90 + co.n, Cs.nearF co, Cs.farF co⟩ dx dy := by
      rw [Cs.misF, if_neg hd, Cs.aimEast, if_neg hd]
      rfl
    rw [hr]
    obtain ⟨r, hrr⟩ : ∃ q, Cs.misA ⟨Cs.norm (co.b + (Cs.dec vs co.y).1 + 90) - 90 - co.n, Cs.norm (co.b + (Cs.dec vs co.y).1 + 90) - 90 + co.n, Cs.nearF co, Cs.farF co⟩ dx dy = q := ⟨_, rfl⟩
    rw [hrr] at hm ⊢
    rw [cval_def] at hm ⊢
    obtain ⟨e, he⟩ : ∃ q, (Cs.dec vs co.y).1 = q := ⟨_, rfl⟩
    rw [he] at hm ⊢
    have HM := Lib.hid hm
    have HB0 := Lib.hid ((Below.refl w.heap.size w).alloc (Nat.le_refl _) (.cells #[.int .i64 co.b, .int .i64 co.n, .int .i64 co.l, .int .i64 co.y, .int .i64 co.w, .int .i64 co.s] 29))
    clear hm hr hrr he hdr hco
    go_enter Tryz.func71, Tryz.ntmps71
    go_wp2_with fail
    refine (HM.out _).mono ?_
    rintro e w2 ⟨rfl, hb2⟩
    have HB2 := Lib.hid (HB0.out.trans (hb2.mono HB0.out.size))
    clear hb2
    go_wp2_with fail
    go_ret
    exact ⟨rfl, HB2.out⟩

namespace Cs
theorem stepE_check {vs : List (Int × Int)} {co : Co} {dx dy : Int} (h : checkE vs [co] ≠ 0) : stepE vs co dx dy = checkE vs [co] := by
  have he : eastE vs [co] dx = checkE vs [co] := by rw [eastE, if_pos h]
  rw [stepE, he, if_pos h]
theorem stepE_arg {vs : List (Int × Int)} {co : Co} {dx dy : Int} (h : checkE vs [co] = 0) (hd : dx = 0 ∨ dx < -100000 ∨ 100000 < dx ∨ dy < -100000 ∨ 100000 < dy) : stepE vs co dx dy = 1 := by
  by_cases h1 : dx = 0 ∨ dx < -100000 ∨ 100000 < dx
  · have he : eastE vs [co] dx = 1 := by rw [eastE, if_neg (by rw [h]; simp), if_pos h1]
    rw [stepE, he, if_pos (by simp)]
  · have he : eastE vs [co] dx = 0 := by rw [eastE, if_neg (by rw [h]; simp), if_neg h1]
    rw [stepE, he, if_neg (by simp), if_pos (by omega)]
theorem stepE_ok {vs : List (Int × Int)} {co : Co} {dx dy : Int} (h : checkE vs [co] = 0) (hd : ¬ (dx = 0 ∨ dx < -100000 ∨ 100000 < dx ∨ dy < -100000 ∨ 100000 < dy)) : stepE vs co dx dy = 0 := by
  have he : eastE vs [co] dx = 0 := by rw [eastE, if_neg (by rw [h]; simp), if_neg (by omega)]
  rw [stepE, he, if_neg (by simp), if_neg (by omega)]
end Cs

set_option maxHeartbeats 4000000 in
theorem opened_any (A : Option Addr) (c : Nat) (vs : List (Int × Int)) (co : Cs.Co) (dx dy : Int) (w : World) (hR : Rd w w.heap.size 2 A vs.length (vcells vs)) (hl : vs.length ≤ 1000000) :
    Calls Tryz.prog 70 #[.slice A vs.length c, cval co, .int .i64 dx, .int .i64 dy] w fun e w' => e = .returned (.tuple #[.int .i64 (if Cs.stepE vs co dx dy = 0 then (Cs.dec vs co.y).1 else 0), .int .i64 (Cs.stepE vs co dx dy)]) ∧ Below w.heap.size w w' := by
  have hse := fun w h => rSector_any A c vs co w h hl
  have hde := fun w h => rdeclination_any A c vs co.y w h hl
  have hB0 := (Below.refl w.heap.size w).alloc (Nat.le_refl _) (.cells #[.int .i64 co.b, .int .i64 co.n, .int .i64 co.l, .int .i64 co.y, .int .i64 co.w, .int .i64 co.s] 29)
  have HRD := Lib.hid ((hR.below hB0 (Nat.le_refl _)).more hB0.size)
  have HRR := Lib.hid hR
  have HB0 := Lib.hid hB0
  have KC := Lib.hid (Bk.new w 29 #[.int .i64 co.b, .int .i64 co.n, .int .i64 co.l, .int .i64 co.y, .int .i64 co.w, .int .i64 co.s])
  rw [cval_def] at hse ⊢
  clear hB0 hR
  by_cases hs : Cs.checkE vs [co] = 0
  · have hsf : (Cs.sectorF vs co).2.2 = 0 := by rw [Cs.sectorF, if_neg (by rw [hs]; simp)]
    obtain ⟨⟨sl, sh, se⟩, hsf2⟩ : ∃ q, Cs.sectorF vs co = q := ⟨_, rfl⟩
    rw [hsf2] at hse hsf
    dsimp only at hse hsf
    subst hsf
    have HSE := Lib.hid hse
    by_cases ha : dx = 0 ∨ dx < -100000 ∨ 100000 < dx ∨ dy < -100000 ∨ 100000 < dy
    · rw [Cs.stepE_arg hs ha, if_neg (by simp)]
      have hcase : dx = 0 ∨ (dx ≠ 0 ∧ dx < -100000) ∨ (dx ≠ 0 ∧ -100000 ≤ dx ∧ 100000 < dx) ∨ (dx ≠ 0 ∧ -100000 ≤ dx ∧ dx ≤ 100000 ∧ dy < -100000) ∨ (dx ≠ 0 ∧ -100000 ≤ dx ∧ dx ≤ 100000 ∧ -100000 ≤ dy ∧ 100000 < dy) := by omega
      clear hse hde hs hsf2 ha
      rcases hcase with h0 | ⟨h0, h1⟩ | ⟨h0, h1, h2⟩ | ⟨h0, h1, h2, h3⟩ | ⟨h0, h1, h2, h3, h4⟩
      all_goals
        (first | (have hz : (dx == 0) = true := beq_iff_eq.2 h0) | (have hz : (dx == 0) = false := beq_eq_false_iff_ne.2 h0))
        go_enter Tryz.func70, Tryz.ntmps70
        go_wp2_with fail
        refine (HSE.out _ HRD.out).mono ?_
        rintro e w1 ⟨rfl, hb1⟩
        have HB1 := Lib.hid (HB0.out.trans (hb1.mono HB0.out.size))
        clear hb1
        go_wp2_with fail
        go_ret2
        exact ⟨rfl, HB1.out⟩
    · rw [Cs.stepE_ok hs ha, if_pos rfl]
      obtain ⟨⟨x, kn⟩, hx⟩ : ∃ q, Cs.dec vs co.y = q := ⟨_, rfl⟩
      rw [hx] at hde ⊢
      dsimp only at hde ⊢
      have HDE := Lib.hid hde
      have hz : (dx == 0) = false := beq_eq_false_iff_ne.2 (by omega)
      have h1 : -100000 ≤ dx := by omega
      have h2 : dx ≤ 100000 := by omega
      have h3 : -100000 ≤ dy := by omega
      have h4 : dy ≤ 100000 := by omega
      clear hse hde hs hsf2 ha hx
      go_enter Tryz.func70, Tryz.ntmps70
      go_wp2_with fail
      refine (HSE.out _ HRD.out).mono ?_
      rintro e w1 ⟨rfl, hb1⟩
      have hB1 := HB0.out.trans (hb1.mono HB0.out.size)
      have HR1 := Lib.hid ((HRR.out.below hB1 (Nat.le_refl _)).more hB1.size)
      have k1 := KC.out.below hb1 (by simp)
      have HB1 := Lib.hid hB1
      have p0 := (k1.cell 0).trans rfl
      have p1 := (k1.cell 1).trans rfl
      have p2 := (k1.cell 2).trans rfl
      have p3 := (k1.cell 3).trans rfl
      have p4 := (k1.cell 4).trans rfl
      have p5 := (k1.cell 5).trans rfl
      have lp := k1.lt
      clear hb1 k1 hB1
      go_wp2_with fail
      refine (HDE.out _ HR1.out).mono ?_
      rintro e w2 ⟨rfl, hb2⟩
      have HB2 := Lib.hid (HB1.out.trans (hb2.mono HB1.out.size))
      clear hb2
      go_wp2_with fail
      go_ret2
      exact ⟨rfl, HB2.out⟩
  · have hsf : Cs.sectorF vs co = (0, 0, Cs.checkE vs [co]) := by rw [Cs.sectorF, if_pos hs]
    rw [Cs.stepE_check hs, if_neg hs]
    rw [hsf] at hse
    dsimp only at hse
    have hne : (Cs.checkE vs [co] != 0) = true := by simp [hs]
    obtain ⟨s, hss⟩ : ∃ s, Cs.checkE vs [co] = s := ⟨_, rfl⟩
    rw [hss] at hse hne ⊢
    have HSE := Lib.hid hse
    clear hse hde hs hsf hss
    go_enter Tryz.func70, Tryz.ntmps70
    go_wp2_with fail
    refine (HSE.out _ HRD.out).mono ?_
    rintro e w1 ⟨rfl, hb1⟩
    have HB1 := Lib.hid (HB0.out.trans (hb1.mono HB0.out.size))
    clear hb1
    go_wp2_with fail
    go_ret2
    exact ⟨rfl, HB1.out⟩

set_option maxHeartbeats 2000000 in
theorem rMisfit_any (A : Option Addr) (c : Nat) (vs : List (Int × Int)) (co : Cs.Co) (dx dy : Int) (w : World) (hR : Rd w w.heap.size 2 A vs.length (vcells vs)) (hl : vs.length ≤ 1000000) :
    Calls Tryz.prog 40 #[.slice A vs.length c, cval co, .int .i64 dx, .int .i64 dy] w fun e w' => e = .returned (.tuple #[.int .u8 (Cs.misfitF vs co dx dy).1, .int .i64 (Cs.misfitF vs co dx dy).2]) ∧ Below w.heap.size w w' := by
  have hop := fun w h => opened_any A c vs co dx dy w h hl
  have hei := fun w h1 h2 h3 => either_any vs co dx dy w h1 h2 h3
  have hB0 := (Below.refl w.heap.size w).alloc (Nat.le_refl _) (.cells #[.int .i64 co.b, .int .i64 co.n, .int .i64 co.l, .int .i64 co.y, .int .i64 co.w, .int .i64 co.s] 29)
  have HRD := Lib.hid ((hR.below hB0 (Nat.le_refl _)).more hB0.size)
  have HB0 := Lib.hid hB0
  have KC := Lib.hid (Bk.new w 29 #[.int .i64 co.b, .int .i64 co.n, .int .i64 co.l, .int .i64 co.y, .int .i64 co.w, .int .i64 co.s])
  rw [cval_def] at hop hei ⊢
  clear hB0 hR
  by_cases he : Cs.stepE vs co dx dy = 0
  · obtain ⟨g1, g2, g3, g4, g5, g6⟩ := Cs.stepE_zero he
    have hr : Cs.misfitF vs co dx dy = (Cs.misF vs co dx dy, 0) := by rw [Cs.misfitF, if_neg (by rw [he]; simp)]
    rw [hr]
    dsimp only
    rw [if_pos he, he] at hop
    obtain ⟨x, hx⟩ : ∃ q, (Cs.dec vs co.y).1 = q := ⟨_, rfl⟩
    rw [hx] at hop hei
    obtain ⟨r, hrr⟩ : ∃ q, Cs.misF vs co dx dy = q := ⟨_, rfl⟩
    rw [hrr] at hei ⊢
    have HOP := Lib.hid hop
    have HEI := Lib.hid fun w => hei w g1 ⟨g3, g4⟩ ⟨g5, g6⟩
    clear hop hei hr he hx hrr g1 g2 g3 g4 g5 g6
    go_enter Tryz.func40, Tryz.ntmps40
    go_wp2_with fail
    refine (HOP.out _ HRD.out).mono ?_
    rintro e w1 ⟨rfl, hb1⟩
    have k1 := KC.out.below hb1 (by simp)
    have HB1 := Lib.hid (HB0.out.trans (hb1.mono HB0.out.size))
    have p0 := (k1.cell 0).trans rfl
    have p1 := (k1.cell 1).trans rfl
    have p2 := (k1.cell 2).trans rfl
    have p3 := (k1.cell 3).trans rfl
    have p4 := (k1.cell 4).trans rfl
    have p5 := (k1.cell 5).trans rfl
    have lp := k1.lt
    clear hb1 k1
    go_wp2_with fail
    refine (HEI.out _).mono ?_
    rintro e w2 ⟨rfl, hb2⟩
    have HB2 := Lib.hid (HB1.out.trans (hb2.mono HB1.out.size))
    clear hb2
    go_wp2_with fail
    go_ret2
    exact ⟨rfl, HB2.out⟩
  · have hr : Cs.misfitF vs co dx dy = (0, Cs.stepE vs co dx dy) := by rw [Cs.misfitF, if_pos he]
    rw [hr]
    dsimp only
    rw [if_neg he] at hop
    have hne : (Cs.stepE vs co dx dy != 0) = true := by simp [he]
    obtain ⟨s, hss⟩ : ∃ s, Cs.stepE vs co dx dy = s := ⟨_, rfl⟩
    rw [hss] at hop hne ⊢
    have HOP := Lib.hid hop
    clear hop hei hr he hss
    go_enter Tryz.func40, Tryz.ntmps40
    go_wp2_with fail
    refine (HOP.out _ HRD.out).mono ?_
    rintro e w1 ⟨rfl, hb1⟩
    have HB1 := Lib.hid (HB0.out.trans (hb1.mono HB0.out.size))
    clear hb1
    go_wp2_with fail
    go_ret2
    exact ⟨rfl, HB1.out⟩

end Go.Proofs.YtncdeogpmodoaaaGreatDoor
