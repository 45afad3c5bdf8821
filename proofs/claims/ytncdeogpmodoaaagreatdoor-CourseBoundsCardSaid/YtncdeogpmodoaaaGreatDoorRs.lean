/-
  The reference's sector, Sector, opened.
-/
import Derived.Test.YtncdeogpmodoaaaGreatDoorNar
set_option linter.unusedVariables false
set_option linter.unusedSimpArgs false
namespace Go.Proofs.YtncdeogpmodoaaaGreatDoor
open Go.RowKit
set_option maxRecDepth 100000

namespace Cs
theorem mid_alt (x : Int) : norm (x + 90) - 90 = if 269 < norm x then norm x - 360 else norm x := by
  unfold norm
  split <;> omega
end Cs

set_option maxHeartbeats 2000000 in
theorem rsector_any (co : Cs.Co) (east : Int) (w : World) (hco : Cs.courseOk co = true) (he : -60 ≤ east ∧ east ≤ 60) :
    Calls Tryz.prog 67 #[cval co, .int .i64 east] w fun e w' => e = .returned (.tuple #[.int .i64 (Cs.norm (co.b + east + 90) - 90 - co.n), .int .i64 (Cs.norm (co.b + east + 90) - 90 + co.n)]) ∧ Below w.heap.size w w' := by
  obtain ⟨⟨b0, b1⟩, ⟨n0, n1⟩, _⟩ := (Cs.courseOk_iff co).1 hco
  have hB0 := (Below.refl w.heap.size w).alloc (Nat.le_refl _) (.cells #[.int .i64 co.b, .int .i64 co.n, .int .i64 co.l, .int .i64 co.y, .int .i64 co.w, .int .i64 co.s] 29)
  have HB0 := Lib.hid hB0
  rw [Cs.mid_alt, cval_def]
  have hnm := fun w => rnorm_any (co.b + east) w
  obtain ⟨m0, m1⟩ := Cs.norm_range (co.b + east)
  obtain ⟨m, hm⟩ : ∃ q, Cs.norm (co.b + east) = q := ⟨_, rfl⟩
  rw [hm] at hnm m0 m1 ⊢
  have HNM := Lib.hid hnm
  clear hnm hm hB0 hco
  by_cases g : 269 < m
  · rw [if_pos g]
    go_enter Tryz.func67, Tryz.ntmps67
    go_wp2_with (go_at_call 16; refine (HNM.out _).mono ?_; rintro e w' ⟨rfl, rfl⟩)
    go_quiet (fail)
    go_wp2
    go_ret2
    exact ⟨rfl, below_drewN HB0.out _⟩
  · rw [if_neg g]
    go_enter Tryz.func67, Tryz.ntmps67
    go_wp2_with (go_at_call 16; refine (HNM.out _).mono ?_; rintro e w' ⟨rfl, rfl⟩)
    go_quiet (fail)
    go_wp2
    go_ret2
    exact ⟨rfl, below_drewN HB0.out _⟩

namespace Cs
theorem checkE_one_vars {vs : List (Int × Int)} {co : Co} (h : varsE vs ≠ 0) : checkE vs [co] = varsE vs := checkE_vars h
theorem checkE_one_course {vs : List (Int × Int)} {co : Co} (h : varsE vs = 0) (hc : courseOk co = false) : checkE vs [co] = 1 := checkE_course (cs := [co]) h (k := 0) (by simp) hc
theorem checkE_one_year {vs : List (Int × Int)} {co : Co} (h : varsE vs = 0) (hc : courseOk co = true) (hy : (dec vs co.y).2 = false) : checkE vs [co] = 20 :=
  checkE_year (cs := [co]) h (fun j hj => by obtain rfl : j = 0 := by simpa using hj
                                             exact hc) (k := 0) (by simp) hy
theorem checkE_one_ok {vs : List (Int × Int)} {co : Co} (h : varsE vs = 0) (hc : courseOk co = true) (hy : (dec vs co.y).2 = true) : checkE vs [co] = 0 :=
  checkE_ok (cs := [co]) h (fun j hj => by obtain rfl : j = 0 := by simpa using hj
                                           exact hc) (fun j hj => by obtain rfl : j = 0 := by simpa using hj
                                                                     exact hy)
end Cs

set_option maxHeartbeats 4000000 in
theorem rSector_any (A : Option Addr) (c : Nat) (vs : List (Int × Int)) (co : Cs.Co) (w : World) (hR : Rd w w.heap.size 2 A vs.length (vcells vs)) (hl : vs.length ≤ 1000000) :
    Calls Tryz.prog 32 #[.slice A vs.length c, cval co] w fun e w' => e = .returned (.tuple #[.int .i64 (Cs.sectorF vs co).1, .int .i64 (Cs.sectorF vs co).2.1, .int .i64 (Cs.sectorF vs co).2.2]) ∧ Below w.heap.size w w' := by
  have hcv := fun w h => rcheckVariations_any A c vs w h hl
  have hcc := fun w => rcheckCourse_any co w
  have hde := fun w h => rdeclination_any A c vs co.y w h hl
  have hB0 := (Below.refl w.heap.size w).alloc (Nat.le_refl _) (.cells #[.int .i64 co.b, .int .i64 co.n, .int .i64 co.l, .int .i64 co.y, .int .i64 co.w, .int .i64 co.s] 29)
  have HRD := Lib.hid ((hR.below hB0 (Nat.le_refl _)).more hB0.size)
  have HRR := Lib.hid hR
  have HB0 := Lib.hid hB0
  have KC := Lib.hid (Bk.new w 29 #[.int .i64 co.b, .int .i64 co.n, .int .i64 co.l, .int .i64 co.y, .int .i64 co.w, .int .i64 co.s])
  rw [cval_def] at hcc ⊢
  clear hB0 hR
  by_cases hs : Cs.varsE vs = 0
  · rw [hs] at hcv
    rcases hok : Cs.courseOk co with _ | _
    · have hr : Cs.sectorF vs co = (0, 0, 1) := by rw [Cs.sectorF, Cs.checkE_one_course hs hok, if_pos (by simp)]
      rw [hr]
      rw [Cs.courseE_not hok] at hcc
      have HCV := Lib.hid hcv
      have HCC := Lib.hid hcc
      clear hcv hcc hde hs hok hr
      go_enter Tryz.func32, Tryz.ntmps32
      go_wp2_with fail
      refine (HCV.out _ HRD.out).mono ?_
      rintro e w1 ⟨rfl, hb1⟩
      have k1 := KC.out.below hb1 (by simp)
      have HB1 := Lib.hid (HB0.out.trans (hb1.mono HB0.out.size))
      have p0 := (k1.cell 0).trans rfl
      have p1 := (k1.cell 1).trans rfl
      have p2 := (k1.cell 2).trans rfl
      have p3 := (k1.cell 3).trans rfl
      have p4 := (k1.cell 4).trans rfl
      have p5 := (k1.cell 5).trans rfl
      have lp := k1.lt
      clear hb1 k1
      go_wp2_with fail
      refine (HCC.out _).mono ?_
      rintro e w2 ⟨rfl, hb2⟩
      have HB2 := Lib.hid (HB1.out.trans (hb2.mono HB1.out.size))
      clear hb2
      go_wp2_with fail
      go_ret3
      exact ⟨rfl, HB2.out⟩
    · rw [Cs.courseE_of hok] at hcc
      obtain ⟨d0, d1⟩ := Cs.dec_range vs co.y
      rcases hy : (Cs.dec vs co.y).2 with _ | _
      · have hr : Cs.sectorF vs co = (0, 0, 20) := by rw [Cs.sectorF, Cs.checkE_one_year hs hok hy, if_pos (by simp)]
        rw [hr]
        obtain ⟨x, hx⟩ : ∃ x, Cs.dec vs co.y = (x, false) := ⟨_, Prod.ext rfl hy⟩
        rw [hx] at hde
        have HCV := Lib.hid hcv
        have HCC := Lib.hid hcc
        have HDE := Lib.hid hde
        clear hcv hcc hde hs hok hr hx hy d0 d1
        go_enter Tryz.func32, Tryz.ntmps32
        go_wp2_with fail
        refine (HCV.out _ HRD.out).mono ?_
        rintro e w1 ⟨rfl, hb1⟩
        have k1 := KC.out.below hb1 (by simp)
        have HK1 := Lib.hid k1
        have HB1 := Lib.hid (HB0.out.trans (hb1.mono HB0.out.size))
        have p0 := (k1.cell 0).trans rfl
        have p1 := (k1.cell 1).trans rfl
        have p2 := (k1.cell 2).trans rfl
        have p3 := (k1.cell 3).trans rfl
        have p4 := (k1.cell 4).trans rfl
        have p5 := (k1.cell 5).trans rfl
        have lp := k1.lt
        clear hb1 k1
        go_wp2_with fail
        refine (HCC.out _).mono ?_
        rintro e w2 ⟨rfl, hb2⟩
        have hB2 := HB1.out.trans (hb2.mono HB1.out.size)
        have k2 := HK1.out.below hb2 HK1.out.lt
        have HK2 := Lib.hid k2
        have HR2 := Lib.hid ((HRR.out.below hB2 (Nat.le_refl _)).more hB2.size)
        have HB2 := Lib.hid hB2
        clear hb2 hB2 p0 p1 p2 p3 p4 p5 lp
        have q0 := (k2.cell 0).trans rfl
        have q1 := (k2.cell 1).trans rfl
        have q2 := (k2.cell 2).trans rfl
        have q3 := (k2.cell 3).trans rfl
        have q4 := (k2.cell 4).trans rfl
        have q5 := (k2.cell 5).trans rfl
        have lq := k2.lt
        clear k2
        go_wp2_with fail
        refine (HDE.out _ HR2.out).mono ?_
        rintro e w3 ⟨rfl, hb3⟩
        have k3 := HK2.out.below hb3 HK2.out.lt
        have HB3 := Lib.hid (HB2.out.trans (hb3.mono HB2.out.size))
        clear hb3 q0 q1 q2 q3 q4 q5 lq
        have s0 := (k3.cell 0).trans rfl
        have s1 := (k3.cell 1).trans rfl
        have s2 := (k3.cell 2).trans rfl
        have s3 := (k3.cell 3).trans rfl
        have s4 := (k3.cell 4).trans rfl
        have s5 := (k3.cell 5).trans rfl
        have ls := k3.lt
        clear k3
        go_wp2_with fail
        go_ret3
        exact ⟨rfl, HB3.out⟩
      · have hr : Cs.sectorF vs co = ((Cs.aimOf vs co).low, (Cs.aimOf vs co).high, 0) := by rw [Cs.sectorF, Cs.checkE_one_ok hs hok hy, if_neg (by simp)]
        rw [hr]
        have ha : Cs.aimOf vs co = ⟨Cs.norm (co.b + (Cs.dec vs co.y).1 + 90) - 90 - co.n, Cs.norm (co.b + (Cs.dec vs co.y).1 + 90) - 90 + co.n, Cs.nearF co, Cs.farF co⟩ := rfl
        rw [ha]
        dsimp only
        obtain ⟨x, hx⟩ : ∃ x, Cs.dec vs co.y = (x, true) := ⟨_, Prod.ext rfl hy⟩
        rw [hx] at hde d0 d1 ⊢
        have hse := fun w => rsector_any co x w hok ⟨d0, d1⟩
        rw [cval_def] at hse
        dsimp only
        have HSE := Lib.hid hse
        have HCV := Lib.hid hcv
        have HCC := Lib.hid hcc
        have HDE := Lib.hid hde
        clear hcv hcc hde hs hok hr hx hy ha hse
        go_enter Tryz.func32, Tryz.ntmps32
        go_wp2_with fail
        refine (HCV.out _ HRD.out).mono ?_
        rintro e w1 ⟨rfl, hb1⟩
        have k1 := KC.out.below hb1 (by simp)
        have HK1 := Lib.hid k1
        have HB1 := Lib.hid (HB0.out.trans (hb1.mono HB0.out.size))
        have p0 := (k1.cell 0).trans rfl
        have p1 := (k1.cell 1).trans rfl
        have p2 := (k1.cell 2).trans rfl
        have p3 := (k1.cell 3).trans rfl
        have p4 := (k1.cell 4).trans rfl
        have p5 := (k1.cell 5).trans rfl
        have lp := k1.lt
        clear hb1 k1
        go_wp2_with fail
        refine (HCC.out _).mono ?_
        rintro e w2 ⟨rfl, hb2⟩
        have hB2 := HB1.out.trans (hb2.mono HB1.out.size)
        have k2 := HK1.out.below hb2 HK1.out.lt
        have HK2 := Lib.hid k2
        have HR2 := Lib.hid ((HRR.out.below hB2 (Nat.le_refl _)).more hB2.size)
        have HB2 := Lib.hid hB2
        clear hb2 hB2 p0 p1 p2 p3 p4 p5 lp
        have q0 := (k2.cell 0).trans rfl
        have q1 := (k2.cell 1).trans rfl
        have q2 := (k2.cell 2).trans rfl
        have q3 := (k2.cell 3).trans rfl
        have q4 := (k2.cell 4).trans rfl
        have q5 := (k2.cell 5).trans rfl
        have lq := k2.lt
        clear k2
        go_wp2_with fail
        refine (HDE.out _ HR2.out).mono ?_
        rintro e w3 ⟨rfl, hb3⟩
        have k3 := HK2.out.below hb3 HK2.out.lt
        have HB3 := Lib.hid (HB2.out.trans (hb3.mono HB2.out.size))
        clear hb3 q0 q1 q2 q3 q4 q5 lq
        have s0 := (k3.cell 0).trans rfl
        have s1 := (k3.cell 1).trans rfl
        have s2 := (k3.cell 2).trans rfl
        have s3 := (k3.cell 3).trans rfl
        have s4 := (k3.cell 4).trans rfl
        have s5 := (k3.cell 5).trans rfl
        have ls := k3.lt
        clear k3
        go_wp2_with fail
        refine (HSE.out _).mono ?_
        rintro e w4 ⟨rfl, hb4⟩
        have HB4 := Lib.hid (HB3.out.trans (hb4.mono HB3.out.size))
        clear hb4
        go_wp2_with fail
        go_ret3
        exact ⟨rfl, HB4.out⟩
  · have hr : Cs.sectorF vs co = (0, 0, Cs.varsE vs) := by rw [Cs.sectorF, Cs.checkE_one_vars hs, if_pos hs]
    rw [hr]
    dsimp only
    have hne : (Cs.varsE vs != 0) = true := by simp [hs]
    have hne2 : (Cs.varsE vs == 0) = false := by simp [hs]
    obtain ⟨s, hss⟩ : ∃ s, Cs.varsE vs = s := ⟨_, rfl⟩
    rw [hss] at hcv hne hne2 ⊢
    have HCV := Lib.hid hcv
    clear hcv hs hss hr hcc hde
    go_enter Tryz.func32, Tryz.ntmps32
    go_wp2_with fail
    refine (HCV.out _ HRD.out).mono ?_
    rintro e w1 ⟨rfl, hb1⟩
    have HB1 := Lib.hid (HB0.out.trans (hb1.mono HB0.out.size))
    clear hb1
    go_wp2_with fail
    go_ret3
    exact ⟨rfl, HB1.out⟩

end Go.Proofs.YtncdeogpmodoaaaGreatDoor
