/-
  Misfit, Fits, Sector of course.
-/
import Derived.Test.YtncdeogpmodoaabGreatDoorStep
set_option linter.unusedVariables false
set_option linter.unusedSimpArgs false
namespace Go.Proofs.YtncdeogpmodoaabGreatDoor
open Go.RowKit
set_option maxRecDepth 100000

theorem cval_def (co : Cs.Co) : cval co = .agg #[.int .i64 co.b, .int .i64 co.n, .int .i64 co.l, .int .i64 co.y, .int .i64 co.w, .int .i64 co.s] := rfl

set_option maxHeartbeats 2000000 in
theorem Misfit_any (A : Option Addr) (c : Nat) (vs : List (Int × Int)) (co : Cs.Co) (dx dy : Int) (w : World) (hs : Sn w) (hR : Rd w w.heap.size 2 A vs.length (vcells vs)) (hl : vs.length ≤ 1000000) :
    Calls Tryz.prog 32 #[.slice A vs.length c, cval co, .int .i64 dx, .int .i64 dy] w fun e w' => e = .returned (.tuple #[.int .u8 (Cs.misfitF vs co dx dy).1, .int .i64 (Cs.misfitF vs co dx dy).2]) ∧ Below w.heap.size w w' := by
  have hst := fun w h => checkStep_any A c vs co dx dy w h hl
  have hmi := fun w hs h ho hx hy => misfit_any A c vs co dx dy w hs h hl ho hx hy
  rw [cval_def] at hst hmi ⊢
  have hB0 := (Below.refl w.heap.size w).alloc (Nat.le_refl _) (.cells #[.int .i64 co.b, .int .i64 co.n, .int .i64 co.l, .int .i64 co.y, .int .i64 co.w, .int .i64 co.s] 26)
  have HRD := Lib.hid ((hR.below hB0 (Nat.le_refl _)).more hB0.size)
  have HRR := Lib.hid hR
  have HS := Lib.hid hs
  have HB0 := Lib.hid hB0
  clear hB0 hs hR
  by_cases he : Cs.stepE vs co dx dy = 0
  · obtain ⟨g1, g2, g3, g4, g5, g6⟩ := Cs.stepE_zero he
    have hr : Cs.misfitF vs co dx dy = (Cs.misF vs co dx dy, 0) := by rw [Cs.misfitF, if_neg (by rw [he]; simp)]
    rw [hr]
    dsimp only
    obtain ⟨r, hrr⟩ : ∃ r, Cs.misF vs co dx dy = r := ⟨_, rfl⟩
    rw [hrr] at hmi ⊢
    rw [he] at hst
    have HST := Lib.hid hst
    have HMI := Lib.hid fun w hs h => hmi w hs h g1 ⟨g3, g4⟩ ⟨g5, g6⟩
    clear hst hmi he hr hrr g1 g2 g3 g4 g5 g6
    go_enter Tryz.func32, Tryz.ntmps32
    go_wp2_with fail
    refine (HST.out _ HRD.out).mono ?_
    rintro e w1 ⟨rfl, hb1⟩
    have hB1 := HB0.out.trans (hb1.mono HB0.out.size)
    have HR1 := Lib.hid ((HRR.out.below hB1 (Nat.le_refl _)).more hB1.size)
    have HS1 := Lib.hid (HS.out.step hB1)
    have hk := ((Bk.new w 26 #[.int .i64 co.b, .int .i64 co.n, .int .i64 co.l, .int .i64 co.y, .int .i64 co.w, .int .i64 co.s]).below hb1 (by simp))
    have HB1 := Lib.hid hB1
    have e0 := (hk.cell 0).trans rfl
    have e1 := (hk.cell 1).trans rfl
    have e2 := (hk.cell 2).trans rfl
    have e3 := (hk.cell 3).trans rfl
    have e4 := (hk.cell 4).trans rfl
    have e5 := (hk.cell 5).trans rfl
    have lk := hk.lt
    clear hb1 hB1 hk
    go_wp2_with fail
    refine (HMI.out _ HS1.out HR1.out).mono ?_
    rintro e w2 ⟨rfl, hb2⟩
    have HB2 := Lib.hid (HB1.out.trans (hb2.mono HB1.out.size))
    clear hb2
    go_wp2_with fail
    go_ret2
    exact ⟨rfl, HB2.out⟩
  · have hr : Cs.misfitF vs co dx dy = (0, Cs.stepE vs co dx dy) := by rw [Cs.misfitF, if_pos he]
    rw [hr]
    dsimp only
    have hne : (Cs.stepE vs co dx dy != 0) = true := by simp [he]
    obtain ⟨s, hss⟩ : ∃ s, Cs.stepE vs co dx dy = s := ⟨_, rfl⟩
    rw [hss] at hst hne ⊢
    have HST := Lib.hid hst
    clear hst hmi he hr hss
    go_enter Tryz.func32, Tryz.ntmps32
    go_wp2_with fail
    refine (HST.out _ HRD.out).mono ?_
    rintro e w1 ⟨rfl, hb1⟩
    have HB1 := Lib.hid (HB0.out.trans (hb1.mono HB0.out.size))
    clear hb1
    go_wp2_with fail
    go_ret2
    exact ⟨rfl, HB1.out⟩

theorem ret_boolint {a b : Bool} {x y : Int} (h : a = b) (h2 : x = y) : Ending.returned (.tuple #[.bool a, .int .i64 x]) = .returned (.tuple #[.bool b, .int .i64 y]) := by rw [h, h2]

set_option maxHeartbeats 2000000 in
theorem Fits_any (A : Option Addr) (c : Nat) (vs : List (Int × Int)) (co : Cs.Co) (dx dy : Int) (w : World) (hs : Sn w) (hR : Rd w w.heap.size 2 A vs.length (vcells vs)) (hl : vs.length ≤ 1000000) :
    Calls Tryz.prog 13 #[.slice A vs.length c, cval co, .int .i64 dx, .int .i64 dy] w fun e w' => e = .returned (.tuple #[.bool (Cs.fitsF vs co dx dy).1, .int .i64 (Cs.fitsF vs co dx dy).2]) ∧ Below w.heap.size w w' := by
  have hmi := fun w hs h => Misfit_any A c vs co dx dy w hs h hl
  rw [cval_def] at hmi ⊢
  have hB0 := (Below.refl w.heap.size w).alloc (Nat.le_refl _) (.cells #[.int .i64 co.b, .int .i64 co.n, .int .i64 co.l, .int .i64 co.y, .int .i64 co.w, .int .i64 co.s] 26)
  have HRD := Lib.hid ((hR.below hB0 (Nat.le_refl _)).more hB0.size)
  have HS := Lib.hid (hs.step hB0)
  have HB0 := Lib.hid hB0
  clear hB0 hs hR
  have hr : Cs.fitsF vs co dx dy = (decide ((Cs.misfitF vs co dx dy).2 = 0) && decide ((Cs.misfitF vs co dx dy).1 = 0), (Cs.misfitF vs co dx dy).2) := rfl
  rw [hr]
  obtain ⟨⟨m, e⟩, hm⟩ : ∃ q, Cs.misfitF vs co dx dy = q := ⟨_, rfl⟩
  rw [hm] at hmi ⊢
  dsimp only at hmi ⊢
  have HMI := Lib.hid hmi
  clear hmi hr hm
  by_cases he : e = 0
  · have hd : (e == 0) = true := by simp [he]
    go_enter Tryz.func13, Tryz.ntmps13
    go_wp2_with fail
    refine (HMI.out _ HS.out HRD.out).mono ?_
    rintro e w1 ⟨rfl, hb1⟩
    have HB1 := Lib.hid (HB0.out.trans (hb1.mono HB0.out.size))
    clear hb1
    go_wp2_with fail
    go_ret2
    exact ⟨ret_boolint (by subst he; rw [decide_eq_true rfl, Bool.true_and]; rfl) (by first | rfl | exact he.symm), HB1.out⟩
  · have hd : (e == 0) = false := by simp [he]
    go_enter Tryz.func13, Tryz.ntmps13
    go_wp2_with fail
    refine (HMI.out _ HS.out HRD.out).mono ?_
    rintro e w1 ⟨rfl, hb1⟩
    have HB1 := Lib.hid (HB0.out.trans (hb1.mono HB0.out.size))
    clear hb1
    go_wp2_with fail
    go_ret2
    exact ⟨ret_boolint (by simp [he]) rfl, HB1.out⟩

end Go.Proofs.YtncdeogpmodoaabGreatDoor
