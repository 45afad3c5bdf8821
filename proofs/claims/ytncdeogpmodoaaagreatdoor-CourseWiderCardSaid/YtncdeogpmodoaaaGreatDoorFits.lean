/-
  Misfit, Fits, Sector of course.
-/
import Derived.Test.YtncdeogpmodoaaaGreatDoorStep
set_option linter.unusedVariables false
set_option linter.unusedSimpArgs false
namespace Go.Proofs.YtncdeogpmodoaaaGreatDoor
open Go.RowKit
set_option maxRecDepth 100000

theorem cval_def (co : Cs.Co) : cval co = .agg #[.int .i64 co.b, .int .i64 co.n, .int .i64 co.l, .int .i64 co.y, .int .i64 co.w, .int .i64 co.s] := rfl

set_option maxHeartbeats 2000000 in
theorem Misfit_any (A : Option Addr) (c : Nat) (vs : List (Int × Int)) (co : Cs.Co) (dx dy : Int) (w : World) (hs : Sn w) (hR : Rd w w.heap.size 2 A vs.length (vcells vs)) (hl : vs.length ≤ 1000000) :
    Calls Tryz.prog 39 #[.slice A vs.length c, cval co, .int .i64 dx, .int .i64 dy] w fun e w' => e = .returned (.tuple #[.int .u8 (Cs.misfitF vs co dx dy).1, .int .i64 (Cs.misfitF vs co dx dy).2]) ∧ Below w.heap.size w w' := by
  have hst := fun w h => checkStep_any A c vs co dx dy w h hl
  have hmi := fun w hs h ho hx hy => misfit_any A c vs co dx dy w hs h hl ho hx hy
  rw [cval_def] at hst hmi ⊢
  have hB0 := (Below.refl w.heap.size w).alloc (Nat.le_refl _) (.cells #[.int .i64 co.b, .int .i64 co.n, .int .i64 co.l, .int .i64 co.y, .int .i64 co.w, .int .i64 co.s] 29)
  have HRD := Lib.hid ((hR.below hB0 (Nat.le_refl _)).more hB0.size)
  have HRR := Lib.hid hR
  have HS := Lib.hid hs
  have HB0 := Lib.hid hB0
  clear hB0 hs hR
  by_cases he : Cs.stepE vs co dx dy = 0
  · obtain ⟨g1, g2, g3, g4, g5, g6⟩ := Cs.stepE_zero he
    have hr : Cs.misfitF vs co dx dy = (Cs.misF vs co dx dy, 0) := by rw [Cs.misfitF, if_neg (by rw [he]; simp)]
    rw [hr]
    dsimp only
    obtain ⟨r, hrr⟩ : ∃ r, Cs.misF vs co dx dy = r := ⟨_, rfl⟩
    rw [hrr] at hmi ⊢
    rw [he] at hst
    have HST := Lib.hid hst
    have HMI := Lib.hid fun w hs h => hmi w hs h g1 ⟨g3, g4⟩ ⟨g5, g6⟩
    clear hst hmi he hr hrr g1 g2 g3 g4 g5 g6
    go_enter Tryz.func39, Tryz.ntmps39
    go_wp2_with fail
    refine (HST.out _ HRD.out).mono ?_
    rintro e w1 ⟨rfl, hb1⟩
    have hB1 := HB0.out.trans (hb1.mono HB0.out.size)
    have HR1 := Lib.hid ((HRR.out.below hB1 (Nat.le_refl _)).more hB1.size)
    have HS1 := Lib.hid (HS.out.step hB1)
    have hk := ((Bk.new w 29 #[.int .i64 co.b, .int .i64 co.n, .int .i64 co.l, .int .i64 co.y, .int .i64 co.w, .int .i64 co.s]).below hb1 (by simp))
    have HB1 := Lib.hid hB1
    have e0 := (hk.cell 0).trans rfl
    have e1 := (hk.cell 1).trans rfl
    have e2 := (hk.cell 2).trans rfl
    have e3 := (hk.cell 3).trans rfl
    have e4 := (hk.cell 4).trans rfl
    have e5 := (hk.cell 5).trans rfl
    have lk := hk.lt
    clear hb1 hB1 hk
    go_wp2_with fail
    refine (HMI.out _ HS1.out HR1.out).mono ?_
    rintro e w2 ⟨rfl, hb2⟩
    have HB2 := Lib.hid (HB1.out.trans (hb2.mono HB1.out.size))
    clear hb2
    go_wp2_with fail
    go_ret2
    exact ⟨rfl, HB2.out⟩
  · have hr : Cs.misfitF vs co dx dy = (0, Cs.stepE vs co dx dy) := by rw [Cs.misfitF, if_pos he]
    rw [hr]
    dsimp only
    have hne : (Cs.stepE vs co dx dy != 0) = true := by simp [he]
    obtain ⟨s, hss⟩ : ∃ s, Cs.stepE vs co dx dy = s := ⟨_, rfl⟩
    rw [hss] at hst hne ⊢
    have HST := Lib.hid hst
    clear hst hmi he hr hss
    go_enter Tryz.func39, Tryz.ntmps39
    go_wp2_with fail
    refine (HST.out _ HRD.out).mono ?_
    rintro e w1 ⟨rfl, hb1⟩
    have HB1 := Lib.hid (HB0.out.trans (hb1.mono HB0.out.size))
    clear hb1
    go_wp2_with fail
    go_ret2
    exact ⟨rfl, HB1.out⟩

theorem ret_boolint {a b : Bool} {x y : Int} (h : a = b) (h2 : x = y) : Ending.returned (.tuple #[.bool a, .int .i64 x]) = .returned (.tuple #[.bool b, .int .i64 y]) := by rw [h, h2]

set_option maxHeartbeats 2000000 in
theorem Fits_any (A : Option Addr) (c : Nat) (vs : List (Int × Int)) (co : Cs.Co) (dx dy : Int) (w : World) (hs : Sn w) (hR : Rd w w.heap.size 2 A vs.length (vcells vs)) (hl : vs.length ≤ 1000000) :
    Calls Tryz.prog 41 #[.slice A vs.length c, cval co, .int .i64 dx, .int .i64 dy] w fun e w' => e = .returned (.tuple #[.bool (Cs.fitsF vs co dx dy).1, .int .i64 (Cs.fitsF vs co dx dy).2]) ∧ Below w.heap.size w w' := by
  have hmi := fun w hs h => Misfit_any A c vs co dx dy w hs h hl
  rw [cval_def] at hmi ⊢
  have hB0 := (Below.refl w.heap.size w).alloc (Nat.le_refl _) (.cells #[.int .i64 co.b, .int .i64 co.n, .int .i64 co.l, .int .i64 co.y, .int .i64 co.w, .int .i64 co.s] 29)
  have HRD := Lib.hid ((hR.below hB0 (Nat.le_refl _)).more hB0.size)
  have HS := Lib.hid (hs.step hB0)
  have HB0 := Lib.hid hB0
  clear hB0 hs hR
  have hr : Cs.fitsF vs co dx dy = (decide ((Cs.misfitF vs co dx dy).2 = 0) && decide ((Cs.misfitF vs co dx dy).1 = 0), (Cs.misfitF vs co dx dy).2) := rfl
  rw [hr]
  obtain ⟨⟨m, e⟩, hm⟩ : ∃ q, Cs.misfitF vs co dx dy = q := ⟨_, rfl⟩
  rw [hm] at hmi ⊢
  dsimp only at hmi ⊢
  have HMI := Lib.hid hmi
  clear hmi hr hm
  by_cases he : e = 0
  · have hd : (e == 0) = true := by simp [he]
    go_enter Tryz.func41, Tryz.ntmps41
    go_wp2_with fail
    refine (HMI.out _ HS.out HRD.out).mono ?_
    rintro e w1 ⟨rfl, hb1⟩
    have HB1 := Lib.hid (HB0.out.trans (hb1.mono HB0.out.size))
    clear hb1
    go_wp2_with fail
    go_ret2
    exact ⟨ret_boolint (by subst he; rw [decide_eq_true rfl, Bool.true_and]; rfl) (by first | rfl | exact he.symm), HB1.out⟩
  · have hd : (e == 0) = false := by simp [he]
    go_enter Tryz.func41, Tryz.ntmps41
    go_wp2_with fail
    refine (HMI.out _ HS.out HRD.out).mono ?_
    rintro e w1 ⟨rfl, hb1⟩
    have HB1 := Lib.hid (HB0.out.trans (hb1.mono HB0.out.size))
    clear hb1
    go_wp2_with fail
    go_ret2
    exact ⟨ret_boolint (by simp [he]) rfl, HB1.out⟩

set_option maxHeartbeats 2000000 in
theorem Sector_any (A : Option Addr) (c : Nat) (vs : List (Int × Int)) (co : Cs.Co) (w : World) (hR : Rd w w.heap.size 2 A vs.length (vcells vs)) (hl : vs.length ≤ 1000000) :
    Calls Tryz.prog 31 #[.slice A vs.length c, cval co] w fun e w' => e = .returned (.tuple #[.int .i64 (Cs.sectorF vs co).1, .int .i64 (Cs.sectorF vs co).2.1, .int .i64 (Cs.sectorF vs co).2.2]) ∧ Below w.heap.size w w' := by
  have hck := fun A2 w (h : Rd w w.heap.size 2 A vs.length (vcells vs)) hC => check_any A A2 c 1 vs [co] w h hl hC (by simp)
  have hfr : ∀ t, Rd ((w.alloc (.cells #[.int .i64 co.b, .int .i64 co.n, .int .i64 co.l, .int .i64 co.y, .int .i64 co.w, .int .i64 co.s] 29)).alloc (.cells #[.int .i64 co.b, .int .i64 co.n, .int .i64 co.l, .int .i64 co.y, .int .i64 co.w, .int .i64 co.s] t))
      ((w.alloc (.cells #[.int .i64 co.b, .int .i64 co.n, .int .i64 co.l, .int .i64 co.y, .int .i64 co.w, .int .i64 co.s] 29)).alloc (.cells #[.int .i64 co.b, .int .i64 co.n, .int .i64 co.l, .int .i64 co.y, .int .i64 co.w, .int .i64 co.s] t)).heap.size 6 (some ⟨w.heap.size + 1, 0, none⟩) [co].length (ccells [co]) := fun t => by
    have := rd_one (w.alloc (.cells #[.int .i64 co.b, .int .i64 co.n, .int .i64 co.l, .int .i64 co.y, .int .i64 co.w, .int .i64 co.s] 29)) t co
    rw [World.size_alloc] at this
    rw [World.size_alloc, World.size_alloc]
    exact this
  have hbl : ∀ o o2, Below w.heap.size w ((w.alloc o).alloc o2) := fun o o2 => ((Below.refl _ _).alloc (Nat.le_refl _) _).alloc (by simp) _
  have hrd : ∀ o o2, Rd ((w.alloc o).alloc o2) ((w.alloc o).alloc o2).heap.size 2 A vs.length (vcells vs) := fun o o2 => (hR.below (hbl o o2) (Nat.le_refl _)).more (hbl o o2).size
  have hkk : ∀ o2, Bk ((w.alloc (.cells #[.int .i64 co.b, .int .i64 co.n, .int .i64 co.l, .int .i64 co.y, .int .i64 co.w, .int .i64 co.s] 29)).alloc o2) w.heap.size 29 #[.int .i64 co.b, .int .i64 co.n, .int .i64 co.l, .int .i64 co.y, .int .i64 co.w, .int .i64 co.s] := fun o2 => (Bk.new w _ _).alloc _
  have HFR := Lib.hid hfr
  have HBL := Lib.hid hbl
  have HRD := Lib.hid hrd
  have HKK := Lib.hid hkk
  have HRR := Lib.hid hR
  clear hfr hbl hrd hR hkk
  by_cases hs : Cs.checkE vs [co] = 0
  · have hao := fun w h => aimOf_any A c vs co w h hl (Cs.checkE_one hs)
    rw [cval_def] at hao ⊢
    have he : Cs.sectorF vs co = ((Cs.aimOf vs co).low, (Cs.aimOf vs co).high, 0) := by rw [Cs.sectorF, if_neg (by rw [hs]; simp)]
    rw [he]
    dsimp only
    rw [hs] at hck
    obtain ⟨am, ham⟩ : ∃ q, Cs.aimOf vs co = q := ⟨_, rfl⟩
    simp only [ham] at hao ⊢
    obtain ⟨al, ah, an, af⟩ := am
    have hav : aval ⟨al, ah, an, af⟩ = .agg #[.int .i64 al, .int .i64 ah, .int .i64 an, .int .i64 af] := rfl
    rw [hav] at hao
    have HCK := Lib.hid hck
    have HAO := Lib.hid hao
    clear hck hs he hao ham hav
    go_enter Tryz.func31, Tryz.ntmps31
    go_wp2_with fail
    refine (HCK.out _ _ (HRD.out _ _) (HFR.out _)).mono ?_
    rintro e w1 ⟨rfl, hb1⟩
    have hB1 := (HBL.out _ _).trans (hb1.mono (HBL.out _ _).size)
    have hk := (HKK.out _).below hb1 (by simp; omega)
    have HR1 := Lib.hid ((HRR.out.below hB1 (Nat.le_refl _)).more hB1.size)
    have HB1 := Lib.hid hB1
    have e0 := (hk.cell 0).trans rfl
    have e1 := (hk.cell 1).trans rfl
    have e2 := (hk.cell 2).trans rfl
    have e3 := (hk.cell 3).trans rfl
    have e4 := (hk.cell 4).trans rfl
    have e5 := (hk.cell 5).trans rfl
    have lk := hk.lt
    clear hb1 hB1 hk
    go_wp2_with fail
    refine (HAO.out _ HR1.out).mono ?_
    rintro e w2 ⟨rfl, hb2⟩
    have hB2 := HB1.out.trans (hb2.mono HB1.out.size)
    have HB2 := Lib.hid (hB2.alloc hB2.size (.cells #[.int .i64 al, .int .i64 ah, .int .i64 an, .int .i64 af] 83))
    clear hb2 hB2 e0 e1 e2 e3 e4 e5
    go_wp2
    go_quiet (fail)
    go_wp2
    go_ret3
    exact ⟨rfl, below_drewN HB2.out _⟩
  · have he : Cs.sectorF vs co = (0, 0, Cs.checkE vs [co]) := by rw [Cs.sectorF, if_pos hs]
    rw [he]
    dsimp only
    have hne : (Cs.checkE vs [co] != 0) = true := by simp [hs]
    obtain ⟨s, hss⟩ : ∃ s, Cs.checkE vs [co] = s := ⟨_, rfl⟩
    rw [hss] at hck hne ⊢
    have HCK := Lib.hid hck
    clear hck hs hss he
    rw [cval_def]
    go_enter Tryz.func31, Tryz.ntmps31
    go_wp2_with fail
    refine (HCK.out _ _ (HRD.out _ _) (HFR.out _)).mono ?_
    rintro e w1 ⟨rfl, hb1⟩
    have HB1 := Lib.hid ((HBL.out _ _).trans (hb1.mono (HBL.out _ _).size))
    clear hb1
    go_wp2_with fail
    go_ret3
    exact ⟨rfl, HB1.out⟩

end Go.Proofs.YtncdeogpmodoaaaGreatDoor
