/-
  The reference's Needed, Reverse.
-/
import Derived.Test.YtncdeogpmodoaaaGreatDoorRo
set_option linter.unusedVariables false
set_option linter.unusedSimpArgs false
namespace Go.Proofs.YtncdeogpmodoaaaGreatDoor
open Go.RowKit
set_option maxRecDepth 100000

set_option maxHeartbeats 4000000 in
theorem rNeeded_any (A : Option Addr) (c : Nat) (vs : List (Int × Int)) (co : Cs.Co) (dx dy : Int) (w : World) (hR : Rd w w.heap.size 2 A vs.length (vcells vs)) (hl : vs.length ≤ 1000000) :
    Calls Tryz.prog 45 #[.slice A vs.length c, cval co, .int .i64 dx, .int .i64 dy] w fun e w' => e = .returned (.tuple #[.int .i64 (Cs.needF vs co dx dy).1.1, .bool (Cs.needF vs co dx dy).1.2, .int .i64 (Cs.needF vs co dx dy).2]) ∧ Below w.heap.size w w' := by
  have hst := fun w h => opened_any A c vs co dx dy w h hl
  rw [cval_def] at hst ⊢
  have hB0 := (Below.refl w.heap.size w).alloc (Nat.le_refl _) (.cells #[.int .i64 co.b, .int .i64 co.n, .int .i64 co.l, .int .i64 co.y, .int .i64 co.w, .int .i64 co.s] 29)
  have HRD := Lib.hid ((hR.below hB0 (Nat.le_refl _)).more hB0.size)
  have HRR := Lib.hid hR
  have HB0 := Lib.hid hB0
  clear hB0 hR
  by_cases he : Cs.stepE vs co dx dy = 0
  · obtain ⟨g1, g2, g3, g4, g5, g6⟩ := Cs.stepE_zero he
    have hr : Cs.needF vs co dx dy = (Cs.needG vs co dx dy 31 0, 0) := by rw [Cs.needF, if_neg (by rw [he]; simp)]
    rw [hr]
    dsimp only
    obtain ⟨r, hrr⟩ : ∃ r, Cs.needG vs co dx dy 31 0 = r := ⟨_, rfl⟩
    rw [hrr]
    rw [if_pos he, he] at hst
    obtain ⟨x, hx⟩ : ∃ q, (Cs.dec vs co.y).1 = q := ⟨_, rfl⟩
    rw [hx] at hst
    have HR0 := Lib.hid hrr
    have HST := Lib.hid hst
    have HMI := Lib.hid fun (k : Int) (h0 : 0 ≤ k) (h1 : k ≤ 30) w => (show Calls Tryz.prog 71 #[cval { co with n := k }, .int .i64 x, .int .i64 dx, .int .i64 dy] w fun e w' => e = .returned (.int .u8 (Cs.misF vs { co with n := k } dx dy)) ∧ Below w.heap.size w w' by rw [← hx]; exact either_any vs { co with n := k } dx dy w (Cs.needle_ok g1 h0 h1) ⟨g3, g4⟩ ⟨g5, g6⟩)
    clear hst he hr hrr hx g1 g2 g3 g4 g5 g6
    go_enter Tryz.func45, Tryz.ntmps45
    go_wp2_with fail
    refine (HST.out _ HRD.out).mono ?_
    rintro e w1 ⟨rfl, hb1⟩
    have hB1 := HB0.out.trans (hb1.mono HB0.out.size)
    have hk := ((Bk.new w 29 #[.int .i64 co.b, .int .i64 co.n, .int .i64 co.l, .int .i64 co.y, .int .i64 co.w, .int .i64 co.s]).below hb1 (by simp))
    clear hb1 HST
    go_wp2_with fail
    go_loopw [13] (fun I wr => ∃ (k : Nat) (n : Int), k ≤ 31 ∧ I = .int .i64 k ∧ Cs.needG vs co dx dy (31 - k) k = r ∧ Below w.heap.size w wr ∧ Bk wr w.heap.size 29 #[.int .i64 co.b, .int .i64 n, .int .i64 co.l, .int .i64 co.y, .int .i64 co.w, .int .i64 co.s]) (fun I _ => 31 - (intOf I).toNat)
    case atStart => exact ⟨0, co.n, by omega, rfl, HR0.out, hB1, hk⟩
    case round =>
      clear hB1 hk HR0 HRD HB0
      obtain ⟨k, n, hk, rfl, hF, hB, hK⟩ := hrel
      by_cases hlt : k < 31
      · have hgs : Cs.needG vs co dx dy (31 - k) k = if Cs.misF vs { co with n := (k : Int) } dx dy = 0 then ((k : Int), true) else Cs.needG vs co dx dy (31 - (k + 1)) ((k + 1 : Nat) : Int) := by
          rw [show 31 - k = (31 - (k + 1)) + 1 by omega, Cs.needG, show ((k + 1 : Nat) : Int) = (k : Int) + 1 by omega]
        rw [hgs] at hF
        have hmi := HMI.out (k : Int) (by omega) (by omega)
        obtain ⟨q, hq⟩ : ∃ q, Cs.misF vs { co with n := (k : Int) } dx dy = q := ⟨_, rfl⟩
        rw [hq] at hmi hF
        rw [show cval { co with n := (k : Int) } = .agg #[.int .i64 co.b, .int .i64 (k : Int), .int .i64 co.l, .int .i64 co.y, .int .i64 co.w, .int .i64 co.s] from rfl] at hmi
        have e0 := (hK.cell 0).trans rfl
        have e1 := (hK.cell 1).trans rfl
        have e2 := (hK.cell 2).trans rfl
        have e3 := (hK.cell 3).trans rfl
        have e4 := (hK.cell 4).trans rfl
        have e5 := (hK.cell 5).trans rfl
        have f1 := hK.frozen 1
        have lk := hK.lt
        have hB2 := below_cell (p := ⟨w.heap.size, 1, none⟩) hB (Nat.le_refl _) (.int .i64 (k : Int))
        have hK2 : Bk (wr.setCell ⟨w.heap.size, 1, none⟩ (.int .i64 (k : Int))) w.heap.size 29 #[.int .i64 co.b, .int .i64 (k : Int), .int .i64 co.l, .int .i64 co.y, .int .i64 co.w, .int .i64 co.s] := hK.set 1 _
        have HM := Lib.hid (hmi (wr.setCell ⟨w.heap.size, 1, none⟩ (.int .i64 (k : Int))))
        have HB2 := Lib.hid hB2
        have HK2 := Lib.hid hK2
        clear hmi hq hgs hB hK hB2 hK2
        by_cases h0 : q = 0
        · rw [if_pos h0] at hF
          have HF := Lib.hid hF
          subst h0
          clear hF
          go_wp2_with fail
          refine HM.out.mono ?_
          rintro e w2 ⟨rfl, hb2⟩
          have hk3 := (HK2.out.below hb2 HK2.out.lt)
          have HB3 := Lib.hid (HB2.out.trans (hb2.mono HB2.out.size))
          have k1 := (hk3.cell 1).trans rfl
          have lk3 := hk3.lt
          clear hb2 hk3 e0 e1 e2 e3 e4 e5 f1
          go_wp2_with fail
          go_ret3
          have h := HF.out
          subst h
          exact ⟨rfl, HB3.out⟩
        · rw [if_neg h0] at hF
          have hq0 : (q == 0) = false := beq_eq_false_iff_ne.2 h0
          have HF := Lib.hid hF
          clear hF h0
          go_wp2_with fail
          refine HM.out.mono ?_
          rintro e w2 ⟨rfl, hb2⟩
          have HK3 := Lib.hid (HK2.out.below hb2 HK2.out.lt)
          have HB3 := Lib.hid (HB2.out.trans (hb2.mono HB2.out.size))
          clear hb2 e0 e1 e2 e3 e4 e5 f1
          go_wp2_with fail
          go_roundw
          case rel => exact ⟨k + 1, _, by omega, by go_num, HF.out, HB3.out, HK3.out⟩
          case measure => simp [intOf]; omega
      · obtain rfl : k = 31 := by omega
        have HF := Lib.hid (show ((0 : Int), false) = r from hF)
        have HB := Lib.hid hB
        clear hF hB hK
        go_wp2_with fail
        go_ret3
        have h := HF.out
        subst h
        exact ⟨rfl, HB.out⟩
  · have hr : Cs.needF vs co dx dy = ((0, false), Cs.stepE vs co dx dy) := by rw [Cs.needF, if_pos he]
    rw [hr]
    dsimp only
    have hne : (Cs.stepE vs co dx dy != 0) = true := by simp [he]
    rw [if_neg he] at hst
    obtain ⟨s, hss⟩ : ∃ s, Cs.stepE vs co dx dy = s := ⟨_, rfl⟩
    rw [hss] at hst hne ⊢
    have HST := Lib.hid hst
    clear hst he hr hss
    go_enter Tryz.func45, Tryz.ntmps45
    go_wp2_with fail
    refine (HST.out _ HRD.out).mono ?_
    rintro e w1 ⟨rfl, hb1⟩
    have HB1 := Lib.hid (HB0.out.trans (hb1.mono HB0.out.size))
    clear hb1
    go_wp2_with fail
    go_ret3
    exact ⟨rfl, HB1.out⟩

set_option maxHeartbeats 2000000 in
theorem rReverse_any (co : Cs.Co) (w : World) :
    Calls Tryz.prog 47 #[cval co] w fun e w' => e = .returned (.tuple #[cval (Cs.revF co).1, .int .i64 (Cs.revF co).2]) ∧ Below w.heap.size w w' := by
  have hcc := fun w => rcheckCourse_any co w
  rw [cval_def co] at hcc ⊢
  have hB0 := ((Below.refl w.heap.size w).alloc (Nat.le_refl _) (.cells #[.int .i64 co.b, .int .i64 co.n, .int .i64 co.l, .int .i64 co.y, .int .i64 co.w, .int .i64 co.s] 29)).alloc (by simp) (.cells #[.int .i64 0, .int .i64 0, .int .i64 0, .int .i64 0, .int .i64 0, .int .i64 0] 29)
  have kC := (Bk.new w 29 #[.int .i64 co.b, .int .i64 co.n, .int .i64 co.l, .int .i64 co.y, .int .i64 co.w, .int .i64 co.s]).alloc (.cells #[.int .i64 0, .int .i64 0, .int .i64 0, .int .i64 0, .int .i64 0, .int .i64 0] 29)
  have kZ := Bk.new (w.alloc (.cells #[.int .i64 co.b, .int .i64 co.n, .int .i64 co.l, .int .i64 co.y, .int .i64 co.w, .int .i64 co.s] 29)) 29 #[.int .i64 0, .int .i64 0, .int .i64 0, .int .i64 0, .int .i64 0, .int .i64 0]
  rw [World.size_alloc] at kZ
  have hfin : ∀ W, Bk W (w.heap.size + 1) 29 #[.int .i64 0, .int .i64 0, .int .i64 0, .int .i64 0, .int .i64 0, .int .i64 0] → Below w.heap.size w W → ∀ b n l y a s : Int,
      Bk ((((((W.setCell ⟨w.heap.size + 1, 0, none⟩ (.int .i64 b)).setCell ⟨w.heap.size + 1, 1, none⟩ (.int .i64 n)).setCell ⟨w.heap.size + 1, 2, none⟩ (.int .i64 l)).setCell ⟨w.heap.size + 1, 3, none⟩ (.int .i64 y)).setCell ⟨w.heap.size + 1, 4, none⟩ (.int .i64 a)).setCell ⟨w.heap.size + 1, 5, none⟩ (.int .i64 s)) (w.heap.size + 1) 29 #[.int .i64 b, .int .i64 n, .int .i64 l, .int .i64 y, .int .i64 a, .int .i64 s] ∧
      Below w.heap.size w ((((((W.setCell ⟨w.heap.size + 1, 0, none⟩ (.int .i64 b)).setCell ⟨w.heap.size + 1, 1, none⟩ (.int .i64 n)).setCell ⟨w.heap.size + 1, 2, none⟩ (.int .i64 l)).setCell ⟨w.heap.size + 1, 3, none⟩ (.int .i64 y)).setCell ⟨w.heap.size + 1, 4, none⟩ (.int .i64 a)).setCell ⟨w.heap.size + 1, 5, none⟩ (.int .i64 s)) := fun W h hB b n l y a s =>
    ⟨(((((h.set 0 _).set 1 _).set 2 _).set 3 _).set 4 _).set 5 _, ((((((hB.setCell (p := ⟨w.heap.size + 1, 0, none⟩) (by simp) _).setCell (p := ⟨w.heap.size + 1, 1, none⟩) (by simp) _).setCell (p := ⟨w.heap.size + 1, 2, none⟩) (by simp) _).setCell (p := ⟨w.heap.size + 1, 3, none⟩) (by simp) _).setCell (p := ⟨w.heap.size + 1, 4, none⟩) (by simp) _).setCell (p := ⟨w.heap.size + 1, 5, none⟩) (by simp) _)⟩
  have HFIN := Lib.hid hfin
  have HB0 := Lib.hid hB0
  have KC := Lib.hid kC
  have KZ := Lib.hid kZ
  clear hfin hB0 kC kZ
  rcases hok : Cs.courseOk co with _ | _
  · have hr : Cs.revF co = (⟨0, 0, 0, 0, 0, 0⟩, 1) := by rw [Cs.revF, if_neg (by rw [hok]; simp)]
    rw [hr]
    rw [Cs.courseE_not hok] at hcc
    have HCC := Lib.hid hcc
    clear hcc hr hok
    go_enter Tryz.func47, Tryz.ntmps47
    go_wp2_with fail
    refine (HCC.out _).mono ?_
    rintro e w1 ⟨rfl, hb1⟩
    have kz := KZ.out.below hb1 (by simp)
    have hB1 := HB0.out.trans (hb1.mono HB0.out.size)
    have HR := Lib.hid (HFIN.out _ kz hB1 0 0 0 0 0 0)
    have z0 := (kz.cell 0).trans rfl
    have z1 := (kz.cell 1).trans rfl
    have z2 := (kz.cell 2).trans rfl
    have z3 := (kz.cell 3).trans rfl
    have z4 := (kz.cell 4).trans rfl
    have z5 := (kz.cell 5).trans rfl
    have f0 := kz.frozen 0
    have f1 := kz.frozen 1
    have f2 := kz.frozen 2
    have f3 := kz.frozen 3
    have f4 := kz.frozen 4
    have f5 := kz.frozen 5
    have lz := kz.lt
    clear kz hb1 hB1
    go_wp2_with fail
    exact bodyPost_ret (results_cell_row_tmp rfl _ _ (w.heap.size + 1) 29 #[.int .i64 0, .int .i64 0, .int .i64 0, .int .i64 0, .int .i64 0, .int .i64 0] (0, 0) _ (.int .i64 1) rfl rfl HR.out.1 Tryz.underlying29 rfl (by kernel_rfl)) rfl ⟨rfl, HR.out.2⟩
  · have hr : Cs.revF co = (Cs.turn co, 0) := by rw [Cs.revF, if_pos hok]
    rw [hr]
    rw [Cs.courseE_of hok] at hcc
    obtain ⟨⟨b0, b1⟩, _⟩ := (Cs.courseOk_iff co).1 hok
    have hnm := fun w => rnorm_any (co.b + 180) w
    have htv : cval (Cs.turn co) = .agg #[.int .i64 (Cs.norm (co.b + 180)), .int .i64 co.n, .int .i64 co.l, .int .i64 co.y, .int .i64 co.w, .int .i64 co.s] := rfl
    rw [htv]
    obtain ⟨nb, hnb⟩ : ∃ q, Cs.norm (co.b + 180) = q := ⟨_, rfl⟩
    rw [hnb] at hnm ⊢
    have HCC := Lib.hid hcc
    have HNM := Lib.hid hnm
    clear hcc hr hok hnm htv hnb
    go_enter Tryz.func47, Tryz.ntmps47
    go_wp2_with fail
    refine (HCC.out _).mono ?_
    rintro e w1 ⟨rfl, hb1⟩
    have kz := KZ.out.below hb1 (by simp)
    have kc := KC.out.below hb1 (by simp; omega)
    have hB1 := HB0.out.trans (hb1.mono HB0.out.size)
    have HR := Lib.hid (HFIN.out (w1.setCell ⟨w.heap.size, 0, none⟩ (.int .i64 nb)) (kz.far (by simp) _) (hB1.setCell (p := ⟨w.heap.size, 0, none⟩) (Nat.le_refl _) _) nb co.n co.l co.y co.w co.s)
    have z0 := (kz.cell 0).trans rfl
    have z1 := (kz.cell 1).trans rfl
    have z2 := (kz.cell 2).trans rfl
    have z3 := (kz.cell 3).trans rfl
    have z4 := (kz.cell 4).trans rfl
    have z5 := (kz.cell 5).trans rfl
    have f0 := kz.frozen 0
    have f1 := kz.frozen 1
    have f2 := kz.frozen 2
    have f3 := kz.frozen 3
    have f4 := kz.frozen 4
    have f5 := kz.frozen 5
    have lz := kz.lt
    have c0 := (kc.cell 0).trans rfl
    have c1 := (kc.cell 1).trans rfl
    have c2 := (kc.cell 2).trans rfl
    have c3 := (kc.cell 3).trans rfl
    have c4 := (kc.cell 4).trans rfl
    have c5 := (kc.cell 5).trans rfl
    have g0 := kc.frozen 0
    have lc := kc.lt
    clear kz kc hb1 hB1
    go_wp2_with (go_at_call 16; refine (HNM.out _).mono ?_; rintro e w' ⟨rfl, rfl⟩)
    exact bodyPost_ret (results_cell_row_tmp rfl _ _ (w.heap.size + 1) 29 _ (0, 0) _ (.int .i64 0) rfl rfl HR.out.1 Tryz.underlying29 rfl (by kernel_rfl)) rfl ⟨rfl, HR.out.2⟩

end Go.Proofs.YtncdeogpmodoaaaGreatDoor
