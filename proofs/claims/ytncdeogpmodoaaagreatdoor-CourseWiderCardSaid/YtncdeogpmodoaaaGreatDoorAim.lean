/-
  aimOf, aimEast, northerly, southerly of course; sector of the reference.
-/
import Derived.Test.YtncdeogpmodoaaaGreatDoorDec
set_option linter.unusedVariables false
set_option linter.unusedSimpArgs false
namespace Go.Proofs.YtncdeogpmodoaaaGreatDoor
open Go.RowKit
set_option maxRecDepth 100000

def acell (a : Cs.Aim) : Array Value := #[.int .i64 a.low, .int .i64 a.high, .int .i64 a.near, .int .i64 a.far]
def aval (a : Cs.Aim) : Value := .agg #[.int .i64 a.low, .int .i64 a.high, .int .i64 a.near, .int .i64 a.far]

set_option maxHeartbeats 2000000 in
theorem aimOf_any (A : Option Addr) (c : Nat) (vs : List (Int × Int)) (co : Cs.Co) (w : World) (hR : Rd w w.heap.size 2 A vs.length (vcells vs)) (hl : vs.length ≤ 1000000) (hco : Cs.courseOk co = true) :
    Calls Tryz.prog 66 #[.slice A vs.length c, cval co] w fun e w' => e = .returned (aval (Cs.aimOf vs co)) ∧ Below w.heap.size w w' := by
  obtain ⟨⟨b0, b1⟩, ⟨n0, n1⟩, hl1, hy, hw, hs⟩ := (Cs.courseOk_iff co).1 hco
  obtain ⟨d0, d1⟩ := Cs.dec_range vs co.y
  obtain ⟨m0, m1⟩ := Cs.mid_range vs co
  have hmid : Cs.midF vs co = Cs.norm (co.b + (Cs.dec vs co.y).1 + 90) - 90 := rfl
  have hres : Cs.aimOf vs co = ⟨Cs.midF vs co - co.n, Cs.midF vs co + co.n, co.l * (10000 + co.w - co.s), co.l * (10000 + co.w + co.s)⟩ := rfl
  have hdc := fun w h => declination_any A c vs co.y w h hl
  have hen := fun w => ends_any co.w co.s co.l w hw hs hl1
  obtain ⟨b, n, l, y, a, s⟩ := co
  dsimp only at b0 b1 n0 n1 hl1 hy hw hs d0 d1 hmid hres hdc hen
  rw [hres]
  obtain ⟨⟨de, dk⟩, hde⟩ : ∃ q, Cs.dec vs y = q := ⟨_, rfl⟩
  simp only [hde] at d0 d1 hmid hdc
  have hnm := fun w => norm_any (b + de + 90) w
  obtain ⟨q0, q1⟩ := Cs.norm_range (b + de + 90)
  obtain ⟨nm, hnn⟩ : ∃ q, Cs.norm (b + de + 90) = q := ⟨_, rfl⟩
  simp only [hnn] at hmid hnm q0 q1
  rw [hmid] at m0 m1 ⊢
  obtain ⟨ne, hne⟩ : ∃ q, l * (10000 + a - s) = q := ⟨_, rfl⟩
  obtain ⟨fa, hfa⟩ : ∃ q, l * (10000 + a + s) = q := ⟨_, rfl⟩
  simp only [hne, hfa] at hen ⊢
  have hB0 : Below w.heap.size w ((w.alloc (.cells #[.int .i64 b, .int .i64 n, .int .i64 l, .int .i64 y, .int .i64 a, .int .i64 s] 29)).alloc (.cells #[.int .i64 0, .int .i64 0, .int .i64 0, .int .i64 0] 83)) := ((Below.refl _ _).alloc (Nat.le_refl _) _).alloc (by simp) _
  have kC := (Bk.new w 29 #[.int .i64 b, .int .i64 n, .int .i64 l, .int .i64 y, .int .i64 a, .int .i64 s]).alloc (.cells #[.int .i64 0, .int .i64 0, .int .i64 0, .int .i64 0] 83)
  have kA := Bk.new (w.alloc (.cells #[.int .i64 b, .int .i64 n, .int .i64 l, .int .i64 y, .int .i64 a, .int .i64 s] 29)) 83 #[.int .i64 0, .int .i64 0, .int .i64 0, .int .i64 0]
  rw [World.size_alloc] at kA
  have hR1 := (hR.below hB0 (Nat.le_refl _)).more hB0.size
  have HDC := Lib.hid hdc
  have HEN := Lib.hid hen
  have HNM := Lib.hid hnm
  clear hdc hen hnm hde hnn hne hfa hmid hres hco hy hl1 hw hs
  show Calls Tryz.prog 66 #[.slice A vs.length c, .agg #[.int .i64 b, .int .i64 n, .int .i64 l, .int .i64 y, .int .i64 a, .int .i64 s]] w _
  go_enter Tryz.func66, Tryz.ntmps66
  go_wp2_with fail
  refine (HDC.out _ hR1).mono ?_
  rintro e w1 ⟨rfl, hb1⟩
  have kC1 := kC.below hb1 kC.lt
  have kA1 := kA.below hb1 kA.lt
  have hB1 := hB0.trans (hb1.mono hB0.size)
  clear kC kA hB0 hR1 hb1
  have c0 := (kC1.cell 0).trans rfl
  have c1 := (kC1.cell 1).trans rfl
  have c2 := (kC1.cell 2).trans rfl
  have c4 := (kC1.cell 4).trans rfl
  have c5 := (kC1.cell 5).trans rfl
  have lc := kC1.lt
  go_wp2_with (go_at_call 15; refine (HNM.out _).mono ?_; rintro e w' ⟨rfl, rfl⟩)
  refine (HEN.out _).mono ?_
  rintro e w2 ⟨rfl, hb2⟩
  have kC2 := kC1.below hb2 kC1.lt
  have kA2 := kA1.below hb2 kA1.lt
  have hB2 := hB1.trans (hb2.mono hB1.size)
  clear c0 c1 c2 c4 c5 lc kC1 kA1 hB1 hb2
  have c1 := (kC2.cell 1).trans rfl
  have a0 := (kA2.cell 0).trans rfl
  have a1 := (kA2.cell 1).trans rfl
  have a2 := (kA2.cell 2).trans rfl
  have a3 := (kA2.cell 3).trans rfl
  have f0 := kA2.frozen 0
  have f1 := kA2.frozen 1
  have f2 := kA2.frozen 2
  have f3 := kA2.frozen 3
  have lc := kC2.lt
  have la := kA2.lt
  have hk := (((kA2.set 0 (.int .i64 (nm - 90 - n))).set 1 (.int .i64 (nm - 90 + n))).set 2 (.int .i64 ne)).set 3 (.int .i64 fa)
  have hB3 := (((hB2.setCell (p := ⟨w.heap.size + 1, 0, none⟩) (by simp) (.int .i64 (nm - 90 - n))).setCell (p := ⟨w.heap.size + 1, 1, none⟩) (by simp) (.int .i64 (nm - 90 + n))).setCell (p := ⟨w.heap.size + 1, 2, none⟩) (by simp) (.int .i64 ne)).setCell (p := ⟨w.heap.size + 1, 3, none⟩) (by simp) (.int .i64 fa)
  have REL := Lib.hid (And.intro hk hB3)
  clear hk hB3 kA2 kC2
  go_wp2_with fail
  exact bodyPost_ret (v := .agg #[.int .i64 (nm - 90 - n), .int .i64 (nm - 90 + n), .int .i64 ne, .int .i64 fa]) (results_cell_row rfl _ _ (w.heap.size + 1) 83 _ (0, 0) _ rfl REL.out.1 Tryz.underlying83 rfl (by kernel_rfl)) rfl ⟨rfl, REL.out.2⟩

set_option maxHeartbeats 2000000 in
theorem aimEast_any (A : Option Addr) (c : Nat) (vs : List (Int × Int)) (co : Cs.Co) (dx : Int) (w : World) (hR : Rd w w.heap.size 2 A vs.length (vcells vs)) (hl : vs.length ≤ 1000000) (hco : Cs.courseOk co = true) :
    Calls Tryz.prog 82 #[.slice A vs.length c, cval co, .int .i64 dx] w fun e w' => e = .returned (aval (Cs.aimEast vs co dx)) ∧ Below w.heap.size w w' := by
  obtain ⟨⟨b0, b1⟩, ⟨n0, n1⟩, hl1, hy, hw, hs⟩ := (Cs.courseOk_iff co).1 hco
  have hB0 : Below w.heap.size w ((w.alloc (.cells #[.int .i64 co.b, .int .i64 co.n, .int .i64 co.l, .int .i64 co.y, .int .i64 co.w, .int .i64 co.s] 29)).alloc (.cells #[.int .i64 0, .int .i64 0, .int .i64 0, .int .i64 0] 83)) := ((Below.refl _ _).alloc (Nat.le_refl _) _).alloc (by simp) _
  have kC := (Bk.new w 29 #[.int .i64 co.b, .int .i64 co.n, .int .i64 co.l, .int .i64 co.y, .int .i64 co.w, .int .i64 co.s]).alloc (.cells #[.int .i64 0, .int .i64 0, .int .i64 0, .int .i64 0] 83)
  have kA := Bk.new (w.alloc (.cells #[.int .i64 co.b, .int .i64 co.n, .int .i64 co.l, .int .i64 co.y, .int .i64 co.w, .int .i64 co.s] 29)) 83 #[.int .i64 0, .int .i64 0, .int .i64 0, .int .i64 0]
  rw [World.size_alloc] at kA
  have hfin : ∀ w1, Bk w1 (w.heap.size + 1) 83 #[.int .i64 0, .int .i64 0, .int .i64 0, .int .i64 0] → Below w.heap.size w w1 → ∀ am : Cs.Aim,
      Bk ((((w1.setCell ⟨w.heap.size + 1, 0, none⟩ (.int .i64 am.low)).setCell ⟨w.heap.size + 1, 1, none⟩ (.int .i64 am.high)).setCell ⟨w.heap.size + 1, 2, none⟩ (.int .i64 am.near)).setCell ⟨w.heap.size + 1, 3, none⟩ (.int .i64 am.far)) (w.heap.size + 1) 83 #[.int .i64 am.low, .int .i64 am.high, .int .i64 am.near, .int .i64 am.far] ∧
      Below w.heap.size w ((((w1.setCell ⟨w.heap.size + 1, 0, none⟩ (.int .i64 am.low)).setCell ⟨w.heap.size + 1, 1, none⟩ (.int .i64 am.high)).setCell ⟨w.heap.size + 1, 2, none⟩ (.int .i64 am.near)).setCell ⟨w.heap.size + 1, 3, none⟩ (.int .i64 am.far)) := fun w1 h hB am =>
    ⟨(((h.set 0 _).set 1 _).set 2 _).set 3 _, (((hB.setCell (p := ⟨w.heap.size + 1, 0, none⟩) (by simp) _).setCell (p := ⟨w.heap.size + 1, 1, none⟩) (by simp) _).setCell (p := ⟨w.heap.size + 1, 2, none⟩) (by simp) _).setCell (p := ⟨w.heap.size + 1, 3, none⟩) (by simp) _⟩
  have HFIN := Lib.hid hfin
  by_cases hd : dx < 0
  · have hres : Cs.aimEast vs co dx = Cs.aimOf vs (Cs.turn co) := by rw [Cs.aimEast, if_pos hd]
    rw [hres]
    have hao := fun w h => aimOf_any A c vs (Cs.turn co) w h hl (Cs.turn_ok hco)
    obtain ⟨am, ham⟩ : ∃ q, Cs.aimOf vs (Cs.turn co) = q := ⟨_, rfl⟩
    simp only [ham] at hao ⊢
    have hnm := fun w => norm_any (co.b + 180) w
    have htv : cval (Cs.turn co) = .agg #[.int .i64 (Cs.norm (co.b + 180)), .int .i64 co.n, .int .i64 co.l, .int .i64 co.y, .int .i64 co.w, .int .i64 co.s] := rfl
    rw [htv] at hao
    obtain ⟨b, n, l, y, a, s⟩ := co
    dsimp only at *
    obtain ⟨nb, hnb⟩ : ∃ q, Cs.norm (b + 180) = q := ⟨_, rfl⟩
    simp only [hnb] at hao hnm
    have HAO := Lib.hid hao
    have HNM := Lib.hid hnm
    have c0 := (kC.cell 0).trans rfl
    have c1 := (kC.cell 1).trans rfl
    have c2 := (kC.cell 2).trans rfl
    have c3 := (kC.cell 3).trans rfl
    have c4 := (kC.cell 4).trans rfl
    have c5 := (kC.cell 5).trans rfl
    have f0 := kC.frozen 0
    have lc := kC.lt
    have hB2 : Below w.heap.size w ((w.alloc (.cells #[.int .i64 nb, .int .i64 n, .int .i64 l, .int .i64 y, .int .i64 a, .int .i64 s] 29)).alloc (.cells #[.int .i64 0, .int .i64 0, .int .i64 0, .int .i64 0] 83)) := ((Below.refl _ _).alloc (Nat.le_refl _) _).alloc (by simp) _
    have kA2 := Bk.new (w.alloc (.cells #[.int .i64 nb, .int .i64 n, .int .i64 l, .int .i64 y, .int .i64 a, .int .i64 s] 29)) 83 #[.int .i64 0, .int .i64 0, .int .i64 0, .int .i64 0]
    rw [World.size_alloc] at kA2
    have hR2 := (hR.below hB2 (Nat.le_refl _)).more hB2.size
    have REL := Lib.hid (And.intro hR2 (And.intro kA2 hB2))
    clear hao hnm hnb ham hres htv hco hfin kC kA hB0 hR hR2 kA2 hB2 hy hl1 hw hs
    show Calls Tryz.prog 82 #[.slice A vs.length c, .agg #[.int .i64 b, .int .i64 n, .int .i64 l, .int .i64 y, .int .i64 a, .int .i64 s], .int .i64 dx] w _
    go_enter Tryz.func82, Tryz.ntmps82
    go_wp2_with (go_at_call 15; refine (HNM.out _).mono ?_; rintro e w' ⟨rfl, rfl⟩)
    refine (HAO.out _ REL.out.1).mono ?_
    rintro e w1 ⟨rfl, hb1⟩
    have kA1 := REL.out.2.1.below hb1 REL.out.2.1.lt
    have hB1 := REL.out.2.2.trans (hb1.mono REL.out.2.2.size)
    have hR3 := HFIN.out w1 kA1 hB1 am
    have f0 := kA1.frozen 0
    have f1 := kA1.frozen 1
    have f2 := kA1.frozen 2
    have f3 := kA1.frozen 3
    have a0 := (kA1.cell 0).trans rfl
    have a1 := (kA1.cell 1).trans rfl
    have a2 := (kA1.cell 2).trans rfl
    have a3 := (kA1.cell 3).trans rfl
    have R3 := Lib.hid hR3
    obtain ⟨al, ah, an, af⟩ := am
    unfold aval
    dsimp only at *
    clear hR3 kA1 hB1 c0 c1 c2 c3 c4 c5
    go_wp2_with fail
    exact bodyPost_ret (v := .agg #[.int .i64 al, .int .i64 ah, .int .i64 an, .int .i64 af]) (results_cell_row rfl _ _ (w.heap.size + 1) 83 _ (0, 0) _ rfl R3.out.1 Tryz.underlying83 rfl (by kernel_rfl)) rfl ⟨rfl, R3.out.2⟩
  · have hres : Cs.aimEast vs co dx = Cs.aimOf vs co := by rw [Cs.aimEast, if_neg hd]
    rw [hres]
    have hao := fun w h => aimOf_any A c vs co w h hl hco
    obtain ⟨am, ham⟩ : ∃ q, Cs.aimOf vs co = q := ⟨_, rfl⟩
    simp only [ham] at hao ⊢
    have htv : cval co = .agg #[.int .i64 co.b, .int .i64 co.n, .int .i64 co.l, .int .i64 co.y, .int .i64 co.w, .int .i64 co.s] := rfl
    rw [htv] at hao
    obtain ⟨b, n, l, y, a, s⟩ := co
    dsimp only at *
    have HAO := Lib.hid hao
    have c0 := (kC.cell 0).trans rfl
    have c1 := (kC.cell 1).trans rfl
    have c2 := (kC.cell 2).trans rfl
    have c3 := (kC.cell 3).trans rfl
    have c4 := (kC.cell 4).trans rfl
    have c5 := (kC.cell 5).trans rfl
    have lc := kC.lt
    have hR2 := (hR.below hB0 (Nat.le_refl _)).more hB0.size
    have REL := Lib.hid (And.intro hR2 (And.intro kA hB0))
    clear hao ham hres htv hco hfin kC kA hB0 hR hR2 hy hl1 hw hs
    show Calls Tryz.prog 82 #[.slice A vs.length c, .agg #[.int .i64 b, .int .i64 n, .int .i64 l, .int .i64 y, .int .i64 a, .int .i64 s], .int .i64 dx] w _
    go_enter Tryz.func82, Tryz.ntmps82
    go_wp2_with fail
    refine (HAO.out _ REL.out.1).mono ?_
    rintro e w1 ⟨rfl, hb1⟩
    have kA1 := REL.out.2.1.below hb1 REL.out.2.1.lt
    have hB1 := REL.out.2.2.trans (hb1.mono REL.out.2.2.size)
    have hR3 := HFIN.out w1 kA1 hB1 am
    have f0 := kA1.frozen 0
    have f1 := kA1.frozen 1
    have f2 := kA1.frozen 2
    have f3 := kA1.frozen 3
    have a0 := (kA1.cell 0).trans rfl
    have a1 := (kA1.cell 1).trans rfl
    have a2 := (kA1.cell 2).trans rfl
    have a3 := (kA1.cell 3).trans rfl
    have R3 := Lib.hid hR3
    obtain ⟨al, ah, an, af⟩ := am
    unfold aval
    dsimp only at *
    clear hR3 kA1 hB1 c0 c1 c2 c3 c4 c5
    go_wp2_with fail
    exact bodyPost_ret (v := .agg #[.int .i64 al, .int .i64 ah, .int .i64 an, .int .i64 af]) (results_cell_row rfl _ _ (w.heap.size + 1) 83 _ (0, 0) _ rfl R3.out.1 Tryz.underlying83 rfl (by kernel_rfl)) rfl ⟨rfl, R3.out.2⟩

theorem northerly_any (a : Cs.Aim) (w : World) :
    Calls Tryz.prog 99 #[aval a] w fun e w' => e = .returned (.bool (decide (a.high ≤ 90))) ∧ Below w.heap.size w w' := by
  obtain ⟨al, ah, an, af⟩ := a
  have HB := Lib.hid ((Below.refl w.heap.size w).alloc (Nat.le_refl _) (.cells #[.int .i64 al, .int .i64 ah, .int .i64 an, .int .i64 af] 83))
  show Calls Tryz.prog 99 #[.agg #[.int .i64 al, .int .i64 ah, .int .i64 an, .int .i64 af]] w _
  go_enter Tryz.func99, Tryz.ntmps99
  go_wp2
  go_ret
  exact ⟨rfl, HB.out⟩
theorem southerly_any (a : Cs.Aim) (w : World) :
    Calls Tryz.prog 100 #[aval a] w fun e w' => e = .returned (.bool (decide (90 ≤ a.low))) ∧ Below w.heap.size w w' := by
  obtain ⟨al, ah, an, af⟩ := a
  have HB := Lib.hid ((Below.refl w.heap.size w).alloc (Nat.le_refl _) (.cells #[.int .i64 al, .int .i64 ah, .int .i64 an, .int .i64 af] 83))
  show Calls Tryz.prog 100 #[.agg #[.int .i64 al, .int .i64 ah, .int .i64 an, .int .i64 af]] w _
  go_enter Tryz.func100, Tryz.ntmps100
  go_wp2
  go_ret
  exact ⟨rfl, HB.out⟩

end Go.Proofs.YtncdeogpmodoaaaGreatDoor
