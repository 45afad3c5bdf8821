/-
  What the claims of layer deed need of the texts DIn.
-/
import Derived.Test.YtccikcpcfdjobaaGreatDoorBn33
import Derived.Test.YtccikcpcfdjobaaGreatDoorBn26
set_option linter.unusedVariables false
set_option linter.unusedSimpArgs false
namespace Go.Proofs.YtccikcpcfdjobaaGreatDoor
open Go.RowKit
set_option maxRecDepth 100000
def zero13 : Array Value := #[.int .u8 0, .int .i64 0, .int .i64 0, .int .i64 0, .int .i64 0, .int .i64 0, .int .i64 0, .int .i64 0, .int .i64 0, .int .i64 0, .int .i64 0, .int .i64 0, .int .i64 0]
structure Ib (w : World) (v : Fv) (f : Dd.Fd) (d : Dd.Dr) (c : Dd.Ca) (W : World) : Prop where
 b : Below w.heap.size w W
 kD : Bk W w.heap.size 130 (drcells d).toArray
 kF : Bk W (w.heap.size + 1) 27 #[.slice v.a1 f.st.length v.c1, .slice v.a2 f.li.length v.c2, .slice v.a3 f.pa.length v.c3, .slice v.a4 f.va.length v.c4]
 kR : Bk W (w.heap.size + 1 + 1) 48 zero13
 kC : Bk W (w.heap.size + 1 + 1 + 1) 48 (cacell c).toArray
 rd : FRd W W.heap.size v f
 sn : Sn W
section
variable {w W W' : World} {v : Fv} {f : Dd.Fd} {d : Dd.Dr} {c c' : Dd.Ca}
theorem Ib.next (h : Ib w v f d c W) (hb : Below W.heap.size W W') : Ib w v f d c W' :=
 ⟨h.b.trans (hb.mono h.b.size), h.kD.below hb h.kD.lt, h.kF.below hb h.kF.lt, h.kR.below hb h.kR.lt, h.kC.below hb h.kC.lt, (h.rd.below hb (Nat.le_refl _)).more hb.size, h.sn.step hb⟩
theorem Ib.set (h : Ib w v f d c W) (hF : FRd w w.heap.size v f) (hg : 9 ≤ w.heap.size) (i : Nat) (u : Value) (hc : (cacell c).toArray.setIfInBounds i u = (cacell c').toArray) : Ib w v f d c' (W.setCell ⟨w.heap.size + 1 + 1 + 1, i, none⟩ u) := by
 have hB := h.b.setCell (p := ⟨w.heap.size + 1 + 1 + 1, i, none⟩) (show w.heap.size ≤ w.heap.size + 1 + 1 + 1 by omega) u
 have h3 := h.kC.lt
 refine ⟨hB, h.kD.far (show w.heap.size ≠ w.heap.size + 1 + 1 + 1 by omega) u, h.kF.far (show w.heap.size + 1 ≠ w.heap.size + 1 + 1 + 1 by omega) u, h.kR.far (show w.heap.size + 1 + 1 ≠ w.heap.size + 1 + 1 + 1 by omega) u, hc ▸ h.kC.set i u, (hF.below hB (Nat.le_refl _)).more hB.size, ?_⟩
 exact h.sn.below (C := 9) ((Below.refl _ _).setCell (p := ⟨w.heap.size + 1 + 1 + 1, i, none⟩) (show 9 ≤ w.heap.size + 1 + 1 + 1 by omega) u) (by omega)
theorem Ib.new (hF : FRd w w.heap.size v f) (hS : Sn w) : Ib w v f d d.c ((((w.alloc (.cells (drcells d).toArray 130)).alloc (.cells #[.slice v.a1 f.st.length v.c1, .slice v.a2 f.li.length v.c2, .slice v.a3 f.pa.length v.c3, .slice v.a4 f.va.length v.c4] 27)).alloc (.cells zero13 48)).alloc (.cells (cacell d.c).toArray 48)) := by
 obtain ⟨w1, h1⟩ : ∃ w1, w.alloc (.cells (drcells d).toArray 130) = w1 := ⟨_, rfl⟩
 have z1 : w1.heap.size = w.heap.size + 1 := by rw [← h1]; simp
 have k1 : Bk w1 w.heap.size 130 (drcells d).toArray := by rw [← h1]; exact Bk.new _ _ _
 have b1 : Below w.heap.size w w1 := by rw [← h1]; exact (Below.refl _ _).alloc (Nat.le_refl _) _
 rw [h1]
 obtain ⟨w2, h2⟩ : ∃ w2, w1.alloc (.cells #[.slice v.a1 f.st.length v.c1, .slice v.a2 f.li.length v.c2, .slice v.a3 f.pa.length v.c3, .slice v.a4 f.va.length v.c4] 27) = w2 := ⟨_, rfl⟩
 have z2 : w2.heap.size = w.heap.size + 1 + 1 := by rw [← h2]; simp [z1]
 have k2 : Bk w2 (w.heap.size + 1) 27 #[.slice v.a1 f.st.length v.c1, .slice v.a2 f.li.length v.c2, .slice v.a3 f.pa.length v.c3, .slice v.a4 f.va.length v.c4] := by rw [← h2, ← z1]; exact Bk.new _ _ _
 have b2 : Below w1.heap.size w1 w2 := by rw [← h2]; exact (Below.refl _ _).alloc (Nat.le_refl _) _
 rw [h2]
 obtain ⟨w3, h3⟩ : ∃ w3, w2.alloc (.cells zero13 48) = w3 := ⟨_, rfl⟩
 have z3 : w3.heap.size = w.heap.size + 1 + 1 + 1 := by rw [← h3]; simp [z2]
 have k3 : Bk w3 (w.heap.size + 1 + 1) 48 zero13 := by rw [← h3, ← z2]; exact Bk.new _ _ _
 have b3 : Below w2.heap.size w2 w3 := by rw [← h3]; exact (Below.refl _ _).alloc (Nat.le_refl _) _
 rw [h3]
 have k4 : Bk (w3.alloc (.cells (cacell d.c).toArray 48)) (w.heap.size + 1 + 1 + 1) 48 (cacell d.c).toArray := by rw [← z3]; exact Bk.new _ _ _
 have b4 : Below w3.heap.size w3 (w3.alloc (.cells (cacell d.c).toArray 48)) := (Below.refl _ _).alloc (Nat.le_refl _) _
 have hB := ((b1.trans (b2.mono (by omega))).trans (b3.mono (by omega))).trans (b4.mono (by omega))
 exact ⟨hB, ((k1.below b2 k1.lt).below b3 (by omega)).below b4 (by omega), (k2.below b3 k2.lt).below b4 (by omega), k3.below b4 k3.lt, k4, (hF.below hB (Nat.le_refl _)).more hB.size, hS.step hB⟩
end
def Io (w : World) (r : Int × Dd.Ca) (e : Ending) (w' : World) : Prop := (e = if r.1 = 0 then .returned (caval r.2) else .panicked [pan r.1]) ∧ Below w.heap.size w w'
theorem Io.no {w w' : World} {r : Int × Dd.Ca} {n : Int} (hr : r.1 = n) (hn : n ≠ 0) (hb : Below w.heap.size w w') : Io w r (.panicked [pan n]) w' := ⟨by rw [hr, if_neg hn], hb⟩
set_option maxHeartbeats 8000000 in
theorem in000_any (v : Fv) (f : Dd.Fd) (dl do_ da db : Cs.Bs) (k l a s e cb cn cl cy cw cs y : Int) (w : World) (hF : FRd w w.heap.size v f) (hS : Sn w) (h0 : Dd.fieldE f = 0) (hg : 9 ≤ w.heap.size) (hk : ¬ k = 3) :
  Calls Tryz.prog 104 #[drval ⟨dl, [], da, [], ⟨k, l, 0, a, 0, s, e, ⟨cb, cn, cl, cy, cw, cs⟩⟩⟩, fval v f, .int .i64 y] w (Io w (Dd.inF f y ⟨dl, [], da, [], ⟨k, l, 0, a, 0, s, e, ⟨cb, cn, cl, cy, cw, cs⟩⟩⟩)) := by
 have hL1 := Lib.hid hF.l1
 have hL2 := Lib.hid hF.l2
 obtain ⟨i1, e1⟩ : ∃ i, Dd.idx f.li dl = i := ⟨_, rfl⟩
 obtain ⟨i2, e2⟩ : ∃ i, Dd.idx (f.st.map (·.1)) da = i := ⟨_, rfl⟩
 obtain ⟨i3, e3⟩ : ∃ i, Dd.idx f.li do_ = i := ⟨_, rfl⟩
 obtain ⟨i4, e4⟩ : ∃ i, Dd.idx (f.st.map (·.1)) db = i := ⟨_, rfl⟩
 have E1 := Lib.hid e1
 have E2 := Lib.hid e2
 have E3 := Lib.hid e3
 have E4 := Lib.hid e4
 clear e1 e2 e3 e4
 have hin : Dd.inF f y ⟨dl, [], da, [], ⟨k, l, 0, a, 0, s, e, ⟨cb, cn, cl, cy, cw, cs⟩⟩⟩ = if (i1 < 0 ∨ i2 < 0 ∨ (0 : Int) < 0 ∨ (0 : Int) < 0) then (5, Dd.ca0) else if Dd.callG f ⟨k, i1, 0, i2, 0, s, e, ⟨cb, cn, cl, cy, cw, cs⟩⟩ = 0 then (0, ⟨k, i1, 0, i2, 0, s, e, ⟨cb, cn, cl, cy, cw, cs⟩⟩) else (Dd.callG f ⟨k, i1, 0, i2, 0, s, e, ⟨cb, cn, cl, cy, cw, cs⟩⟩, Dd.ca0) := by
  simp only [Dd.inF, if_neg hk, E1.out, E2.out, E3.out, E4.out, if_true]
 have S0 := Lib.hid (Ib.new (d := ⟨dl, [], da, [], ⟨k, l, 0, a, 0, s, e, ⟨cb, cn, cl, cy, cw, cs⟩⟩⟩) hF hS)
 obtain ⟨R, hR⟩ : ∃ R, Dd.inF f y ⟨dl, [], da, [], ⟨k, l, 0, a, 0, s, e, ⟨cb, cn, cl, cy, cw, cs⟩⟩⟩ = R := ⟨_, rfl⟩
 rw [hR] at hin ⊢
 clear hR
 obtain ⟨G, hG⟩ : ∃ G, Dd.callG f ⟨k, i1, 0, i2, 0, s, e, ⟨cb, cn, cl, cy, cw, cs⟩⟩ = G := ⟨_, rfl⟩
 rw [hG] at hin
 have HIN := Lib.hid hin
 have HG := Lib.hid hG
 have g5 : (k == 3) = false := by simpa using hk
 have HF := Lib.hid hF
 have HGG := Lib.hid hg
 have H00 := Lib.hid h0
 clear hin hG hF hS hg h0 hk
 have dd0 := (S0.out.kD.cell 4).trans rfl
 have dd1 := (S0.out.kD.cell 5).trans rfl
 have dd2 := (S0.out.kD.cell 6).trans rfl
 have dd3 := (S0.out.kD.cell 7).trans rfl
 have dd4 := (S0.out.kD.cell 8).trans rfl
 have dd5 := (S0.out.kD.cell 9).trans rfl
 have dd6 := (S0.out.kD.cell 10).trans rfl
 have dd7 := (S0.out.kD.cell 11).trans rfl
 have dd8 := (S0.out.kD.cell 12).trans rfl
 have dd9 := (S0.out.kD.cell 13).trans rfl
 have dd10 := (S0.out.kD.cell 14).trans rfl
 have dd11 := (S0.out.kD.cell 15).trans rfl
 have dd12 := (S0.out.kD.cell 16).trans rfl
 have T0 := S0
 have x0 := (T0.out.kF.cell 0).trans rfl
 have x1 := (T0.out.kF.cell 1).trans rfl
 have lx := T0.out.kF.lt
 have y0 := (T0.out.kD.cell 0).trans rfl
 have y1 := (T0.out.kD.cell 1).trans rfl
 have y2 := (T0.out.kD.cell 2).trans rfl
 have y3 := (T0.out.kD.cell 3).trans rfl
 have z0 := (T0.out.kC.cell 0).trans rfl
 have z1 := (T0.out.kC.cell 1).trans rfl
 have q1 := T0.out.kC.frozen 1
 have z2 := (T0.out.kC.cell 2).trans rfl
 have q2 := T0.out.kC.frozen 2
 have z3 := (T0.out.kC.cell 3).trans rfl
 have q3 := T0.out.kC.frozen 3
 have z4 := (T0.out.kC.cell 4).trans rfl
 have q4 := T0.out.kC.frozen 4
 have z10 := (T0.out.kC.cell 10).trans rfl
 have q10 := T0.out.kC.frozen 10
 have lz := T0.out.kC.lt
 have ly := T0.out.kD.lt
 simp only [drcells, cacell, List.getElem?_toArray, List.getElem?_cons_succ, List.getElem?_cons_zero] at y0 y1 y2 y3 z0 z1 z2 z3 z4 z10
 simp only [fval_def, drval, drcells]
 go_enter Tryz.func104, Tryz.ntmps104
 go_wp2_with fail
 clear dd0 dd1 dd2 dd3 dd4 dd5 dd6 dd7 dd8 dd9 dd10 dd11 dd12 x0 x1 lx y0 y1 y2 y3 z0 z1 z2 z3 z4 z10 q1 q2 q3 q4 q10 lz ly
 refine (placeTx_any v.a2 v.c2 f.li dl _ S0.out.rd.li hL2.out).mono ?_
 rw [E1.out]
 rintro ee w1 ⟨he, hb⟩
 by_cases hi : i1 < 0
 ·rw [if_pos hi] at he
  subst he
  have HX := Lib.hid (show R.1 = 5 by rw [HIN.out, if_pos (.inl hi)])
  have T1 := Lib.hid (S0.out.next hb)
  clear hb hi
  go_wp2_with fail
  exact ⟨rfl, Io.no HX.out (by decide) T1.out.b⟩
 rw [if_neg hi] at he
 subst he
 have Ni1 := Lib.hid hi
 have T0 := Lib.hid (S0.out.next hb)
 clear hb hi
 have x0 := (T0.out.kF.cell 0).trans rfl
 have x1 := (T0.out.kF.cell 1).trans rfl
 have lx := T0.out.kF.lt
 have y0 := (T0.out.kD.cell 0).trans rfl
 have y1 := (T0.out.kD.cell 1).trans rfl
 have y2 := (T0.out.kD.cell 2).trans rfl
 have y3 := (T0.out.kD.cell 3).trans rfl
 have z0 := (T0.out.kC.cell 0).trans rfl
 have z1 := (T0.out.kC.cell 1).trans rfl
 have q1 := T0.out.kC.frozen 1
 have z2 := (T0.out.kC.cell 2).trans rfl
 have q2 := T0.out.kC.frozen 2
 have z3 := (T0.out.kC.cell 3).trans rfl
 have q3 := T0.out.kC.frozen 3
 have z4 := (T0.out.kC.cell 4).trans rfl
 have q4 := T0.out.kC.frozen 4
 have z10 := (T0.out.kC.cell 10).trans rfl
 have q10 := T0.out.kC.frozen 10
 have lz := T0.out.kC.lt
 have ly := T0.out.kD.lt
 simp only [drcells, cacell, List.getElem?_toArray, List.getElem?_cons_succ, List.getElem?_cons_zero] at y0 y1 y2 y3 z0 z1 z2 z3 z4 z10
 have S1 := Lib.hid (show Ib w v f ⟨dl, [], da, [], ⟨k, l, 0, a, 0, s, e, ⟨cb, cn, cl, cy, cw, cs⟩⟩⟩ ⟨k, i1, 0, a, 0, s, e, ⟨cb, cn, cl, cy, cw, cs⟩⟩ _ from T0.out.set HF.out HGG.out 1 (.int .i64 i1) rfl)
 have Y0 := (S1.out.kD.cell 0).trans rfl
 have Y1 := (S1.out.kD.cell 1).trans rfl
 have Y2 := (S1.out.kD.cell 2).trans rfl
 have Y3 := (S1.out.kD.cell 3).trans rfl
 simp only [drcells, List.getElem?_toArray, List.getElem?_cons_succ, List.getElem?_cons_zero] at Y0 Y1 Y2 Y3
 go_wp2_with fail
 clear x0 x1 lx y0 y1 y2 y3 z0 z1 z2 z3 z4 z10 q1 q2 q3 q4 q10 lz ly Y0 Y1 Y2 Y3
 refine (placeSt_any v.a1 v.c1 f.st da _ S1.out.rd.st hL1.out).mono ?_
 rw [E2.out]
 rintro ee w2 ⟨he, hb⟩
 by_cases hi : i2 < 0
 ·rw [if_pos hi] at he
  subst he
  have HX := Lib.hid (show R.1 = 5 by rw [HIN.out, if_pos (.inr (.inl hi))])
  have T1 := Lib.hid (S1.out.next hb)
  clear hb hi
  go_wp2_with fail
  exact ⟨rfl, Io.no HX.out (by decide) T1.out.b⟩
 rw [if_neg hi] at he
 subst he
 have Ni2 := Lib.hid hi
 have T1 := Lib.hid (S1.out.next hb)
 clear hb hi
 have x0 := (T1.out.kF.cell 0).trans rfl
 have x1 := (T1.out.kF.cell 1).trans rfl
 have lx := T1.out.kF.lt
 have y0 := (T1.out.kD.cell 0).trans rfl
 have y1 := (T1.out.kD.cell 1).trans rfl
 have y2 := (T1.out.kD.cell 2).trans rfl
 have y3 := (T1.out.kD.cell 3).trans rfl
 have z0 := (T1.out.kC.cell 0).trans rfl
 have z1 := (T1.out.kC.cell 1).trans rfl
 have q1 := T1.out.kC.frozen 1
 have z2 := (T1.out.kC.cell 2).trans rfl
 have q2 := T1.out.kC.frozen 2
 have z3 := (T1.out.kC.cell 3).trans rfl
 have q3 := T1.out.kC.frozen 3
 have z4 := (T1.out.kC.cell 4).trans rfl
 have q4 := T1.out.kC.frozen 4
 have z10 := (T1.out.kC.cell 10).trans rfl
 have q10 := T1.out.kC.frozen 10
 have lz := T1.out.kC.lt
 have ly := T1.out.kD.lt
 simp only [drcells, cacell, List.getElem?_toArray, List.getElem?_cons_succ, List.getElem?_cons_zero] at y0 y1 y2 y3 z0 z1 z2 z3 z4 z10
 have S2 := Lib.hid (show Ib w v f ⟨dl, [], da, [], ⟨k, l, 0, a, 0, s, e, ⟨cb, cn, cl, cy, cw, cs⟩⟩⟩ ⟨k, i1, 0, i2, 0, s, e, ⟨cb, cn, cl, cy, cw, cs⟩⟩ _ from T1.out.set HF.out HGG.out 3 (.int .i64 i2) rfl)
 have Y0 := (S2.out.kD.cell 0).trans rfl
 have Y1 := (S2.out.kD.cell 1).trans rfl
 have Y2 := (S2.out.kD.cell 2).trans rfl
 have Y3 := (S2.out.kD.cell 3).trans rfl
 simp only [drcells, List.getElem?_toArray, List.getElem?_cons_succ, List.getElem?_cons_zero] at Y0 Y1 Y2 Y3
 go_wp2_with (first | (refine wpList_load_row rfl 48 (.tmp 7) rfl (w.heap.size + 1 + 1 + 1) rfl 48 _ (0, 0) _ S2.out.kC Tryz.underlying48 rfl (by kernel_rfl) ?_) | (refine wpList_load_row rfl 27 (.tmp 4) rfl (w.heap.size + 1) rfl 27 _ (0, 0) _ S2.out.kF Tryz.underlying27 rfl (by kernel_rfl) ?_))
 clear x0 x1 lx y0 y1 y2 y3 z0 z1 z2 z3 z4 z10 q1 q2 q3 q4 q10 lz ly Y0 Y1 Y2 Y3
 have HNN := Lib.hid (show ¬ (i1 < 0 ∨ i2 < 0 ∨ (0 : Int) < 0 ∨ (0 : Int) < 0) by have := Ni1.out; have := Ni2.out; omega)
 refine (dcheckCall_any v f ⟨k, i1, 0, i2, 0, s, e, ⟨cb, cn, cl, cy, cw, cs⟩⟩ _ S2.out.rd S2.out.sn H00.out).mono ?_
 rw [HG.out]
 rintro ee w3 ⟨rfl, hb⟩
 have S3 := Lib.hid (S2.out.next hb)
 clear hb
 by_cases hz : G = 0
 ·subst hz
  have HR := Lib.hid (show R = (0, ⟨k, i1, 0, i2, 0, s, e, ⟨cb, cn, cl, cy, cw, cs⟩⟩) by rw [HIN.out, if_neg HNN.out, if_pos rfl])
  have N0 := Lib.hid (need_yes 0)
  go_wp2_with fail
  refine (N0.out _).mono ?_
  rintro ee w4 ⟨rfl, hb⟩
  have S4 := Lib.hid (S3.out.next hb)
  clear hb
  go_wp2_with (first | (refine wpList_load_row rfl 48 (.tmp 7) rfl (w.heap.size + 1 + 1 + 1) rfl 48 _ (0, 0) _ S4.out.kC Tryz.underlying48 rfl (by kernel_rfl) ?_) | (refine wpList_store_row rfl 48 (.tmp 6) (.tmp 54) rfl (w.heap.size + 1 + 1) _ rfl rfl 48 _ S4.out.kR (by kernel_rfl) rfl (by kernel_rfl) ?_))
  refine bodyPost_ret (results_cell_row1 rfl _ _ (w.heap.size + 1 + 1) 48 _ (0, 0) _ rfl (S4.out.kR.row (cacell ⟨k, i1, 0, i2, 0, s, e, ⟨cb, cn, cl, cy, cw, cs⟩⟩).toArray) Tryz.underlying48 rfl (by kernel_rfl)) rfl ?_
  exact ⟨by rw [HR.out]; rfl, Below.rowNew S4.out.b (by omega) _⟩
 ·have HR := Lib.hid (show R.1 = G by rw [HIN.out, if_neg HNN.out, if_neg hz])
  have HZ := Lib.hid hz
  have g6 : (G == 0) = false := by simpa using hz
  have N0 := Lib.hid (need_no G)
  clear hz
  go_wp2_with fail
  refine (N0.out _).mono ?_
  rintro ee w4 ⟨rfl, hb⟩
  have S4 := Lib.hid (S3.out.next hb)
  clear hb
  go_wp2_with fail
  exact ⟨rfl, Io.no HR.out HZ.out S4.out.b⟩
set_option maxHeartbeats 8000000 in
theorem in001_any (v : Fv) (f : Dd.Fd) (dl do_ da db : Cs.Bs) (k l a s e cb cn cl cy cw cs y : Int) (w : World) (hF : FRd w w.heap.size v f) (hS : Sn w) (h0 : Dd.fieldE f = 0) (hg : 9 ≤ w.heap.size) :
  Calls Tryz.prog 104 #[drval ⟨dl, [], da, [], ⟨3, l, 0, a, 0, s, e, ⟨cb, cn, cl, cy, cw, cs⟩⟩⟩, fval v f, .int .i64 y] w (Io w (Dd.inF f y ⟨dl, [], da, [], ⟨3, l, 0, a, 0, s, e, ⟨cb, cn, cl, cy, cw, cs⟩⟩⟩)) := by
 have hL1 := Lib.hid hF.l1
 have hL2 := Lib.hid hF.l2
 obtain ⟨i1, e1⟩ : ∃ i, Dd.idx f.li dl = i := ⟨_, rfl⟩
 obtain ⟨i2, e2⟩ : ∃ i, Dd.idx (f.st.map (·.1)) da = i := ⟨_, rfl⟩
 obtain ⟨i3, e3⟩ : ∃ i, Dd.idx f.li do_ = i := ⟨_, rfl⟩
 obtain ⟨i4, e4⟩ : ∃ i, Dd.idx (f.st.map (·.1)) db = i := ⟨_, rfl⟩
 have E1 := Lib.hid e1
 have E2 := Lib.hid e2
 have E3 := Lib.hid e3
 have E4 := Lib.hid e4
 clear e1 e2 e3 e4
 have hin : Dd.inF f y ⟨dl, [], da, [], ⟨3, l, 0, a, 0, s, e, ⟨cb, cn, cl, cy, cw, cs⟩⟩⟩ = if (i1 < 0 ∨ i2 < 0 ∨ (0 : Int) < 0 ∨ (0 : Int) < 0) then (5, Dd.ca0) else if Dd.callG f ⟨3, i1, 0, i2, 0, s, e, ⟨cb, cn, cl, y, cw, cs⟩⟩ = 0 then (0, ⟨3, i1, 0, i2, 0, s, e, ⟨cb, cn, cl, y, cw, cs⟩⟩) else (Dd.callG f ⟨3, i1, 0, i2, 0, s, e, ⟨cb, cn, cl, y, cw, cs⟩⟩, Dd.ca0) := by
  simp only [Dd.inF, E1.out, E2.out, E3.out, E4.out, if_true]
 have S0 := Lib.hid (Ib.new (d := ⟨dl, [], da, [], ⟨3, l, 0, a, 0, s, e, ⟨cb, cn, cl, cy, cw, cs⟩⟩⟩) hF hS)
 obtain ⟨R, hR⟩ : ∃ R, Dd.inF f y ⟨dl, [], da, [], ⟨3, l, 0, a, 0, s, e, ⟨cb, cn, cl, cy, cw, cs⟩⟩⟩ = R := ⟨_, rfl⟩
 rw [hR] at hin ⊢
 clear hR
 obtain ⟨G, hG⟩ : ∃ G, Dd.callG f ⟨3, i1, 0, i2, 0, s, e, ⟨cb, cn, cl, y, cw, cs⟩⟩ = G := ⟨_, rfl⟩
 rw [hG] at hin
 have HIN := Lib.hid hin
 have HG := Lib.hid hG
 have HF := Lib.hid hF
 have HGG := Lib.hid hg
 have H00 := Lib.hid h0
 clear hin hG hF hS hg h0
 have dd0 := (S0.out.kD.cell 4).trans rfl
 have dd1 := (S0.out.kD.cell 5).trans rfl
 have dd2 := (S0.out.kD.cell 6).trans rfl
 have dd3 := (S0.out.kD.cell 7).trans rfl
 have dd4 := (S0.out.kD.cell 8).trans rfl
 have dd5 := (S0.out.kD.cell 9).trans rfl
 have dd6 := (S0.out.kD.cell 10).trans rfl
 have dd7 := (S0.out.kD.cell 11).trans rfl
 have dd8 := (S0.out.kD.cell 12).trans rfl
 have dd9 := (S0.out.kD.cell 13).trans rfl
 have dd10 := (S0.out.kD.cell 14).trans rfl
 have dd11 := (S0.out.kD.cell 15).trans rfl
 have dd12 := (S0.out.kD.cell 16).trans rfl
 have T0 := S0
 have x0 := (T0.out.kF.cell 0).trans rfl
 have x1 := (T0.out.kF.cell 1).trans rfl
 have lx := T0.out.kF.lt
 have y0 := (T0.out.kD.cell 0).trans rfl
 have y1 := (T0.out.kD.cell 1).trans rfl
 have y2 := (T0.out.kD.cell 2).trans rfl
 have y3 := (T0.out.kD.cell 3).trans rfl
 have z0 := (T0.out.kC.cell 0).trans rfl
 have z1 := (T0.out.kC.cell 1).trans rfl
 have q1 := T0.out.kC.frozen 1
 have z2 := (T0.out.kC.cell 2).trans rfl
 have q2 := T0.out.kC.frozen 2
 have z3 := (T0.out.kC.cell 3).trans rfl
 have q3 := T0.out.kC.frozen 3
 have z4 := (T0.out.kC.cell 4).trans rfl
 have q4 := T0.out.kC.frozen 4
 have z10 := (T0.out.kC.cell 10).trans rfl
 have q10 := T0.out.kC.frozen 10
 have lz := T0.out.kC.lt
 have ly := T0.out.kD.lt
 simp only [drcells, cacell, List.getElem?_toArray, List.getElem?_cons_succ, List.getElem?_cons_zero] at y0 y1 y2 y3 z0 z1 z2 z3 z4 z10
 simp only [fval_def, drval, drcells]
 go_enter Tryz.func104, Tryz.ntmps104
 go_wp2_with fail
 clear dd0 dd1 dd2 dd3 dd4 dd5 dd6 dd7 dd8 dd9 dd10 dd11 dd12 x0 x1 lx y0 y1 y2 y3 z0 z1 z2 z3 z4 z10 q1 q2 q3 q4 q10 lz ly
 refine (placeTx_any v.a2 v.c2 f.li dl _ S0.out.rd.li hL2.out).mono ?_
 rw [E1.out]
 rintro ee w1 ⟨he, hb⟩
 by_cases hi : i1 < 0
 ·rw [if_pos hi] at he
  subst he
  have HX := Lib.hid (show R.1 = 5 by rw [HIN.out, if_pos (.inl hi)])
  have T1 := Lib.hid (S0.out.next hb)
  clear hb hi
  go_wp2_with fail
  exact ⟨rfl, Io.no HX.out (by decide) T1.out.b⟩
 rw [if_neg hi] at he
 subst he
 have Ni1 := Lib.hid hi
 have T0 := Lib.hid (S0.out.next hb)
 clear hb hi
 have x0 := (T0.out.kF.cell 0).trans rfl
 have x1 := (T0.out.kF.cell 1).trans rfl
 have lx := T0.out.kF.lt
 have y0 := (T0.out.kD.cell 0).trans rfl
 have y1 := (T0.out.kD.cell 1).trans rfl
 have y2 := (T0.out.kD.cell 2).trans rfl
 have y3 := (T0.out.kD.cell 3).trans rfl
 have z0 := (T0.out.kC.cell 0).trans rfl
 have z1 := (T0.out.kC.cell 1).trans rfl
 have q1 := T0.out.kC.frozen 1
 have z2 := (T0.out.kC.cell 2).trans rfl
 have q2 := T0.out.kC.frozen 2
 have z3 := (T0.out.kC.cell 3).trans rfl
 have q3 := T0.out.kC.frozen 3
 have z4 := (T0.out.kC.cell 4).trans rfl
 have q4 := T0.out.kC.frozen 4
 have z10 := (T0.out.kC.cell 10).trans rfl
 have q10 := T0.out.kC.frozen 10
 have lz := T0.out.kC.lt
 have ly := T0.out.kD.lt
 simp only [drcells, cacell, List.getElem?_toArray, List.getElem?_cons_succ, List.getElem?_cons_zero] at y0 y1 y2 y3 z0 z1 z2 z3 z4 z10
 have S1 := Lib.hid (show Ib w v f ⟨dl, [], da, [], ⟨3, l, 0, a, 0, s, e, ⟨cb, cn, cl, cy, cw, cs⟩⟩⟩ ⟨3, i1, 0, a, 0, s, e, ⟨cb, cn, cl, cy, cw, cs⟩⟩ _ from T0.out.set HF.out HGG.out 1 (.int .i64 i1) rfl)
 have Y0 := (S1.out.kD.cell 0).trans rfl
 have Y1 := (S1.out.kD.cell 1).trans rfl
 have Y2 := (S1.out.kD.cell 2).trans rfl
 have Y3 := (S1.out.kD.cell 3).trans rfl
 simp only [drcells, List.getElem?_toArray, List.getElem?_cons_succ, List.getElem?_cons_zero] at Y0 Y1 Y2 Y3
 go_wp2_with fail
 clear x0 x1 lx y0 y1 y2 y3 z0 z1 z2 z3 z4 z10 q1 q2 q3 q4 q10 lz ly Y0 Y1 Y2 Y3
 refine (placeSt_any v.a1 v.c1 f.st da _ S1.out.rd.st hL1.out).mono ?_
 rw [E2.out]
 rintro ee w2 ⟨he, hb⟩
 by_cases hi : i2 < 0
 ·rw [if_pos hi] at he
  subst he
  have HX := Lib.hid (show R.1 = 5 by rw [HIN.out, if_pos (.inr (.inl hi))])
  have T1 := Lib.hid (S1.out.next hb)
  clear hb hi
  go_wp2_with fail
  exact ⟨rfl, Io.no HX.out (by decide) T1.out.b⟩
 rw [if_neg hi] at he
 subst he
 have Ni2 := Lib.hid hi
 have T1 := Lib.hid (S1.out.next hb)
 clear hb hi
 have x0 := (T1.out.kF.cell 0).trans rfl
 have x1 := (T1.out.kF.cell 1).trans rfl
 have lx := T1.out.kF.lt
 have y0 := (T1.out.kD.cell 0).trans rfl
 have y1 := (T1.out.kD.cell 1).trans rfl
 have y2 := (T1.out.kD.cell 2).trans rfl
 have y3 := (T1.out.kD.cell 3).trans rfl
 have z0 := (T1.out.kC.cell 0).trans rfl
 have z1 := (T1.out.kC.cell 1).trans rfl
 have q1 := T1.out.kC.frozen 1
 have z2 := (T1.out.kC.cell 2).trans rfl
 have q2 := T1.out.kC.frozen 2
 have z3 := (T1.out.kC.cell 3).trans rfl
 have q3 := T1.out.kC.frozen 3
 have z4 := (T1.out.kC.cell 4).trans rfl
 have q4 := T1.out.kC.frozen 4
 have z10 := (T1.out.kC.cell 10).trans rfl
 have q10 := T1.out.kC.frozen 10
 have lz := T1.out.kC.lt
 have ly := T1.out.kD.lt
 simp only [drcells, cacell, List.getElem?_toArray, List.getElem?_cons_succ, List.getElem?_cons_zero] at y0 y1 y2 y3 z0 z1 z2 z3 z4 z10
 have S2 := Lib.hid (show Ib w v f ⟨dl, [], da, [], ⟨3, l, 0, a, 0, s, e, ⟨cb, cn, cl, cy, cw, cs⟩⟩⟩ ⟨3, i1, 0, i2, 0, s, e, ⟨cb, cn, cl, cy, cw, cs⟩⟩ _ from T1.out.set HF.out HGG.out 3 (.int .i64 i2) rfl)
 have Y0 := (S2.out.kD.cell 0).trans rfl
 have Y1 := (S2.out.kD.cell 1).trans rfl
 have Y2 := (S2.out.kD.cell 2).trans rfl
 have Y3 := (S2.out.kD.cell 3).trans rfl
 simp only [drcells, List.getElem?_toArray, List.getElem?_cons_succ, List.getElem?_cons_zero] at Y0 Y1 Y2 Y3
 have S3 := Lib.hid (show Ib w v f ⟨dl, [], da, [], ⟨3, l, 0, a, 0, s, e, ⟨cb, cn, cl, cy, cw, cs⟩⟩⟩ ⟨3, i1, 0, i2, 0, s, e, ⟨cb, cn, cl, y, cw, cs⟩⟩ _ from S2.out.set HF.out HGG.out 10 (.int .i64 y) rfl)
 go_wp2_with (first | (refine wpList_load_row rfl 48 (.tmp 7) rfl (w.heap.size + 1 + 1 + 1) rfl 48 _ (0, 0) _ S3.out.kC Tryz.underlying48 rfl (by kernel_rfl) ?_) | (refine wpList_load_row rfl 27 (.tmp 4) rfl (w.heap.size + 1) rfl 27 _ (0, 0) _ S3.out.kF Tryz.underlying27 rfl (by kernel_rfl) ?_))
 clear x0 x1 lx y0 y1 y2 y3 z0 z1 z2 z3 z4 z10 q1 q2 q3 q4 q10 lz ly Y0 Y1 Y2 Y3
 have HNN := Lib.hid (show ¬ (i1 < 0 ∨ i2 < 0 ∨ (0 : Int) < 0 ∨ (0 : Int) < 0) by have := Ni1.out; have := Ni2.out; omega)
 refine (dcheckCall_any v f ⟨3, i1, 0, i2, 0, s, e, ⟨cb, cn, cl, y, cw, cs⟩⟩ _ S3.out.rd S3.out.sn H00.out).mono ?_
 rw [HG.out]
 rintro ee w4 ⟨rfl, hb⟩
 have S4 := Lib.hid (S3.out.next hb)
 clear hb
 by_cases hz : G = 0
 ·subst hz
  have HR := Lib.hid (show R = (0, ⟨3, i1, 0, i2, 0, s, e, ⟨cb, cn, cl, y, cw, cs⟩⟩) by rw [HIN.out, if_neg HNN.out, if_pos rfl])
  have N0 := Lib.hid (need_yes 0)
  go_wp2_with fail
  refine (N0.out _).mono ?_
  rintro ee w5 ⟨rfl, hb⟩
  have S5 := Lib.hid (S4.out.next hb)
  clear hb
  go_wp2_with (first | (refine wpList_load_row rfl 48 (.tmp 7) rfl (w.heap.size + 1 + 1 + 1) rfl 48 _ (0, 0) _ S5.out.kC Tryz.underlying48 rfl (by kernel_rfl) ?_) | (refine wpList_store_row rfl 48 (.tmp 6) (.tmp 54) rfl (w.heap.size + 1 + 1) _ rfl rfl 48 _ S5.out.kR (by kernel_rfl) rfl (by kernel_rfl) ?_))
  refine bodyPost_ret (results_cell_row1 rfl _ _ (w.heap.size + 1 + 1) 48 _ (0, 0) _ rfl (S5.out.kR.row (cacell ⟨3, i1, 0, i2, 0, s, e, ⟨cb, cn, cl, y, cw, cs⟩⟩).toArray) Tryz.underlying48 rfl (by kernel_rfl)) rfl ?_
  exact ⟨by rw [HR.out]; rfl, Below.rowNew S5.out.b (by omega) _⟩
 ·have HR := Lib.hid (show R.1 = G by rw [HIN.out, if_neg HNN.out, if_neg hz])
  have HZ := Lib.hid hz
  have g6 : (G == 0) = false := by simpa using hz
  have N0 := Lib.hid (need_no G)
  clear hz
  go_wp2_with fail
  refine (N0.out _).mono ?_
  rintro ee w5 ⟨rfl, hb⟩
  have S5 := Lib.hid (S4.out.next hb)
  clear hb
  go_wp2_with fail
  exact ⟨rfl, Io.no HR.out HZ.out S5.out.b⟩
set_option maxHeartbeats 8000000 in
theorem in010_any (v : Fv) (f : Dd.Fd) (dl do_ da db : Cs.Bs) (k l a s e cb cn cl cy cw cs y : Int) (w : World) (hF : FRd w w.heap.size v f) (hS : Sn w) (h0 : Dd.fieldE f = 0) (hg : 9 ≤ w.heap.size) (hbb : ¬ db = []) (hk : ¬ k = 3) :
  Calls Tryz.prog 104 #[drval ⟨dl, [], da, db, ⟨k, l, 0, a, 0, s, e, ⟨cb, cn, cl, cy, cw, cs⟩⟩⟩, fval v f, .int .i64 y] w (Io w (Dd.inF f y ⟨dl, [], da, db, ⟨k, l, 0, a, 0, s, e, ⟨cb, cn, cl, cy, cw, cs⟩⟩⟩)) := by
 have hL1 := Lib.hid hF.l1
 have hL2 := Lib.hid hF.l2
 obtain ⟨i1, e1⟩ : ∃ i, Dd.idx f.li dl = i := ⟨_, rfl⟩
 obtain ⟨i2, e2⟩ : ∃ i, Dd.idx (f.st.map (·.1)) da = i := ⟨_, rfl⟩
 obtain ⟨i3, e3⟩ : ∃ i, Dd.idx f.li do_ = i := ⟨_, rfl⟩
 obtain ⟨i4, e4⟩ : ∃ i, Dd.idx (f.st.map (·.1)) db = i := ⟨_, rfl⟩
 have E1 := Lib.hid e1
 have E2 := Lib.hid e2
 have E3 := Lib.hid e3
 have E4 := Lib.hid e4
 clear e1 e2 e3 e4
 have hin : Dd.inF f y ⟨dl, [], da, db, ⟨k, l, 0, a, 0, s, e, ⟨cb, cn, cl, cy, cw, cs⟩⟩⟩ = if (i1 < 0 ∨ i2 < 0 ∨ (0 : Int) < 0 ∨ i4 < 0) then (5, Dd.ca0) else if Dd.callG f ⟨k, i1, 0, i2, i4, s, e, ⟨cb, cn, cl, cy, cw, cs⟩⟩ = 0 then (0, ⟨k, i1, 0, i2, i4, s, e, ⟨cb, cn, cl, cy, cw, cs⟩⟩) else (Dd.callG f ⟨k, i1, 0, i2, i4, s, e, ⟨cb, cn, cl, cy, cw, cs⟩⟩, Dd.ca0) := by
  simp only [Dd.inF, if_neg hbb, if_neg hk, E1.out, E2.out, E3.out, E4.out, if_true]
 have S0 := Lib.hid (Ib.new (d := ⟨dl, [], da, db, ⟨k, l, 0, a, 0, s, e, ⟨cb, cn, cl, cy, cw, cs⟩⟩⟩) hF hS)
 obtain ⟨R, hR⟩ : ∃ R, Dd.inF f y ⟨dl, [], da, db, ⟨k, l, 0, a, 0, s, e, ⟨cb, cn, cl, cy, cw, cs⟩⟩⟩ = R := ⟨_, rfl⟩
 rw [hR] at hin ⊢
 clear hR
 obtain ⟨G, hG⟩ : ∃ G, Dd.callG f ⟨k, i1, 0, i2, i4, s, e, ⟨cb, cn, cl, cy, cw, cs⟩⟩ = G := ⟨_, rfl⟩
 rw [hG] at hin
 have HIN := Lib.hid hin
 have HG := Lib.hid hG
 have g4 : db.isEmpty = false := by simpa using hbb
 have g5 : (k == 3) = false := by simpa using hk
 have HF := Lib.hid hF
 have HGG := Lib.hid hg
 have H00 := Lib.hid h0
 clear hin hG hF hS hg h0 hbb hk
 have dd0 := (S0.out.kD.cell 4).trans rfl
 have dd1 := (S0.out.kD.cell 5).trans rfl
 have dd2 := (S0.out.kD.cell 6).trans rfl
 have dd3 := (S0.out.kD.cell 7).trans rfl
 have dd4 := (S0.out.kD.cell 8).trans rfl
 have dd5 := (S0.out.kD.cell 9).trans rfl
 have dd6 := (S0.out.kD.cell 10).trans rfl
 have dd7 := (S0.out.kD.cell 11).trans rfl
 have dd8 := (S0.out.kD.cell 12).trans rfl
 have dd9 := (S0.out.kD.cell 13).trans rfl
 have dd10 := (S0.out.kD.cell 14).trans rfl
 have dd11 := (S0.out.kD.cell 15).trans rfl
 have dd12 := (S0.out.kD.cell 16).trans rfl
 have T0 := S0
 have x0 := (T0.out.kF.cell 0).trans rfl
 have x1 := (T0.out.kF.cell 1).trans rfl
 have lx := T0.out.kF.lt
 have y0 := (T0.out.kD.cell 0).trans rfl
 have y1 := (T0.out.kD.cell 1).trans rfl
 have y2 := (T0.out.kD.cell 2).trans rfl
 have y3 := (T0.out.kD.cell 3).trans rfl
 have z0 := (T0.out.kC.cell 0).trans rfl
 have z1 := (T0.out.kC.cell 1).trans rfl
 have q1 := T0.out.kC.frozen 1
 have z2 := (T0.out.kC.cell 2).trans rfl
 have q2 := T0.out.kC.frozen 2
 have z3 := (T0.out.kC.cell 3).trans rfl
 have q3 := T0.out.kC.frozen 3
 have z4 := (T0.out.kC.cell 4).trans rfl
 have q4 := T0.out.kC.frozen 4
 have z10 := (T0.out.kC.cell 10).trans rfl
 have q10 := T0.out.kC.frozen 10
 have lz := T0.out.kC.lt
 have ly := T0.out.kD.lt
 simp only [drcells, cacell, List.getElem?_toArray, List.getElem?_cons_succ, List.getElem?_cons_zero] at y0 y1 y2 y3 z0 z1 z2 z3 z4 z10
 simp only [fval_def, drval, drcells]
 go_enter Tryz.func104, Tryz.ntmps104
 go_wp2_with fail
 clear dd0 dd1 dd2 dd3 dd4 dd5 dd6 dd7 dd8 dd9 dd10 dd11 dd12 x0 x1 lx y0 y1 y2 y3 z0 z1 z2 z3 z4 z10 q1 q2 q3 q4 q10 lz ly
 refine (placeTx_any v.a2 v.c2 f.li dl _ S0.out.rd.li hL2.out).mono ?_
 rw [E1.out]
 rintro ee w1 ⟨he, hb⟩
 by_cases hi : i1 < 0
 ·rw [if_pos hi] at he
  subst he
  have HX := Lib.hid (show R.1 = 5 by rw [HIN.out, if_pos (.inl hi)])
  have T1 := Lib.hid (S0.out.next hb)
  clear hb hi
  go_wp2_with fail
  exact ⟨rfl, Io.no HX.out (by decide) T1.out.b⟩
 rw [if_neg hi] at he
 subst he
 have Ni1 := Lib.hid hi
 have T0 := Lib.hid (S0.out.next hb)
 clear hb hi
 have x0 := (T0.out.kF.cell 0).trans rfl
 have x1 := (T0.out.kF.cell 1).trans rfl
 have lx := T0.out.kF.lt
 have y0 := (T0.out.kD.cell 0).trans rfl
 have y1 := (T0.out.kD.cell 1).trans rfl
 have y2 := (T0.out.kD.cell 2).trans rfl
 have y3 := (T0.out.kD.cell 3).trans rfl
 have z0 := (T0.out.kC.cell 0).trans rfl
 have z1 := (T0.out.kC.cell 1).trans rfl
 have q1 := T0.out.kC.frozen 1
 have z2 := (T0.out.kC.cell 2).trans rfl
 have q2 := T0.out.kC.frozen 2
 have z3 := (T0.out.kC.cell 3).trans rfl
 have q3 := T0.out.kC.frozen 3
 have z4 := (T0.out.kC.cell 4).trans rfl
 have q4 := T0.out.kC.frozen 4
 have z10 := (T0.out.kC.cell 10).trans rfl
 have q10 := T0.out.kC.frozen 10
 have lz := T0.out.kC.lt
 have ly := T0.out.kD.lt
 simp only [drcells, cacell, List.getElem?_toArray, List.getElem?_cons_succ, List.getElem?_cons_zero] at y0 y1 y2 y3 z0 z1 z2 z3 z4 z10
 have S1 := Lib.hid (show Ib w v f ⟨dl, [], da, db, ⟨k, l, 0, a, 0, s, e, ⟨cb, cn, cl, cy, cw, cs⟩⟩⟩ ⟨k, i1, 0, a, 0, s, e, ⟨cb, cn, cl, cy, cw, cs⟩⟩ _ from T0.out.set HF.out HGG.out 1 (.int .i64 i1) rfl)
 have Y0 := (S1.out.kD.cell 0).trans rfl
 have Y1 := (S1.out.kD.cell 1).trans rfl
 have Y2 := (S1.out.kD.cell 2).trans rfl
 have Y3 := (S1.out.kD.cell 3).trans rfl
 simp only [drcells, List.getElem?_toArray, List.getElem?_cons_succ, List.getElem?_cons_zero] at Y0 Y1 Y2 Y3
 go_wp2_with fail
 clear x0 x1 lx y0 y1 y2 y3 z0 z1 z2 z3 z4 z10 q1 q2 q3 q4 q10 lz ly Y0 Y1 Y2 Y3
 refine (placeSt_any v.a1 v.c1 f.st da _ S1.out.rd.st hL1.out).mono ?_
 rw [E2.out]
 rintro ee w2 ⟨he, hb⟩
 by_cases hi : i2 < 0
 ·rw [if_pos hi] at he
  subst he
  have HX := Lib.hid (show R.1 = 5 by rw [HIN.out, if_pos (.inr (.inl hi))])
  have T1 := Lib.hid (S1.out.next hb)
  clear hb hi
  go_wp2_with fail
  exact ⟨rfl, Io.no HX.out (by decide) T1.out.b⟩
 rw [if_neg hi] at he
 subst he
 have Ni2 := Lib.hid hi
 have T1 := Lib.hid (S1.out.next hb)
 clear hb hi
 have x0 := (T1.out.kF.cell 0).trans rfl
 have x1 := (T1.out.kF.cell 1).trans rfl
 have lx := T1.out.kF.lt
 have y0 := (T1.out.kD.cell 0).trans rfl
 have y1 := (T1.out.kD.cell 1).trans rfl
 have y2 := (T1.out.kD.cell 2).trans rfl
 have y3 := (T1.out.kD.cell 3).trans rfl
 have z0 := (T1.out.kC.cell 0).trans rfl
 have z1 := (T1.out.kC.cell 1).trans rfl
 have q1 := T1.out.kC.frozen 1
 have z2 := (T1.out.kC.cell 2).trans rfl
 have q2 := T1.out.kC.frozen 2
 have z3 := (T1.out.kC.cell 3).trans rfl
 have q3 := T1.out.kC.frozen 3
 have z4 := (T1.out.kC.cell 4).trans rfl
 have q4 := T1.out.kC.frozen 4
 have z10 := (T1.out.kC.cell 10).trans rfl
 have q10 := T1.out.kC.frozen 10
 have lz := T1.out.kC.lt
 have ly := T1.out.kD.lt
 simp only [drcells, cacell, List.getElem?_toArray, List.getElem?_cons_succ, List.getElem?_cons_zero] at y0 y1 y2 y3 z0 z1 z2 z3 z4 z10
 have S2 := Lib.hid (show Ib w v f ⟨dl, [], da, db, ⟨k, l, 0, a, 0, s, e, ⟨cb, cn, cl, cy, cw, cs⟩⟩⟩ ⟨k, i1, 0, i2, 0, s, e, ⟨cb, cn, cl, cy, cw, cs⟩⟩ _ from T1.out.set HF.out HGG.out 3 (.int .i64 i2) rfl)
 have Y0 := (S2.out.kD.cell 0).trans rfl
 have Y1 := (S2.out.kD.cell 1).trans rfl
 have Y2 := (S2.out.kD.cell 2).trans rfl
 have Y3 := (S2.out.kD.cell 3).trans rfl
 simp only [drcells, List.getElem?_toArray, List.getElem?_cons_succ, List.getElem?_cons_zero] at Y0 Y1 Y2 Y3
 go_wp2_with fail
 clear x0 x1 lx y0 y1 y2 y3 z0 z1 z2 z3 z4 z10 q1 q2 q3 q4 q10 lz ly Y0 Y1 Y2 Y3
 refine (placeSt_any v.a1 v.c1 f.st db _ S2.out.rd.st hL1.out).mono ?_
 rw [E4.out]
 rintro ee w3 ⟨he, hb⟩
 by_cases hi : i4 < 0
 ·rw [if_pos hi] at he
  subst he
  have HX := Lib.hid (show R.1 = 5 by rw [HIN.out, if_pos (.inr (.inr (.inr hi)))])
  have T1 := Lib.hid (S2.out.next hb)
  clear hb hi
  go_wp2_with fail
  exact ⟨rfl, Io.no HX.out (by decide) T1.out.b⟩
 rw [if_neg hi] at he
 subst he
 have Ni4 := Lib.hid hi
 have T2 := Lib.hid (S2.out.next hb)
 clear hb hi
 have x0 := (T2.out.kF.cell 0).trans rfl
 have x1 := (T2.out.kF.cell 1).trans rfl
 have lx := T2.out.kF.lt
 have y0 := (T2.out.kD.cell 0).trans rfl
 have y1 := (T2.out.kD.cell 1).trans rfl
 have y2 := (T2.out.kD.cell 2).trans rfl
 have y3 := (T2.out.kD.cell 3).trans rfl
 have z0 := (T2.out.kC.cell 0).trans rfl
 have z1 := (T2.out.kC.cell 1).trans rfl
 have q1 := T2.out.kC.frozen 1
 have z2 := (T2.out.kC.cell 2).trans rfl
 have q2 := T2.out.kC.frozen 2
 have z3 := (T2.out.kC.cell 3).trans rfl
 have q3 := T2.out.kC.frozen 3
 have z4 := (T2.out.kC.cell 4).trans rfl
 have q4 := T2.out.kC.frozen 4
 have z10 := (T2.out.kC.cell 10).trans rfl
 have q10 := T2.out.kC.frozen 10
 have lz := T2.out.kC.lt
 have ly := T2.out.kD.lt
 simp only [drcells, cacell, List.getElem?_toArray, List.getElem?_cons_succ, List.getElem?_cons_zero] at y0 y1 y2 y3 z0 z1 z2 z3 z4 z10
 have S3 := Lib.hid (show Ib w v f ⟨dl, [], da, db, ⟨k, l, 0, a, 0, s, e, ⟨cb, cn, cl, cy, cw, cs⟩⟩⟩ ⟨k, i1, 0, i2, i4, s, e, ⟨cb, cn, cl, cy, cw, cs⟩⟩ _ from T2.out.set HF.out HGG.out 4 (.int .i64 i4) rfl)
 have Y0 := (S3.out.kD.cell 0).trans rfl
 have Y1 := (S3.out.kD.cell 1).trans rfl
 have Y2 := (S3.out.kD.cell 2).trans rfl
 have Y3 := (S3.out.kD.cell 3).trans rfl
 simp only [drcells, List.getElem?_toArray, List.getElem?_cons_succ, List.getElem?_cons_zero] at Y0 Y1 Y2 Y3
 go_wp2_with (first | (refine wpList_load_row rfl 48 (.tmp 7) rfl (w.heap.size + 1 + 1 + 1) rfl 48 _ (0, 0) _ S3.out.kC Tryz.underlying48 rfl (by kernel_rfl) ?_) | (refine wpList_load_row rfl 27 (.tmp 4) rfl (w.heap.size + 1) rfl 27 _ (0, 0) _ S3.out.kF Tryz.underlying27 rfl (by kernel_rfl) ?_))
 clear x0 x1 lx y0 y1 y2 y3 z0 z1 z2 z3 z4 z10 q1 q2 q3 q4 q10 lz ly Y0 Y1 Y2 Y3
 have HNN := Lib.hid (show ¬ (i1 < 0 ∨ i2 < 0 ∨ (0 : Int) < 0 ∨ i4 < 0) by have := Ni1.out; have := Ni2.out; have := Ni4.out; omega)
 refine (dcheckCall_any v f ⟨k, i1, 0, i2, i4, s, e, ⟨cb, cn, cl, cy, cw, cs⟩⟩ _ S3.out.rd S3.out.sn H00.out).mono ?_
 rw [HG.out]
 rintro ee w4 ⟨rfl, hb⟩
 have S4 := Lib.hid (S3.out.next hb)
 clear hb
 by_cases hz : G = 0
 ·subst hz
  have HR := Lib.hid (show R = (0, ⟨k, i1, 0, i2, i4, s, e, ⟨cb, cn, cl, cy, cw, cs⟩⟩) by rw [HIN.out, if_neg HNN.out, if_pos rfl])
  have N0 := Lib.hid (need_yes 0)
  go_wp2_with fail
  refine (N0.out _).mono ?_
  rintro ee w5 ⟨rfl, hb⟩
  have S5 := Lib.hid (S4.out.next hb)
  clear hb
  go_wp2_with (first | (refine wpList_load_row rfl 48 (.tmp 7) rfl (w.heap.size + 1 + 1 + 1) rfl 48 _ (0, 0) _ S5.out.kC Tryz.underlying48 rfl (by kernel_rfl) ?_) | (refine wpList_store_row rfl 48 (.tmp 6) (.tmp 54) rfl (w.heap.size + 1 + 1) _ rfl rfl 48 _ S5.out.kR (by kernel_rfl) rfl (by kernel_rfl) ?_))
  refine bodyPost_ret (results_cell_row1 rfl _ _ (w.heap.size + 1 + 1) 48 _ (0, 0) _ rfl (S5.out.kR.row (cacell ⟨k, i1, 0, i2, i4, s, e, ⟨cb, cn, cl, cy, cw, cs⟩⟩).toArray) Tryz.underlying48 rfl (by kernel_rfl)) rfl ?_
  exact ⟨by rw [HR.out]; rfl, Below.rowNew S5.out.b (by omega) _⟩
 ·have HR := Lib.hid (show R.1 = G by rw [HIN.out, if_neg HNN.out, if_neg hz])
  have HZ := Lib.hid hz
  have g6 : (G == 0) = false := by simpa using hz
  have N0 := Lib.hid (need_no G)
  clear hz
  go_wp2_with fail
  refine (N0.out _).mono ?_
  rintro ee w5 ⟨rfl, hb⟩
  have S5 := Lib.hid (S4.out.next hb)
  clear hb
  go_wp2_with fail
  exact ⟨rfl, Io.no HR.out HZ.out S5.out.b⟩
set_option maxHeartbeats 8000000 in
theorem in011_any (v : Fv) (f : Dd.Fd) (dl do_ da db : Cs.Bs) (k l a s e cb cn cl cy cw cs y : Int) (w : World) (hF : FRd w w.heap.size v f) (hS : Sn w) (h0 : Dd.fieldE f = 0) (hg : 9 ≤ w.heap.size) (hbb : ¬ db = []) :
  Calls Tryz.prog 104 #[drval ⟨dl, [], da, db, ⟨3, l, 0, a, 0, s, e, ⟨cb, cn, cl, cy, cw, cs⟩⟩⟩, fval v f, .int .i64 y] w (Io w (Dd.inF f y ⟨dl, [], da, db, ⟨3, l, 0, a, 0, s, e, ⟨cb, cn, cl, cy, cw, cs⟩⟩⟩)) := by
 have hL1 := Lib.hid hF.l1
 have hL2 := Lib.hid hF.l2
 obtain ⟨i1, e1⟩ : ∃ i, Dd.idx f.li dl = i := ⟨_, rfl⟩
 obtain ⟨i2, e2⟩ : ∃ i, Dd.idx (f.st.map (·.1)) da = i := ⟨_, rfl⟩
 obtain ⟨i3, e3⟩ : ∃ i, Dd.idx f.li do_ = i := ⟨_, rfl⟩
 obtain ⟨i4, e4⟩ : ∃ i, Dd.idx (f.st.map (·.1)) db = i := ⟨_, rfl⟩
 have E1 := Lib.hid e1
 have E2 := Lib.hid e2
 have E3 := Lib.hid e3
 have E4 := Lib.hid e4
 clear e1 e2 e3 e4
 have hin : Dd.inF f y ⟨dl, [], da, db, ⟨3, l, 0, a, 0, s, e, ⟨cb, cn, cl, cy, cw, cs⟩⟩⟩ = if (i1 < 0 ∨ i2 < 0 ∨ (0 : Int) < 0 ∨ i4 < 0) then (5, Dd.ca0) else if Dd.callG f ⟨3, i1, 0, i2, i4, s, e, ⟨cb, cn, cl, y, cw, cs⟩⟩ = 0 then (0, ⟨3, i1, 0, i2, i4, s, e, ⟨cb, cn, cl, y, cw, cs⟩⟩) else (Dd.callG f ⟨3, i1, 0, i2, i4, s, e, ⟨cb, cn, cl, y, cw, cs⟩⟩, Dd.ca0) := by
  simp only [Dd.inF, if_neg hbb, E1.out, E2.out, E3.out, E4.out, if_true]
 have S0 := Lib.hid (Ib.new (d := ⟨dl, [], da, db, ⟨3, l, 0, a, 0, s, e, ⟨cb, cn, cl, cy, cw, cs⟩⟩⟩) hF hS)
 obtain ⟨R, hR⟩ : ∃ R, Dd.inF f y ⟨dl, [], da, db, ⟨3, l, 0, a, 0, s, e, ⟨cb, cn, cl, cy, cw, cs⟩⟩⟩ = R := ⟨_, rfl⟩
 rw [hR] at hin ⊢
 clear hR
 obtain ⟨G, hG⟩ : ∃ G, Dd.callG f ⟨3, i1, 0, i2, i4, s, e, ⟨cb, cn, cl, y, cw, cs⟩⟩ = G := ⟨_, rfl⟩
 rw [hG] at hin
 have HIN := Lib.hid hin
 have HG := Lib.hid hG
 have g4 : db.isEmpty = false := by simpa using hbb
 have HF := Lib.hid hF
 have HGG := Lib.hid hg
 have H00 := Lib.hid h0
 clear hin hG hF hS hg h0 hbb
 have dd0 := (S0.out.kD.cell 4).trans rfl
 have dd1 := (S0.out.kD.cell 5).trans rfl
 have dd2 := (S0.out.kD.cell 6).trans rfl
 have dd3 := (S0.out.kD.cell 7).trans rfl
 have dd4 := (S0.out.kD.cell 8).trans rfl
 have dd5 := (S0.out.kD.cell 9).trans rfl
 have dd6 := (S0.out.kD.cell 10).trans rfl
 have dd7 := (S0.out.kD.cell 11).trans rfl
 have dd8 := (S0.out.kD.cell 12).trans rfl
 have dd9 := (S0.out.kD.cell 13).trans rfl
 have dd10 := (S0.out.kD.cell 14).trans rfl
 have dd11 := (S0.out.kD.cell 15).trans rfl
 have dd12 := (S0.out.kD.cell 16).trans rfl
 have T0 := S0
 have x0 := (T0.out.kF.cell 0).trans rfl
 have x1 := (T0.out.kF.cell 1).trans rfl
 have lx := T0.out.kF.lt
 have y0 := (T0.out.kD.cell 0).trans rfl
 have y1 := (T0.out.kD.cell 1).trans rfl
 have y2 := (T0.out.kD.cell 2).trans rfl
 have y3 := (T0.out.kD.cell 3).trans rfl
 have z0 := (T0.out.kC.cell 0).trans rfl
 have z1 := (T0.out.kC.cell 1).trans rfl
 have q1 := T0.out.kC.frozen 1
 have z2 := (T0.out.kC.cell 2).trans rfl
 have q2 := T0.out.kC.frozen 2
 have z3 := (T0.out.kC.cell 3).trans rfl
 have q3 := T0.out.kC.frozen 3
 have z4 := (T0.out.kC.cell 4).trans rfl
 have q4 := T0.out.kC.frozen 4
 have z10 := (T0.out.kC.cell 10).trans rfl
 have q10 := T0.out.kC.frozen 10
 have lz := T0.out.kC.lt
 have ly := T0.out.kD.lt
 simp only [drcells, cacell, List.getElem?_toArray, List.getElem?_cons_succ, List.getElem?_cons_zero] at y0 y1 y2 y3 z0 z1 z2 z3 z4 z10
 simp only [fval_def, drval, drcells]
 go_enter Tryz.func104, Tryz.ntmps104
 go_wp2_with fail
 clear dd0 dd1 dd2 dd3 dd4 dd5 dd6 dd7 dd8 dd9 dd10 dd11 dd12 x0 x1 lx y0 y1 y2 y3 z0 z1 z2 z3 z4 z10 q1 q2 q3 q4 q10 lz ly
 refine (placeTx_any v.a2 v.c2 f.li dl _ S0.out.rd.li hL2.out).mono ?_
 rw [E1.out]
 rintro ee w1 ⟨he, hb⟩
 by_cases hi : i1 < 0
 ·rw [if_pos hi] at he
  subst he
  have HX := Lib.hid (show R.1 = 5 by rw [HIN.out, if_pos (.inl hi)])
  have T1 := Lib.hid (S0.out.next hb)
  clear hb hi
  go_wp2_with fail
  exact ⟨rfl, Io.no HX.out (by decide) T1.out.b⟩
 rw [if_neg hi] at he
 subst he
 have Ni1 := Lib.hid hi
 have T0 := Lib.hid (S0.out.next hb)
 clear hb hi
 have x0 := (T0.out.kF.cell 0).trans rfl
 have x1 := (T0.out.kF.cell 1).trans rfl
 have lx := T0.out.kF.lt
 have y0 := (T0.out.kD.cell 0).trans rfl
 have y1 := (T0.out.kD.cell 1).trans rfl
 have y2 := (T0.out.kD.cell 2).trans rfl
 have y3 := (T0.out.kD.cell 3).trans rfl
 have z0 := (T0.out.kC.cell 0).trans rfl
 have z1 := (T0.out.kC.cell 1).trans rfl
 have q1 := T0.out.kC.frozen 1
 have z2 := (T0.out.kC.cell 2).trans rfl
 have q2 := T0.out.kC.frozen 2
 have z3 := (T0.out.kC.cell 3).trans rfl
 have q3 := T0.out.kC.frozen 3
 have z4 := (T0.out.kC.cell 4).trans rfl
 have q4 := T0.out.kC.frozen 4
 have z10 := (T0.out.kC.cell 10).trans rfl
 have q10 := T0.out.kC.frozen 10
 have lz := T0.out.kC.lt
 have ly := T0.out.kD.lt
 simp only [drcells, cacell, List.getElem?_toArray, List.getElem?_cons_succ, List.getElem?_cons_zero] at y0 y1 y2 y3 z0 z1 z2 z3 z4 z10
 have S1 := Lib.hid (show Ib w v f ⟨dl, [], da, db, ⟨3, l, 0, a, 0, s, e, ⟨cb, cn, cl, cy, cw, cs⟩⟩⟩ ⟨3, i1, 0, a, 0, s, e, ⟨cb, cn, cl, cy, cw, cs⟩⟩ _ from T0.out.set HF.out HGG.out 1 (.int .i64 i1) rfl)
 have Y0 := (S1.out.kD.cell 0).trans rfl
 have Y1 := (S1.out.kD.cell 1).trans rfl
 have Y2 := (S1.out.kD.cell 2).trans rfl
 have Y3 := (S1.out.kD.cell 3).trans rfl
 simp only [drcells, List.getElem?_toArray, List.getElem?_cons_succ, List.getElem?_cons_zero] at Y0 Y1 Y2 Y3
 go_wp2_with fail
 clear x0 x1 lx y0 y1 y2 y3 z0 z1 z2 z3 z4 z10 q1 q2 q3 q4 q10 lz ly Y0 Y1 Y2 Y3
 refine (placeSt_any v.a1 v.c1 f.st da _ S1.out.rd.st hL1.out).mono ?_
 rw [E2.out]
 rintro ee w2 ⟨he, hb⟩
 by_cases hi : i2 < 0
 ·rw [if_pos hi] at he
  subst he
  have HX := Lib.hid (show R.1 = 5 by rw [HIN.out, if_pos (.inr (.inl hi))])
  have T1 := Lib.hid (S1.out.next hb)
  clear hb hi
  go_wp2_with fail
  exact ⟨rfl, Io.no HX.out (by decide) T1.out.b⟩
 rw [if_neg hi] at he
 subst he
 have Ni2 := Lib.hid hi
 have T1 := Lib.hid (S1.out.next hb)
 clear hb hi
 have x0 := (T1.out.kF.cell 0).trans rfl
 have x1 := (T1.out.kF.cell 1).trans rfl
 have lx := T1.out.kF.lt
 have y0 := (T1.out.kD.cell 0).trans rfl
 have y1 := (T1.out.kD.cell 1).trans rfl
 have y2 := (T1.out.kD.cell 2).trans rfl
 have y3 := (T1.out.kD.cell 3).trans rfl
 have z0 := (T1.out.kC.cell 0).trans rfl
 have z1 := (T1.out.kC.cell 1).trans rfl
 have q1 := T1.out.kC.frozen 1
 have z2 := (T1.out.kC.cell 2).trans rfl
 have q2 := T1.out.kC.frozen 2
 have z3 := (T1.out.kC.cell 3).trans rfl
 have q3 := T1.out.kC.frozen 3
 have z4 := (T1.out.kC.cell 4).trans rfl
 have q4 := T1.out.kC.frozen 4
 have z10 := (T1.out.kC.cell 10).trans rfl
 have q10 := T1.out.kC.frozen 10
 have lz := T1.out.kC.lt
 have ly := T1.out.kD.lt
 simp only [drcells, cacell, List.getElem?_toArray, List.getElem?_cons_succ, List.getElem?_cons_zero] at y0 y1 y2 y3 z0 z1 z2 z3 z4 z10
 have S2 := Lib.hid (show Ib w v f ⟨dl, [], da, db, ⟨3, l, 0, a, 0, s, e, ⟨cb, cn, cl, cy, cw, cs⟩⟩⟩ ⟨3, i1, 0, i2, 0, s, e, ⟨cb, cn, cl, cy, cw, cs⟩⟩ _ from T1.out.set HF.out HGG.out 3 (.int .i64 i2) rfl)
 have Y0 := (S2.out.kD.cell 0).trans rfl
 have Y1 := (S2.out.kD.cell 1).trans rfl
 have Y2 := (S2.out.kD.cell 2).trans rfl
 have Y3 := (S2.out.kD.cell 3).trans rfl
 simp only [drcells, List.getElem?_toArray, List.getElem?_cons_succ, List.getElem?_cons_zero] at Y0 Y1 Y2 Y3
 go_wp2_with fail
 clear x0 x1 lx y0 y1 y2 y3 z0 z1 z2 z3 z4 z10 q1 q2 q3 q4 q10 lz ly Y0 Y1 Y2 Y3
 refine (placeSt_any v.a1 v.c1 f.st db _ S2.out.rd.st hL1.out).mono ?_
 rw [E4.out]
 rintro ee w3 ⟨he, hb⟩
 by_cases hi : i4 < 0
 ·rw [if_pos hi] at he
  subst he
  have HX := Lib.hid (show R.1 = 5 by rw [HIN.out, if_pos (.inr (.inr (.inr hi)))])
  have T1 := Lib.hid (S2.out.next hb)
  clear hb hi
  go_wp2_with fail
  exact ⟨rfl, Io.no HX.out (by decide) T1.out.b⟩
 rw [if_neg hi] at he
 subst he
 have Ni4 := Lib.hid hi
 have T2 := Lib.hid (S2.out.next hb)
 clear hb hi
 have x0 := (T2.out.kF.cell 0).trans rfl
 have x1 := (T2.out.kF.cell 1).trans rfl
 have lx := T2.out.kF.lt
 have y0 := (T2.out.kD.cell 0).trans rfl
 have y1 := (T2.out.kD.cell 1).trans rfl
 have y2 := (T2.out.kD.cell 2).trans rfl
 have y3 := (T2.out.kD.cell 3).trans rfl
 have z0 := (T2.out.kC.cell 0).trans rfl
 have z1 := (T2.out.kC.cell 1).trans rfl
 have q1 := T2.out.kC.frozen 1
 have z2 := (T2.out.kC.cell 2).trans rfl
 have q2 := T2.out.kC.frozen 2
 have z3 := (T2.out.kC.cell 3).trans rfl
 have q3 := T2.out.kC.frozen 3
 have z4 := (T2.out.kC.cell 4).trans rfl
 have q4 := T2.out.kC.frozen 4
 have z10 := (T2.out.kC.cell 10).trans rfl
 have q10 := T2.out.kC.frozen 10
 have lz := T2.out.kC.lt
 have ly := T2.out.kD.lt
 simp only [drcells, cacell, List.getElem?_toArray, List.getElem?_cons_succ, List.getElem?_cons_zero] at y0 y1 y2 y3 z0 z1 z2 z3 z4 z10
 have S3 := Lib.hid (show Ib w v f ⟨dl, [], da, db, ⟨3, l, 0, a, 0, s, e, ⟨cb, cn, cl, cy, cw, cs⟩⟩⟩ ⟨3, i1, 0, i2, i4, s, e, ⟨cb, cn, cl, cy, cw, cs⟩⟩ _ from T2.out.set HF.out HGG.out 4 (.int .i64 i4) rfl)
 have Y0 := (S3.out.kD.cell 0).trans rfl
 have Y1 := (S3.out.kD.cell 1).trans rfl
 have Y2 := (S3.out.kD.cell 2).trans rfl
 have Y3 := (S3.out.kD.cell 3).trans rfl
 simp only [drcells, List.getElem?_toArray, List.getElem?_cons_succ, List.getElem?_cons_zero] at Y0 Y1 Y2 Y3
 have S4 := Lib.hid (show Ib w v f ⟨dl, [], da, db, ⟨3, l, 0, a, 0, s, e, ⟨cb, cn, cl, cy, cw, cs⟩⟩⟩ ⟨3, i1, 0, i2, i4, s, e, ⟨cb, cn, cl, y, cw, cs⟩⟩ _ from S3.out.set HF.out HGG.out 10 (.int .i64 y) rfl)
 go_wp2_with (first | (refine wpList_load_row rfl 48 (.tmp 7) rfl (w.heap.size + 1 + 1 + 1) rfl 48 _ (0, 0) _ S4.out.kC Tryz.underlying48 rfl (by kernel_rfl) ?_) | (refine wpList_load_row rfl 27 (.tmp 4) rfl (w.heap.size + 1) rfl 27 _ (0, 0) _ S4.out.kF Tryz.underlying27 rfl (by kernel_rfl) ?_))
 clear x0 x1 lx y0 y1 y2 y3 z0 z1 z2 z3 z4 z10 q1 q2 q3 q4 q10 lz ly Y0 Y1 Y2 Y3
 have HNN := Lib.hid (show ¬ (i1 < 0 ∨ i2 < 0 ∨ (0 : Int) < 0 ∨ i4 < 0) by have := Ni1.out; have := Ni2.out; have := Ni4.out; omega)
 refine (dcheckCall_any v f ⟨3, i1, 0, i2, i4, s, e, ⟨cb, cn, cl, y, cw, cs⟩⟩ _ S4.out.rd S4.out.sn H00.out).mono ?_
 rw [HG.out]
 rintro ee w5 ⟨rfl, hb⟩
 have S5 := Lib.hid (S4.out.next hb)
 clear hb
 by_cases hz : G = 0
 ·subst hz
  have HR := Lib.hid (show R = (0, ⟨3, i1, 0, i2, i4, s, e, ⟨cb, cn, cl, y, cw, cs⟩⟩) by rw [HIN.out, if_neg HNN.out, if_pos rfl])
  have N0 := Lib.hid (need_yes 0)
  go_wp2_with fail
  refine (N0.out _).mono ?_
  rintro ee w6 ⟨rfl, hb⟩
  have S6 := Lib.hid (S5.out.next hb)
  clear hb
  go_wp2_with (first | (refine wpList_load_row rfl 48 (.tmp 7) rfl (w.heap.size + 1 + 1 + 1) rfl 48 _ (0, 0) _ S6.out.kC Tryz.underlying48 rfl (by kernel_rfl) ?_) | (refine wpList_store_row rfl 48 (.tmp 6) (.tmp 54) rfl (w.heap.size + 1 + 1) _ rfl rfl 48 _ S6.out.kR (by kernel_rfl) rfl (by kernel_rfl) ?_))
  refine bodyPost_ret (results_cell_row1 rfl _ _ (w.heap.size + 1 + 1) 48 _ (0, 0) _ rfl (S6.out.kR.row (cacell ⟨3, i1, 0, i2, i4, s, e, ⟨cb, cn, cl, y, cw, cs⟩⟩).toArray) Tryz.underlying48 rfl (by kernel_rfl)) rfl ?_
  exact ⟨by rw [HR.out]; rfl, Below.rowNew S6.out.b (by omega) _⟩
 ·have HR := Lib.hid (show R.1 = G by rw [HIN.out, if_neg HNN.out, if_neg hz])
  have HZ := Lib.hid hz
  have g6 : (G == 0) = false := by simpa using hz
  have N0 := Lib.hid (need_no G)
  clear hz
  go_wp2_with fail
  refine (N0.out _).mono ?_
  rintro ee w6 ⟨rfl, hb⟩
  have S6 := Lib.hid (S5.out.next hb)
  clear hb
  go_wp2_with fail
  exact ⟨rfl, Io.no HR.out HZ.out S6.out.b⟩
set_option maxHeartbeats 8000000 in
theorem in100_any (v : Fv) (f : Dd.Fd) (dl do_ da db : Cs.Bs) (k l a s e cb cn cl cy cw cs y : Int) (w : World) (hF : FRd w w.heap.size v f) (hS : Sn w) (h0 : Dd.fieldE f = 0) (hg : 9 ≤ w.heap.size) (ho : ¬ do_ = []) (hk : ¬ k = 3) :
  Calls Tryz.prog 104 #[drval ⟨dl, do_, da, [], ⟨k, l, 0, a, 0, s, e, ⟨cb, cn, cl, cy, cw, cs⟩⟩⟩, fval v f, .int .i64 y] w (Io w (Dd.inF f y ⟨dl, do_, da, [], ⟨k, l, 0, a, 0, s, e, ⟨cb, cn, cl, cy, cw, cs⟩⟩⟩)) := by
 have hL1 := Lib.hid hF.l1
 have hL2 := Lib.hid hF.l2
 obtain ⟨i1, e1⟩ : ∃ i, Dd.idx f.li dl = i := ⟨_, rfl⟩
 obtain ⟨i2, e2⟩ : ∃ i, Dd.idx (f.st.map (·.1)) da = i := ⟨_, rfl⟩
 obtain ⟨i3, e3⟩ : ∃ i, Dd.idx f.li do_ = i := ⟨_, rfl⟩
 obtain ⟨i4, e4⟩ : ∃ i, Dd.idx (f.st.map (·.1)) db = i := ⟨_, rfl⟩
 have E1 := Lib.hid e1
 have E2 := Lib.hid e2
 have E3 := Lib.hid e3
 have E4 := Lib.hid e4
 clear e1 e2 e3 e4
 have hin : Dd.inF f y ⟨dl, do_, da, [], ⟨k, l, 0, a, 0, s, e, ⟨cb, cn, cl, cy, cw, cs⟩⟩⟩ = if (i1 < 0 ∨ i2 < 0 ∨ i3 < 0 ∨ (0 : Int) < 0) then (5, Dd.ca0) else if Dd.callG f ⟨k, i1, i3, i2, 0, s, e, ⟨cb, cn, cl, cy, cw, cs⟩⟩ = 0 then (0, ⟨k, i1, i3, i2, 0, s, e, ⟨cb, cn, cl, cy, cw, cs⟩⟩) else (Dd.callG f ⟨k, i1, i3, i2, 0, s, e, ⟨cb, cn, cl, cy, cw, cs⟩⟩, Dd.ca0) := by
  simp only [Dd.inF, if_neg ho, if_neg hk, E1.out, E2.out, E3.out, E4.out, if_true]
 have S0 := Lib.hid (Ib.new (d := ⟨dl, do_, da, [], ⟨k, l, 0, a, 0, s, e, ⟨cb, cn, cl, cy, cw, cs⟩⟩⟩) hF hS)
 obtain ⟨R, hR⟩ : ∃ R, Dd.inF f y ⟨dl, do_, da, [], ⟨k, l, 0, a, 0, s, e, ⟨cb, cn, cl, cy, cw, cs⟩⟩⟩ = R := ⟨_, rfl⟩
 rw [hR] at hin ⊢
 clear hR
 obtain ⟨G, hG⟩ : ∃ G, Dd.callG f ⟨k, i1, i3, i2, 0, s, e, ⟨cb, cn, cl, cy, cw, cs⟩⟩ = G := ⟨_, rfl⟩
 rw [hG] at hin
 have HIN := Lib.hid hin
 have HG := Lib.hid hG
 have g3 : do_.isEmpty = false := by simpa using ho
 have g5 : (k == 3) = false := by simpa using hk
 have HF := Lib.hid hF
 have HGG := Lib.hid hg
 have H00 := Lib.hid h0
 clear hin hG hF hS hg h0 ho hk
 have dd0 := (S0.out.kD.cell 4).trans rfl
 have dd1 := (S0.out.kD.cell 5).trans rfl
 have dd2 := (S0.out.kD.cell 6).trans rfl
 have dd3 := (S0.out.kD.cell 7).trans rfl
 have dd4 := (S0.out.kD.cell 8).trans rfl
 have dd5 := (S0.out.kD.cell 9).trans rfl
 have dd6 := (S0.out.kD.cell 10).trans rfl
 have dd7 := (S0.out.kD.cell 11).trans rfl
 have dd8 := (S0.out.kD.cell 12).trans rfl
 have dd9 := (S0.out.kD.cell 13).trans rfl
 have dd10 := (S0.out.kD.cell 14).trans rfl
 have dd11 := (S0.out.kD.cell 15).trans rfl
 have dd12 := (S0.out.kD.cell 16).trans rfl
 have T0 := S0
 have x0 := (T0.out.kF.cell 0).trans rfl
 have x1 := (T0.out.kF.cell 1).trans rfl
 have lx := T0.out.kF.lt
 have y0 := (T0.out.kD.cell 0).trans rfl
 have y1 := (T0.out.kD.cell 1).trans rfl
 have y2 := (T0.out.kD.cell 2).trans rfl
 have y3 := (T0.out.kD.cell 3).trans rfl
 have z0 := (T0.out.kC.cell 0).trans rfl
 have z1 := (T0.out.kC.cell 1).trans rfl
 have q1 := T0.out.kC.frozen 1
 have z2 := (T0.out.kC.cell 2).trans rfl
 have q2 := T0.out.kC.frozen 2
 have z3 := (T0.out.kC.cell 3).trans rfl
 have q3 := T0.out.kC.frozen 3
 have z4 := (T0.out.kC.cell 4).trans rfl
 have q4 := T0.out.kC.frozen 4
 have z10 := (T0.out.kC.cell 10).trans rfl
 have q10 := T0.out.kC.frozen 10
 have lz := T0.out.kC.lt
 have ly := T0.out.kD.lt
 simp only [drcells, cacell, List.getElem?_toArray, List.getElem?_cons_succ, List.getElem?_cons_zero] at y0 y1 y2 y3 z0 z1 z2 z3 z4 z10
 simp only [fval_def, drval, drcells]
 go_enter Tryz.func104, Tryz.ntmps104
 go_wp2_with fail
 clear dd0 dd1 dd2 dd3 dd4 dd5 dd6 dd7 dd8 dd9 dd10 dd11 dd12 x0 x1 lx y0 y1 y2 y3 z0 z1 z2 z3 z4 z10 q1 q2 q3 q4 q10 lz ly
 refine (placeTx_any v.a2 v.c2 f.li dl _ S0.out.rd.li hL2.out).mono ?_
 rw [E1.out]
 rintro ee w1 ⟨he, hb⟩
 by_cases hi : i1 < 0
 ·rw [if_pos hi] at he
  subst he
  have HX := Lib.hid (show R.1 = 5 by rw [HIN.out, if_pos (.inl hi)])
  have T1 := Lib.hid (S0.out.next hb)
  clear hb hi
  go_wp2_with fail
  exact ⟨rfl, Io.no HX.out (by decide) T1.out.b⟩
 rw [if_neg hi] at he
 subst he
 have Ni1 := Lib.hid hi
 have T0 := Lib.hid (S0.out.next hb)
 clear hb hi
 have x0 := (T0.out.kF.cell 0).trans rfl
 have x1 := (T0.out.kF.cell 1).trans rfl
 have lx := T0.out.kF.lt
 have y0 := (T0.out.kD.cell 0).trans rfl
 have y1 := (T0.out.kD.cell 1).trans rfl
 have y2 := (T0.out.kD.cell 2).trans rfl
 have y3 := (T0.out.kD.cell 3).trans rfl
 have z0 := (T0.out.kC.cell 0).trans rfl
 have z1 := (T0.out.kC.cell 1).trans rfl
 have q1 := T0.out.kC.frozen 1
 have z2 := (T0.out.kC.cell 2).trans rfl
 have q2 := T0.out.kC.frozen 2
 have z3 := (T0.out.kC.cell 3).trans rfl
 have q3 := T0.out.kC.frozen 3
 have z4 := (T0.out.kC.cell 4).trans rfl
 have q4 := T0.out.kC.frozen 4
 have z10 := (T0.out.kC.cell 10).trans rfl
 have q10 := T0.out.kC.frozen 10
 have lz := T0.out.kC.lt
 have ly := T0.out.kD.lt
 simp only [drcells, cacell, List.getElem?_toArray, List.getElem?_cons_succ, List.getElem?_cons_zero] at y0 y1 y2 y3 z0 z1 z2 z3 z4 z10
 have S1 := Lib.hid (show Ib w v f ⟨dl, do_, da, [], ⟨k, l, 0, a, 0, s, e, ⟨cb, cn, cl, cy, cw, cs⟩⟩⟩ ⟨k, i1, 0, a, 0, s, e, ⟨cb, cn, cl, cy, cw, cs⟩⟩ _ from T0.out.set HF.out HGG.out 1 (.int .i64 i1) rfl)
 have Y0 := (S1.out.kD.cell 0).trans rfl
 have Y1 := (S1.out.kD.cell 1).trans rfl
 have Y2 := (S1.out.kD.cell 2).trans rfl
 have Y3 := (S1.out.kD.cell 3).trans rfl
 simp only [drcells, List.getElem?_toArray, List.getElem?_cons_succ, List.getElem?_cons_zero] at Y0 Y1 Y2 Y3
 go_wp2_with fail
 clear x0 x1 lx y0 y1 y2 y3 z0 z1 z2 z3 z4 z10 q1 q2 q3 q4 q10 lz ly Y0 Y1 Y2 Y3
 refine (placeSt_any v.a1 v.c1 f.st da _ S1.out.rd.st hL1.out).mono ?_
 rw [E2.out]
 rintro ee w2 ⟨he, hb⟩
 by_cases hi : i2 < 0
 ·rw [if_pos hi] at he
  subst he
  have HX := Lib.hid (show R.1 = 5 by rw [HIN.out, if_pos (.inr (.inl hi))])
  have T1 := Lib.hid (S1.out.next hb)
  clear hb hi
  go_wp2_with fail
  exact ⟨rfl, Io.no HX.out (by decide) T1.out.b⟩
 rw [if_neg hi] at he
 subst he
 have Ni2 := Lib.hid hi
 have T1 := Lib.hid (S1.out.next hb)
 clear hb hi
 have x0 := (T1.out.kF.cell 0).trans rfl
 have x1 := (T1.out.kF.cell 1).trans rfl
 have lx := T1.out.kF.lt
 have y0 := (T1.out.kD.cell 0).trans rfl
 have y1 := (T1.out.kD.cell 1).trans rfl
 have y2 := (T1.out.kD.cell 2).trans rfl
 have y3 := (T1.out.kD.cell 3).trans rfl
 have z0 := (T1.out.kC.cell 0).trans rfl
 have z1 := (T1.out.kC.cell 1).trans rfl
 have q1 := T1.out.kC.frozen 1
 have z2 := (T1.out.kC.cell 2).trans rfl
 have q2 := T1.out.kC.frozen 2
 have z3 := (T1.out.kC.cell 3).trans rfl
 have q3 := T1.out.kC.frozen 3
 have z4 := (T1.out.kC.cell 4).trans rfl
 have q4 := T1.out.kC.frozen 4
 have z10 := (T1.out.kC.cell 10).trans rfl
 have q10 := T1.out.kC.frozen 10
 have lz := T1.out.kC.lt
 have ly := T1.out.kD.lt
 simp only [drcells, cacell, List.getElem?_toArray, List.getElem?_cons_succ, List.getElem?_cons_zero] at y0 y1 y2 y3 z0 z1 z2 z3 z4 z10
 have S2 := Lib.hid (show Ib w v f ⟨dl, do_, da, [], ⟨k, l, 0, a, 0, s, e, ⟨cb, cn, cl, cy, cw, cs⟩⟩⟩ ⟨k, i1, 0, i2, 0, s, e, ⟨cb, cn, cl, cy, cw, cs⟩⟩ _ from T1.out.set HF.out HGG.out 3 (.int .i64 i2) rfl)
 have Y0 := (S2.out.kD.cell 0).trans rfl
 have Y1 := (S2.out.kD.cell 1).trans rfl
 have Y2 := (S2.out.kD.cell 2).trans rfl
 have Y3 := (S2.out.kD.cell 3).trans rfl
 simp only [drcells, List.getElem?_toArray, List.getElem?_cons_succ, List.getElem?_cons_zero] at Y0 Y1 Y2 Y3
 go_wp2_with fail
 clear x0 x1 lx y0 y1 y2 y3 z0 z1 z2 z3 z4 z10 q1 q2 q3 q4 q10 lz ly Y0 Y1 Y2 Y3
 refine (placeTx_any v.a2 v.c2 f.li do_ _ S2.out.rd.li hL2.out).mono ?_
 rw [E3.out]
 rintro ee w3 ⟨he, hb⟩
 by_cases hi : i3 < 0
 ·rw [if_pos hi] at he
  subst he
  have HX := Lib.hid (show R.1 = 5 by rw [HIN.out, if_pos (.inr (.inr (.inl hi)))])
  have T1 := Lib.hid (S2.out.next hb)
  clear hb hi
  go_wp2_with fail
  exact ⟨rfl, Io.no HX.out (by decide) T1.out.b⟩
 rw [if_neg hi] at he
 subst he
 have Ni3 := Lib.hid hi
 have T2 := Lib.hid (S2.out.next hb)
 clear hb hi
 have x0 := (T2.out.kF.cell 0).trans rfl
 have x1 := (T2.out.kF.cell 1).trans rfl
 have lx := T2.out.kF.lt
 have y0 := (T2.out.kD.cell 0).trans rfl
 have y1 := (T2.out.kD.cell 1).trans rfl
 have y2 := (T2.out.kD.cell 2).trans rfl
 have y3 := (T2.out.kD.cell 3).trans rfl
 have z0 := (T2.out.kC.cell 0).trans rfl
 have z1 := (T2.out.kC.cell 1).trans rfl
 have q1 := T2.out.kC.frozen 1
 have z2 := (T2.out.kC.cell 2).trans rfl
 have q2 := T2.out.kC.frozen 2
 have z3 := (T2.out.kC.cell 3).trans rfl
 have q3 := T2.out.kC.frozen 3
 have z4 := (T2.out.kC.cell 4).trans rfl
 have q4 := T2.out.kC.frozen 4
 have z10 := (T2.out.kC.cell 10).trans rfl
 have q10 := T2.out.kC.frozen 10
 have lz := T2.out.kC.lt
 have ly := T2.out.kD.lt
 simp only [drcells, cacell, List.getElem?_toArray, List.getElem?_cons_succ, List.getElem?_cons_zero] at y0 y1 y2 y3 z0 z1 z2 z3 z4 z10
 have S3 := Lib.hid (show Ib w v f ⟨dl, do_, da, [], ⟨k, l, 0, a, 0, s, e, ⟨cb, cn, cl, cy, cw, cs⟩⟩⟩ ⟨k, i1, i3, i2, 0, s, e, ⟨cb, cn, cl, cy, cw, cs⟩⟩ _ from T2.out.set HF.out HGG.out 2 (.int .i64 i3) rfl)
 have Y0 := (S3.out.kD.cell 0).trans rfl
 have Y1 := (S3.out.kD.cell 1).trans rfl
 have Y2 := (S3.out.kD.cell 2).trans rfl
 have Y3 := (S3.out.kD.cell 3).trans rfl
 simp only [drcells, List.getElem?_toArray, List.getElem?_cons_succ, List.getElem?_cons_zero] at Y0 Y1 Y2 Y3
 go_wp2_with (first | (refine wpList_load_row rfl 48 (.tmp 7) rfl (w.heap.size + 1 + 1 + 1) rfl 48 _ (0, 0) _ S3.out.kC Tryz.underlying48 rfl (by kernel_rfl) ?_) | (refine wpList_load_row rfl 27 (.tmp 4) rfl (w.heap.size + 1) rfl 27 _ (0, 0) _ S3.out.kF Tryz.underlying27 rfl (by kernel_rfl) ?_))
 clear x0 x1 lx y0 y1 y2 y3 z0 z1 z2 z3 z4 z10 q1 q2 q3 q4 q10 lz ly Y0 Y1 Y2 Y3
 have HNN := Lib.hid (show ¬ (i1 < 0 ∨ i2 < 0 ∨ i3 < 0 ∨ (0 : Int) < 0) by have := Ni1.out; have := Ni2.out; have := Ni3.out; omega)
 refine (dcheckCall_any v f ⟨k, i1, i3, i2, 0, s, e, ⟨cb, cn, cl, cy, cw, cs⟩⟩ _ S3.out.rd S3.out.sn H00.out).mono ?_
 rw [HG.out]
 rintro ee w4 ⟨rfl, hb⟩
 have S4 := Lib.hid (S3.out.next hb)
 clear hb
 by_cases hz : G = 0
 ·subst hz
  have HR := Lib.hid (show R = (0, ⟨k, i1, i3, i2, 0, s, e, ⟨cb, cn, cl, cy, cw, cs⟩⟩) by rw [HIN.out, if_neg HNN.out, if_pos rfl])
  have N0 := Lib.hid (need_yes 0)
  go_wp2_with fail
  refine (N0.out _).mono ?_
  rintro ee w5 ⟨rfl, hb⟩
  have S5 := Lib.hid (S4.out.next hb)
  clear hb
  go_wp2_with (first | (refine wpList_load_row rfl 48 (.tmp 7) rfl (w.heap.size + 1 + 1 + 1) rfl 48 _ (0, 0) _ S5.out.kC Tryz.underlying48 rfl (by kernel_rfl) ?_) | (refine wpList_store_row rfl 48 (.tmp 6) (.tmp 54) rfl (w.heap.size + 1 + 1) _ rfl rfl 48 _ S5.out.kR (by kernel_rfl) rfl (by kernel_rfl) ?_))
  refine bodyPost_ret (results_cell_row1 rfl _ _ (w.heap.size + 1 + 1) 48 _ (0, 0) _ rfl (S5.out.kR.row (cacell ⟨k, i1, i3, i2, 0, s, e, ⟨cb, cn, cl, cy, cw, cs⟩⟩).toArray) Tryz.underlying48 rfl (by kernel_rfl)) rfl ?_
  exact ⟨by rw [HR.out]; rfl, Below.rowNew S5.out.b (by omega) _⟩
 ·have HR := Lib.hid (show R.1 = G by rw [HIN.out, if_neg HNN.out, if_neg hz])
  have HZ := Lib.hid hz
  have g6 : (G == 0) = false := by simpa using hz
  have N0 := Lib.hid (need_no G)
  clear hz
  go_wp2_with fail
  refine (N0.out _).mono ?_
  rintro ee w5 ⟨rfl, hb⟩
  have S5 := Lib.hid (S4.out.next hb)
  clear hb
  go_wp2_with fail
  exact ⟨rfl, Io.no HR.out HZ.out S5.out.b⟩
set_option maxHeartbeats 8000000 in
theorem in101_any (v : Fv) (f : Dd.Fd) (dl do_ da db : Cs.Bs) (k l a s e cb cn cl cy cw cs y : Int) (w : World) (hF : FRd w w.heap.size v f) (hS : Sn w) (h0 : Dd.fieldE f = 0) (hg : 9 ≤ w.heap.size) (ho : ¬ do_ = []) :
  Calls Tryz.prog 104 #[drval ⟨dl, do_, da, [], ⟨3, l, 0, a, 0, s, e, ⟨cb, cn, cl, cy, cw, cs⟩⟩⟩, fval v f, .int .i64 y] w (Io w (Dd.inF f y ⟨dl, do_, da, [], ⟨3, l, 0, a, 0, s, e, ⟨cb, cn, cl, cy, cw, cs⟩⟩⟩)) := by
 have hL1 := Lib.hid hF.l1
 have hL2 := Lib.hid hF.l2
 obtain ⟨i1, e1⟩ : ∃ i, Dd.idx f.li dl = i := ⟨_, rfl⟩
 obtain ⟨i2, e2⟩ : ∃ i, Dd.idx (f.st.map (·.1)) da = i := ⟨_, rfl⟩
 obtain ⟨i3, e3⟩ : ∃ i, Dd.idx f.li do_ = i := ⟨_, rfl⟩
 obtain ⟨i4, e4⟩ : ∃ i, Dd.idx (f.st.map (·.1)) db = i := ⟨_, rfl⟩
 have E1 := Lib.hid e1
 have E2 := Lib.hid e2
 have E3 := Lib.hid e3
 have E4 := Lib.hid e4
 clear e1 e2 e3 e4
 have hin : Dd.inF f y ⟨dl, do_, da, [], ⟨3, l, 0, a, 0, s, e, ⟨cb, cn, cl, cy, cw, cs⟩⟩⟩ = if (i1 < 0 ∨ i2 < 0 ∨ i3 < 0 ∨ (0 : Int) < 0) then (5, Dd.ca0) else if Dd.callG f ⟨3, i1, i3, i2, 0, s, e, ⟨cb, cn, cl, y, cw, cs⟩⟩ = 0 then (0, ⟨3, i1, i3, i2, 0, s, e, ⟨cb, cn, cl, y, cw, cs⟩⟩) else (Dd.callG f ⟨3, i1, i3, i2, 0, s, e, ⟨cb, cn, cl, y, cw, cs⟩⟩, Dd.ca0) := by
  simp only [Dd.inF, if_neg ho, E1.out, E2.out, E3.out, E4.out, if_true]
 have S0 := Lib.hid (Ib.new (d := ⟨dl, do_, da, [], ⟨3, l, 0, a, 0, s, e, ⟨cb, cn, cl, cy, cw, cs⟩⟩⟩) hF hS)
 obtain ⟨R, hR⟩ : ∃ R, Dd.inF f y ⟨dl, do_, da, [], ⟨3, l, 0, a, 0, s, e, ⟨cb, cn, cl, cy, cw, cs⟩⟩⟩ = R := ⟨_, rfl⟩
 rw [hR] at hin ⊢
 clear hR
 obtain ⟨G, hG⟩ : ∃ G, Dd.callG f ⟨3, i1, i3, i2, 0, s, e, ⟨cb, cn, cl, y, cw, cs⟩⟩ = G := ⟨_, rfl⟩
 rw [hG] at hin
 have HIN := Lib.hid hin
 have HG := Lib.hid hG
 have g3 : do_.isEmpty = false := by simpa using ho
 have HF := Lib.hid hF
 have HGG := Lib.hid hg
 have H00 := Lib.hid h0
 clear hin hG hF hS hg h0 ho
 have dd0 := (S0.out.kD.cell 4).trans rfl
 have dd1 := (S0.out.kD.cell 5).trans rfl
 have dd2 := (S0.out.kD.cell 6).trans rfl
 have dd3 := (S0.out.kD.cell 7).trans rfl
 have dd4 := (S0.out.kD.cell 8).trans rfl
 have dd5 := (S0.out.kD.cell 9).trans rfl
 have dd6 := (S0.out.kD.cell 10).trans rfl
 have dd7 := (S0.out.kD.cell 11).trans rfl
 have dd8 := (S0.out.kD.cell 12).trans rfl
 have dd9 := (S0.out.kD.cell 13).trans rfl
 have dd10 := (S0.out.kD.cell 14).trans rfl
 have dd11 := (S0.out.kD.cell 15).trans rfl
 have dd12 := (S0.out.kD.cell 16).trans rfl
 have T0 := S0
 have x0 := (T0.out.kF.cell 0).trans rfl
 have x1 := (T0.out.kF.cell 1).trans rfl
 have lx := T0.out.kF.lt
 have y0 := (T0.out.kD.cell 0).trans rfl
 have y1 := (T0.out.kD.cell 1).trans rfl
 have y2 := (T0.out.kD.cell 2).trans rfl
 have y3 := (T0.out.kD.cell 3).trans rfl
 have z0 := (T0.out.kC.cell 0).trans rfl
 have z1 := (T0.out.kC.cell 1).trans rfl
 have q1 := T0.out.kC.frozen 1
 have z2 := (T0.out.kC.cell 2).trans rfl
 have q2 := T0.out.kC.frozen 2
 have z3 := (T0.out.kC.cell 3).trans rfl
 have q3 := T0.out.kC.frozen 3
 have z4 := (T0.out.kC.cell 4).trans rfl
 have q4 := T0.out.kC.frozen 4
 have z10 := (T0.out.kC.cell 10).trans rfl
 have q10 := T0.out.kC.frozen 10
 have lz := T0.out.kC.lt
 have ly := T0.out.kD.lt
 simp only [drcells, cacell, List.getElem?_toArray, List.getElem?_cons_succ, List.getElem?_cons_zero] at y0 y1 y2 y3 z0 z1 z2 z3 z4 z10
 simp only [fval_def, drval, drcells]
 go_enter Tryz.func104, Tryz.ntmps104
 go_wp2_with fail
 clear dd0 dd1 dd2 dd3 dd4 dd5 dd6 dd7 dd8 dd9 dd10 dd11 dd12 x0 x1 lx y0 y1 y2 y3 z0 z1 z2 z3 z4 z10 q1 q2 q3 q4 q10 lz ly
 refine (placeTx_any v.a2 v.c2 f.li dl _ S0.out.rd.li hL2.out).mono ?_
 rw [E1.out]
 rintro ee w1 ⟨he, hb⟩
 by_cases hi : i1 < 0
 ·rw [if_pos hi] at he
  subst he
  have HX := Lib.hid (show R.1 = 5 by rw [HIN.out, if_pos (.inl hi)])
  have T1 := Lib.hid (S0.out.next hb)
  clear hb hi
  go_wp2_with fail
  exact ⟨rfl, Io.no HX.out (by decide) T1.out.b⟩
 rw [if_neg hi] at he
 subst he
 have Ni1 := Lib.hid hi
 have T0 := Lib.hid (S0.out.next hb)
 clear hb hi
 have x0 := (T0.out.kF.cell 0).trans rfl
 have x1 := (T0.out.kF.cell 1).trans rfl
 have lx := T0.out.kF.lt
 have y0 := (T0.out.kD.cell 0).trans rfl
 have y1 := (T0.out.kD.cell 1).trans rfl
 have y2 := (T0.out.kD.cell 2).trans rfl
 have y3 := (T0.out.kD.cell 3).trans rfl
 have z0 := (T0.out.kC.cell 0).trans rfl
 have z1 := (T0.out.kC.cell 1).trans rfl
 have q1 := T0.out.kC.frozen 1
 have z2 := (T0.out.kC.cell 2).trans rfl
 have q2 := T0.out.kC.frozen 2
 have z3 := (T0.out.kC.cell 3).trans rfl
 have q3 := T0.out.kC.frozen 3
 have z4 := (T0.out.kC.cell 4).trans rfl
 have q4 := T0.out.kC.frozen 4
 have z10 := (T0.out.kC.cell 10).trans rfl
 have q10 := T0.out.kC.frozen 10
 have lz := T0.out.kC.lt
 have ly := T0.out.kD.lt
 simp only [drcells, cacell, List.getElem?_toArray, List.getElem?_cons_succ, List.getElem?_cons_zero] at y0 y1 y2 y3 z0 z1 z2 z3 z4 z10
 have S1 := Lib.hid (show Ib w v f ⟨dl, do_, da, [], ⟨3, l, 0, a, 0, s, e, ⟨cb, cn, cl, cy, cw, cs⟩⟩⟩ ⟨3, i1, 0, a, 0, s, e, ⟨cb, cn, cl, cy, cw, cs⟩⟩ _ from T0.out.set HF.out HGG.out 1 (.int .i64 i1) rfl)
 have Y0 := (S1.out.kD.cell 0).trans rfl
 have Y1 := (S1.out.kD.cell 1).trans rfl
 have Y2 := (S1.out.kD.cell 2).trans rfl
 have Y3 := (S1.out.kD.cell 3).trans rfl
 simp only [drcells, List.getElem?_toArray, List.getElem?_cons_succ, List.getElem?_cons_zero] at Y0 Y1 Y2 Y3
 go_wp2_with fail
 clear x0 x1 lx y0 y1 y2 y3 z0 z1 z2 z3 z4 z10 q1 q2 q3 q4 q10 lz ly Y0 Y1 Y2 Y3
 refine (placeSt_any v.a1 v.c1 f.st da _ S1.out.rd.st hL1.out).mono ?_
 rw [E2.out]
 rintro ee w2 ⟨he, hb⟩
 by_cases hi : i2 < 0
 ·rw [if_pos hi] at he
  subst he
  have HX := Lib.hid (show R.1 = 5 by rw [HIN.out, if_pos (.inr (.inl hi))])
  have T1 := Lib.hid (S1.out.next hb)
  clear hb hi
  go_wp2_with fail
  exact ⟨rfl, Io.no HX.out (by decide) T1.out.b⟩
 rw [if_neg hi] at he
 subst he
 have Ni2 := Lib.hid hi
 have T1 := Lib.hid (S1.out.next hb)
 clear hb hi
 have x0 := (T1.out.kF.cell 0).trans rfl
 have x1 := (T1.out.kF.cell 1).trans rfl
 have lx := T1.out.kF.lt
 have y0 := (T1.out.kD.cell 0).trans rfl
 have y1 := (T1.out.kD.cell 1).trans rfl
 have y2 := (T1.out.kD.cell 2).trans rfl
 have y3 := (T1.out.kD.cell 3).trans rfl
 have z0 := (T1.out.kC.cell 0).trans rfl
 have z1 := (T1.out.kC.cell 1).trans rfl
 have q1 := T1.out.kC.frozen 1
 have z2 := (T1.out.kC.cell 2).trans rfl
 have q2 := T1.out.kC.frozen 2
 have z3 := (T1.out.kC.cell 3).trans rfl
 have q3 := T1.out.kC.frozen 3
 have z4 := (T1.out.kC.cell 4).trans rfl
 have q4 := T1.out.kC.frozen 4
 have z10 := (T1.out.kC.cell 10).trans rfl
 have q10 := T1.out.kC.frozen 10
 have lz := T1.out.kC.lt
 have ly := T1.out.kD.lt
 simp only [drcells, cacell, List.getElem?_toArray, List.getElem?_cons_succ, List.getElem?_cons_zero] at y0 y1 y2 y3 z0 z1 z2 z3 z4 z10
 have S2 := Lib.hid (show Ib w v f ⟨dl, do_, da, [], ⟨3, l, 0, a, 0, s, e, ⟨cb, cn, cl, cy, cw, cs⟩⟩⟩ ⟨3, i1, 0, i2, 0, s, e, ⟨cb, cn, cl, cy, cw, cs⟩⟩ _ from T1.out.set HF.out HGG.out 3 (.int .i64 i2) rfl)
 have Y0 := (S2.out.kD.cell 0).trans rfl
 have Y1 := (S2.out.kD.cell 1).trans rfl
 have Y2 := (S2.out.kD.cell 2).trans rfl
 have Y3 := (S2.out.kD.cell 3).trans rfl
 simp only [drcells, List.getElem?_toArray, List.getElem?_cons_succ, List.getElem?_cons_zero] at Y0 Y1 Y2 Y3
 go_wp2_with fail
 clear x0 x1 lx y0 y1 y2 y3 z0 z1 z2 z3 z4 z10 q1 q2 q3 q4 q10 lz ly Y0 Y1 Y2 Y3
 refine (placeTx_any v.a2 v.c2 f.li do_ _ S2.out.rd.li hL2.out).mono ?_
 rw [E3.out]
 rintro ee w3 ⟨he, hb⟩
 by_cases hi : i3 < 0
 ·rw [if_pos hi] at he
  subst he
  have HX := Lib.hid (show R.1 = 5 by rw [HIN.out, if_pos (.inr (.inr (.inl hi)))])
  have T1 := Lib.hid (S2.out.next hb)
  clear hb hi
  go_wp2_with fail
  exact ⟨rfl, Io.no HX.out (by decide) T1.out.b⟩
 rw [if_neg hi] at he
 subst he
 have Ni3 := Lib.hid hi
 have T2 := Lib.hid (S2.out.next hb)
 clear hb hi
 have x0 := (T2.out.kF.cell 0).trans rfl
 have x1 := (T2.out.kF.cell 1).trans rfl
 have lx := T2.out.kF.lt
 have y0 := (T2.out.kD.cell 0).trans rfl
 have y1 := (T2.out.kD.cell 1).trans rfl
 have y2 := (T2.out.kD.cell 2).trans rfl
 have y3 := (T2.out.kD.cell 3).trans rfl
 have z0 := (T2.out.kC.cell 0).trans rfl
 have z1 := (T2.out.kC.cell 1).trans rfl
 have q1 := T2.out.kC.frozen 1
 have z2 := (T2.out.kC.cell 2).trans rfl
 have q2 := T2.out.kC.frozen 2
 have z3 := (T2.out.kC.cell 3).trans rfl
 have q3 := T2.out.kC.frozen 3
 have z4 := (T2.out.kC.cell 4).trans rfl
 have q4 := T2.out.kC.frozen 4
 have z10 := (T2.out.kC.cell 10).trans rfl
 have q10 := T2.out.kC.frozen 10
 have lz := T2.out.kC.lt
 have ly := T2.out.kD.lt
 simp only [drcells, cacell, List.getElem?_toArray, List.getElem?_cons_succ, List.getElem?_cons_zero] at y0 y1 y2 y3 z0 z1 z2 z3 z4 z10
 have S3 := Lib.hid (show Ib w v f ⟨dl, do_, da, [], ⟨3, l, 0, a, 0, s, e, ⟨cb, cn, cl, cy, cw, cs⟩⟩⟩ ⟨3, i1, i3, i2, 0, s, e, ⟨cb, cn, cl, cy, cw, cs⟩⟩ _ from T2.out.set HF.out HGG.out 2 (.int .i64 i3) rfl)
 have Y0 := (S3.out.kD.cell 0).trans rfl
 have Y1 := (S3.out.kD.cell 1).trans rfl
 have Y2 := (S3.out.kD.cell 2).trans rfl
 have Y3 := (S3.out.kD.cell 3).trans rfl
 simp only [drcells, List.getElem?_toArray, List.getElem?_cons_succ, List.getElem?_cons_zero] at Y0 Y1 Y2 Y3
 have S4 := Lib.hid (show Ib w v f ⟨dl, do_, da, [], ⟨3, l, 0, a, 0, s, e, ⟨cb, cn, cl, cy, cw, cs⟩⟩⟩ ⟨3, i1, i3, i2, 0, s, e, ⟨cb, cn, cl, y, cw, cs⟩⟩ _ from S3.out.set HF.out HGG.out 10 (.int .i64 y) rfl)
 go_wp2_with (first | (refine wpList_load_row rfl 48 (.tmp 7) rfl (w.heap.size + 1 + 1 + 1) rfl 48 _ (0, 0) _ S4.out.kC Tryz.underlying48 rfl (by kernel_rfl) ?_) | (refine wpList_load_row rfl 27 (.tmp 4) rfl (w.heap.size + 1) rfl 27 _ (0, 0) _ S4.out.kF Tryz.underlying27 rfl (by kernel_rfl) ?_))
 clear x0 x1 lx y0 y1 y2 y3 z0 z1 z2 z3 z4 z10 q1 q2 q3 q4 q10 lz ly Y0 Y1 Y2 Y3
 have HNN := Lib.hid (show ¬ (i1 < 0 ∨ i2 < 0 ∨ i3 < 0 ∨ (0 : Int) < 0) by have := Ni1.out; have := Ni2.out; have := Ni3.out; omega)
 refine (dcheckCall_any v f ⟨3, i1, i3, i2, 0, s, e, ⟨cb, cn, cl, y, cw, cs⟩⟩ _ S4.out.rd S4.out.sn H00.out).mono ?_
 rw [HG.out]
 rintro ee w5 ⟨rfl, hb⟩
 have S5 := Lib.hid (S4.out.next hb)
 clear hb
 by_cases hz : G = 0
 ·subst hz
  have HR := Lib.hid (show R = (0, ⟨3, i1, i3, i2, 0, s, e, ⟨cb, cn, cl, y, cw, cs⟩⟩) by rw [HIN.out, if_neg HNN.out, if_pos rfl])
  have N0 := Lib.hid (need_yes 0)
  go_wp2_with fail
  refine (N0.out _).mono ?_
  rintro ee w6 ⟨rfl, hb⟩
  have S6 := Lib.hid (S5.out.next hb)
  clear hb
  go_wp2_with (first | (refine wpList_load_row rfl 48 (.tmp 7) rfl (w.heap.size + 1 + 1 + 1) rfl 48 _ (0, 0) _ S6.out.kC Tryz.underlying48 rfl (by kernel_rfl) ?_) | (refine wpList_store_row rfl 48 (.tmp 6) (.tmp 54) rfl (w.heap.size + 1 + 1) _ rfl rfl 48 _ S6.out.kR (by kernel_rfl) rfl (by kernel_rfl) ?_))
  refine bodyPost_ret (results_cell_row1 rfl _ _ (w.heap.size + 1 + 1) 48 _ (0, 0) _ rfl (S6.out.kR.row (cacell ⟨3, i1, i3, i2, 0, s, e, ⟨cb, cn, cl, y, cw, cs⟩⟩).toArray) Tryz.underlying48 rfl (by kernel_rfl)) rfl ?_
  exact ⟨by rw [HR.out]; rfl, Below.rowNew S6.out.b (by omega) _⟩
 ·have HR := Lib.hid (show R.1 = G by rw [HIN.out, if_neg HNN.out, if_neg hz])
  have HZ := Lib.hid hz
  have g6 : (G == 0) = false := by simpa using hz
  have N0 := Lib.hid (need_no G)
  clear hz
  go_wp2_with fail
  refine (N0.out _).mono ?_
  rintro ee w6 ⟨rfl, hb⟩
  have S6 := Lib.hid (S5.out.next hb)
  clear hb
  go_wp2_with fail
  exact ⟨rfl, Io.no HR.out HZ.out S6.out.b⟩
set_option maxHeartbeats 8000000 in
theorem in110_any (v : Fv) (f : Dd.Fd) (dl do_ da db : Cs.Bs) (k l a s e cb cn cl cy cw cs y : Int) (w : World) (hF : FRd w w.heap.size v f) (hS : Sn w) (h0 : Dd.fieldE f = 0) (hg : 9 ≤ w.heap.size) (ho : ¬ do_ = []) (hbb : ¬ db = []) (hk : ¬ k = 3) :
  Calls Tryz.prog 104 #[drval ⟨dl, do_, da, db, ⟨k, l, 0, a, 0, s, e, ⟨cb, cn, cl, cy, cw, cs⟩⟩⟩, fval v f, .int .i64 y] w (Io w (Dd.inF f y ⟨dl, do_, da, db, ⟨k, l, 0, a, 0, s, e, ⟨cb, cn, cl, cy, cw, cs⟩⟩⟩)) := by
 have hL1 := Lib.hid hF.l1
 have hL2 := Lib.hid hF.l2
 obtain ⟨i1, e1⟩ : ∃ i, Dd.idx f.li dl = i := ⟨_, rfl⟩
 obtain ⟨i2, e2⟩ : ∃ i, Dd.idx (f.st.map (·.1)) da = i := ⟨_, rfl⟩
 obtain ⟨i3, e3⟩ : ∃ i, Dd.idx f.li do_ = i := ⟨_, rfl⟩
 obtain ⟨i4, e4⟩ : ∃ i, Dd.idx (f.st.map (·.1)) db = i := ⟨_, rfl⟩
 have E1 := Lib.hid e1
 have E2 := Lib.hid e2
 have E3 := Lib.hid e3
 have E4 := Lib.hid e4
 clear e1 e2 e3 e4
 have hin : Dd.inF f y ⟨dl, do_, da, db, ⟨k, l, 0, a, 0, s, e, ⟨cb, cn, cl, cy, cw, cs⟩⟩⟩ = if (i1 < 0 ∨ i2 < 0 ∨ i3 < 0 ∨ i4 < 0) then (5, Dd.ca0) else if Dd.callG f ⟨k, i1, i3, i2, i4, s, e, ⟨cb, cn, cl, cy, cw, cs⟩⟩ = 0 then (0, ⟨k, i1, i3, i2, i4, s, e, ⟨cb, cn, cl, cy, cw, cs⟩⟩) else (Dd.callG f ⟨k, i1, i3, i2, i4, s, e, ⟨cb, cn, cl, cy, cw, cs⟩⟩, Dd.ca0) := by
  simp only [Dd.inF, if_neg ho, if_neg hbb, if_neg hk, E1.out, E2.out, E3.out, E4.out, if_true]
 have S0 := Lib.hid (Ib.new (d := ⟨dl, do_, da, db, ⟨k, l, 0, a, 0, s, e, ⟨cb, cn, cl, cy, cw, cs⟩⟩⟩) hF hS)
 obtain ⟨R, hR⟩ : ∃ R, Dd.inF f y ⟨dl, do_, da, db, ⟨k, l, 0, a, 0, s, e, ⟨cb, cn, cl, cy, cw, cs⟩⟩⟩ = R := ⟨_, rfl⟩
 rw [hR] at hin ⊢
 clear hR
 obtain ⟨G, hG⟩ : ∃ G, Dd.callG f ⟨k, i1, i3, i2, i4, s, e, ⟨cb, cn, cl, cy, cw, cs⟩⟩ = G := ⟨_, rfl⟩
 rw [hG] at hin
 have HIN := Lib.hid hin
 have HG := Lib.hid hG
 have g3 : do_.isEmpty = false := by simpa using ho
 have g4 : db.isEmpty = false := by simpa using hbb
 have g5 : (k == 3) = false := by simpa using hk
 have HF := Lib.hid hF
 have HGG := Lib.hid hg
 have H00 := Lib.hid h0
 clear hin hG hF hS hg h0 ho hbb hk
 have dd0 := (S0.out.kD.cell 4).trans rfl
 have dd1 := (S0.out.kD.cell 5).trans rfl
 have dd2 := (S0.out.kD.cell 6).trans rfl
 have dd3 := (S0.out.kD.cell 7).trans rfl
 have dd4 := (S0.out.kD.cell 8).trans rfl
 have dd5 := (S0.out.kD.cell 9).trans rfl
 have dd6 := (S0.out.kD.cell 10).trans rfl
 have dd7 := (S0.out.kD.cell 11).trans rfl
 have dd8 := (S0.out.kD.cell 12).trans rfl
 have dd9 := (S0.out.kD.cell 13).trans rfl
 have dd10 := (S0.out.kD.cell 14).trans rfl
 have dd11 := (S0.out.kD.cell 15).trans rfl
 have dd12 := (S0.out.kD.cell 16).trans rfl
 have T0 := S0
 have x0 := (T0.out.kF.cell 0).trans rfl
 have x1 := (T0.out.kF.cell 1).trans rfl
 have lx := T0.out.kF.lt
 have y0 := (T0.out.kD.cell 0).trans rfl
 have y1 := (T0.out.kD.cell 1).trans rfl
 have y2 := (T0.out.kD.cell 2).trans rfl
 have y3 := (T0.out.kD.cell 3).trans rfl
 have z0 := (T0.out.kC.cell 0).trans rfl
 have z1 := (T0.out.kC.cell 1).trans rfl
 have q1 := T0.out.kC.frozen 1
 have z2 := (T0.out.kC.cell 2).trans rfl
 have q2 := T0.out.kC.frozen 2
 have z3 := (T0.out.kC.cell 3).trans rfl
 have q3 := T0.out.kC.frozen 3
 have z4 := (T0.out.kC.cell 4).trans rfl
 have q4 := T0.out.kC.frozen 4
 have z10 := (T0.out.kC.cell 10).trans rfl
 have q10 := T0.out.kC.frozen 10
 have lz := T0.out.kC.lt
 have ly := T0.out.kD.lt
 simp only [drcells, cacell, List.getElem?_toArray, List.getElem?_cons_succ, List.getElem?_cons_zero] at y0 y1 y2 y3 z0 z1 z2 z3 z4 z10
 simp only [fval_def, drval, drcells]
 go_enter Tryz.func104, Tryz.ntmps104
 go_wp2_with fail
 clear dd0 dd1 dd2 dd3 dd4 dd5 dd6 dd7 dd8 dd9 dd10 dd11 dd12 x0 x1 lx y0 y1 y2 y3 z0 z1 z2 z3 z4 z10 q1 q2 q3 q4 q10 lz ly
 refine (placeTx_any v.a2 v.c2 f.li dl _ S0.out.rd.li hL2.out).mono ?_
 rw [E1.out]
 rintro ee w1 ⟨he, hb⟩
 by_cases hi : i1 < 0
 ·rw [if_pos hi] at he
  subst he
  have HX := Lib.hid (show R.1 = 5 by rw [HIN.out, if_pos (.inl hi)])
  have T1 := Lib.hid (S0.out.next hb)
  clear hb hi
  go_wp2_with fail
  exact ⟨rfl, Io.no HX.out (by decide) T1.out.b⟩
 rw [if_neg hi] at he
 subst he
 have Ni1 := Lib.hid hi
 have T0 := Lib.hid (S0.out.next hb)
 clear hb hi
 have x0 := (T0.out.kF.cell 0).trans rfl
 have x1 := (T0.out.kF.cell 1).trans rfl
 have lx := T0.out.kF.lt
 have y0 := (T0.out.kD.cell 0).trans rfl
 have y1 := (T0.out.kD.cell 1).trans rfl
 have y2 := (T0.out.kD.cell 2).trans rfl
 have y3 := (T0.out.kD.cell 3).trans rfl
 have z0 := (T0.out.kC.cell 0).trans rfl
 have z1 := (T0.out.kC.cell 1).trans rfl
 have q1 := T0.out.kC.frozen 1
 have z2 := (T0.out.kC.cell 2).trans rfl
 have q2 := T0.out.kC.frozen 2
 have z3 := (T0.out.kC.cell 3).trans rfl
 have q3 := T0.out.kC.frozen 3
 have z4 := (T0.out.kC.cell 4).trans rfl
 have q4 := T0.out.kC.frozen 4
 have z10 := (T0.out.kC.cell 10).trans rfl
 have q10 := T0.out.kC.frozen 10
 have lz := T0.out.kC.lt
 have ly := T0.out.kD.lt
 simp only [drcells, cacell, List.getElem?_toArray, List.getElem?_cons_succ, List.getElem?_cons_zero] at y0 y1 y2 y3 z0 z1 z2 z3 z4 z10
 have S1 := Lib.hid (show Ib w v f ⟨dl, do_, da, db, ⟨k, l, 0, a, 0, s, e, ⟨cb, cn, cl, cy, cw, cs⟩⟩⟩ ⟨k, i1, 0, a, 0, s, e, ⟨cb, cn, cl, cy, cw, cs⟩⟩ _ from T0.out.set HF.out HGG.out 1 (.int .i64 i1) rfl)
 have Y0 := (S1.out.kD.cell 0).trans rfl
 have Y1 := (S1.out.kD.cell 1).trans rfl
 have Y2 := (S1.out.kD.cell 2).trans rfl
 have Y3 := (S1.out.kD.cell 3).trans rfl
 simp only [drcells, List.getElem?_toArray, List.getElem?_cons_succ, List.getElem?_cons_zero] at Y0 Y1 Y2 Y3
 go_wp2_with fail
 clear x0 x1 lx y0 y1 y2 y3 z0 z1 z2 z3 z4 z10 q1 q2 q3 q4 q10 lz ly Y0 Y1 Y2 Y3
 refine (placeSt_any v.a1 v.c1 f.st da _ S1.out.rd.st hL1.out).mono ?_
 rw [E2.out]
 rintro ee w2 ⟨he, hb⟩
 by_cases hi : i2 < 0
 ·rw [if_pos hi] at he
  subst he
  have HX := Lib.hid (show R.1 = 5 by rw [HIN.out, if_pos (.inr (.inl hi))])
  have T1 := Lib.hid (S1.out.next hb)
  clear hb hi
  go_wp2_with fail
  exact ⟨rfl, Io.no HX.out (by decide) T1.out.b⟩
 rw [if_neg hi] at he
 subst he
 have Ni2 := Lib.hid hi
 have T1 := Lib.hid (S1.out.next hb)
 clear hb hi
 have x0 := (T1.out.kF.cell 0).trans rfl
 have x1 := (T1.out.kF.cell 1).trans rfl
 have lx := T1.out.kF.lt
 have y0 := (T1.out.kD.cell 0).trans rfl
 have y1 := (T1.out.kD.cell 1).trans rfl
 have y2 := (T1.out.kD.cell 2).trans rfl
 have y3 := (T1.out.kD.cell 3).trans rfl
 have z0 := (T1.out.kC.cell 0).trans rfl
 have z1 := (T1.out.kC.cell 1).trans rfl
 have q1 := T1.out.kC.frozen 1
 have z2 := (T1.out.kC.cell 2).trans rfl
 have q2 := T1.out.kC.frozen 2
 have z3 := (T1.out.kC.cell 3).trans rfl
 have q3 := T1.out.kC.frozen 3
 have z4 := (T1.out.kC.cell 4).trans rfl
 have q4 := T1.out.kC.frozen 4
 have z10 := (T1.out.kC.cell 10).trans rfl
 have q10 := T1.out.kC.frozen 10
 have lz := T1.out.kC.lt
 have ly := T1.out.kD.lt
 simp only [drcells, cacell, List.getElem?_toArray, List.getElem?_cons_succ, List.getElem?_cons_zero] at y0 y1 y2 y3 z0 z1 z2 z3 z4 z10
 have S2 := Lib.hid (show Ib w v f ⟨dl, do_, da, db, ⟨k, l, 0, a, 0, s, e, ⟨cb, cn, cl, cy, cw, cs⟩⟩⟩ ⟨k, i1, 0, i2, 0, s, e, ⟨cb, cn, cl, cy, cw, cs⟩⟩ _ from T1.out.set HF.out HGG.out 3 (.int .i64 i2) rfl)
 have Y0 := (S2.out.kD.cell 0).trans rfl
 have Y1 := (S2.out.kD.cell 1).trans rfl
 have Y2 := (S2.out.kD.cell 2).trans rfl
 have Y3 := (S2.out.kD.cell 3).trans rfl
 simp only [drcells, List.getElem?_toArray, List.getElem?_cons_succ, List.getElem?_cons_zero] at Y0 Y1 Y2 Y3
 go_wp2_with fail
 clear x0 x1 lx y0 y1 y2 y3 z0 z1 z2 z3 z4 z10 q1 q2 q3 q4 q10 lz ly Y0 Y1 Y2 Y3
 refine (placeTx_any v.a2 v.c2 f.li do_ _ S2.out.rd.li hL2.out).mono ?_
 rw [E3.out]
 rintro ee w3 ⟨he, hb⟩
 by_cases hi : i3 < 0
 ·rw [if_pos hi] at he
  subst he
  have HX := Lib.hid (show R.1 = 5 by rw [HIN.out, if_pos (.inr (.inr (.inl hi)))])
  have T1 := Lib.hid (S2.out.next hb)
  clear hb hi
  go_wp2_with fail
  exact ⟨rfl, Io.no HX.out (by decide) T1.out.b⟩
 rw [if_neg hi] at he
 subst he
 have Ni3 := Lib.hid hi
 have T2 := Lib.hid (S2.out.next hb)
 clear hb hi
 have x0 := (T2.out.kF.cell 0).trans rfl
 have x1 := (T2.out.kF.cell 1).trans rfl
 have lx := T2.out.kF.lt
 have y0 := (T2.out.kD.cell 0).trans rfl
 have y1 := (T2.out.kD.cell 1).trans rfl
 have y2 := (T2.out.kD.cell 2).trans rfl
 have y3 := (T2.out.kD.cell 3).trans rfl
 have z0 := (T2.out.kC.cell 0).trans rfl
 have z1 := (T2.out.kC.cell 1).trans rfl
 have q1 := T2.out.kC.frozen 1
 have z2 := (T2.out.kC.cell 2).trans rfl
 have q2 := T2.out.kC.frozen 2
 have z3 := (T2.out.kC.cell 3).trans rfl
 have q3 := T2.out.kC.frozen 3
 have z4 := (T2.out.kC.cell 4).trans rfl
 have q4 := T2.out.kC.frozen 4
 have z10 := (T2.out.kC.cell 10).trans rfl
 have q10 := T2.out.kC.frozen 10
 have lz := T2.out.kC.lt
 have ly := T2.out.kD.lt
 simp only [drcells, cacell, List.getElem?_toArray, List.getElem?_cons_succ, List.getElem?_cons_zero] at y0 y1 y2 y3 z0 z1 z2 z3 z4 z10
 have S3 := Lib.hid (show Ib w v f ⟨dl, do_, da, db, ⟨k, l, 0, a, 0, s, e, ⟨cb, cn, cl, cy, cw, cs⟩⟩⟩ ⟨k, i1, i3, i2, 0, s, e, ⟨cb, cn, cl, cy, cw, cs⟩⟩ _ from T2.out.set HF.out HGG.out 2 (.int .i64 i3) rfl)
 have Y0 := (S3.out.kD.cell 0).trans rfl
 have Y1 := (S3.out.kD.cell 1).trans rfl
 have Y2 := (S3.out.kD.cell 2).trans rfl
 have Y3 := (S3.out.kD.cell 3).trans rfl
 simp only [drcells, List.getElem?_toArray, List.getElem?_cons_succ, List.getElem?_cons_zero] at Y0 Y1 Y2 Y3
 go_wp2_with fail
 clear x0 x1 lx y0 y1 y2 y3 z0 z1 z2 z3 z4 z10 q1 q2 q3 q4 q10 lz ly Y0 Y1 Y2 Y3
 refine (placeSt_any v.a1 v.c1 f.st db _ S3.out.rd.st hL1.out).mono ?_
 rw [E4.out]
 rintro ee w4 ⟨he, hb⟩
 by_cases hi : i4 < 0
 ·rw [if_pos hi] at he
  subst he
  have HX := Lib.hid (show R.1 = 5 by rw [HIN.out, if_pos (.inr (.inr (.inr hi)))])
  have T1 := Lib.hid (S3.out.next hb)
  clear hb hi
  go_wp2_with fail
  exact ⟨rfl, Io.no HX.out (by decide) T1.out.b⟩
 rw [if_neg hi] at he
 subst he
 have Ni4 := Lib.hid hi
 have T3 := Lib.hid (S3.out.next hb)
 clear hb hi
 have x0 := (T3.out.kF.cell 0).trans rfl
 have x1 := (T3.out.kF.cell 1).trans rfl
 have lx := T3.out.kF.lt
 have y0 := (T3.out.kD.cell 0).trans rfl
 have y1 := (T3.out.kD.cell 1).trans rfl
 have y2 := (T3.out.kD.cell 2).trans rfl
 have y3 := (T3.out.kD.cell 3).trans rfl
 have z0 := (T3.out.kC.cell 0).trans rfl
 have z1 := (T3.out.kC.cell 1).trans rfl
 have q1 := T3.out.kC.frozen 1
 have z2 := (T3.out.kC.cell 2).trans rfl
 have q2 := T3.out.kC.frozen 2
 have z3 := (T3.out.kC.cell 3).trans rfl
 have q3 := T3.out.kC.frozen 3
 have z4 := (T3.out.kC.cell 4).trans rfl
 have q4 := T3.out.kC.frozen 4
 have z10 := (T3.out.kC.cell 10).trans rfl
 have q10 := T3.out.kC.frozen 10
 have lz := T3.out.kC.lt
 have ly := T3.out.kD.lt
 simp only [drcells, cacell, List.getElem?_toArray, List.getElem?_cons_succ, List.getElem?_cons_zero] at y0 y1 y2 y3 z0 z1 z2 z3 z4 z10
 have S4 := Lib.hid (show Ib w v f ⟨dl, do_, da, db, ⟨k, l, 0, a, 0, s, e, ⟨cb, cn, cl, cy, cw, cs⟩⟩⟩ ⟨k, i1, i3, i2, i4, s, e, ⟨cb, cn, cl, cy, cw, cs⟩⟩ _ from T3.out.set HF.out HGG.out 4 (.int .i64 i4) rfl)
 have Y0 := (S4.out.kD.cell 0).trans rfl
 have Y1 := (S4.out.kD.cell 1).trans rfl
 have Y2 := (S4.out.kD.cell 2).trans rfl
 have Y3 := (S4.out.kD.cell 3).trans rfl
 simp only [drcells, List.getElem?_toArray, List.getElem?_cons_succ, List.getElem?_cons_zero] at Y0 Y1 Y2 Y3
 go_wp2_with (first | (refine wpList_load_row rfl 48 (.tmp 7) rfl (w.heap.size + 1 + 1 + 1) rfl 48 _ (0, 0) _ S4.out.kC Tryz.underlying48 rfl (by kernel_rfl) ?_) | (refine wpList_load_row rfl 27 (.tmp 4) rfl (w.heap.size + 1) rfl 27 _ (0, 0) _ S4.out.kF Tryz.underlying27 rfl (by kernel_rfl) ?_))
 clear x0 x1 lx y0 y1 y2 y3 z0 z1 z2 z3 z4 z10 q1 q2 q3 q4 q10 lz ly Y0 Y1 Y2 Y3
 have HNN := Lib.hid (show ¬ (i1 < 0 ∨ i2 < 0 ∨ i3 < 0 ∨ i4 < 0) by have := Ni1.out; have := Ni2.out; have := Ni3.out; have := Ni4.out; omega)
 refine (dcheckCall_any v f ⟨k, i1, i3, i2, i4, s, e, ⟨cb, cn, cl, cy, cw, cs⟩⟩ _ S4.out.rd S4.out.sn H00.out).mono ?_
 rw [HG.out]
 rintro ee w5 ⟨rfl, hb⟩
 have S5 := Lib.hid (S4.out.next hb)
 clear hb
 by_cases hz : G = 0
 ·subst hz
  have HR := Lib.hid (show R = (0, ⟨k, i1, i3, i2, i4, s, e, ⟨cb, cn, cl, cy, cw, cs⟩⟩) by rw [HIN.out, if_neg HNN.out, if_pos rfl])
  have N0 := Lib.hid (need_yes 0)
  go_wp2_with fail
  refine (N0.out _).mono ?_
  rintro ee w6 ⟨rfl, hb⟩
  have S6 := Lib.hid (S5.out.next hb)
  clear hb
  go_wp2_with (first | (refine wpList_load_row rfl 48 (.tmp 7) rfl (w.heap.size + 1 + 1 + 1) rfl 48 _ (0, 0) _ S6.out.kC Tryz.underlying48 rfl (by kernel_rfl) ?_) | (refine wpList_store_row rfl 48 (.tmp 6) (.tmp 54) rfl (w.heap.size + 1 + 1) _ rfl rfl 48 _ S6.out.kR (by kernel_rfl) rfl (by kernel_rfl) ?_))
  refine bodyPost_ret (results_cell_row1 rfl _ _ (w.heap.size + 1 + 1) 48 _ (0, 0) _ rfl (S6.out.kR.row (cacell ⟨k, i1, i3, i2, i4, s, e, ⟨cb, cn, cl, cy, cw, cs⟩⟩).toArray) Tryz.underlying48 rfl (by kernel_rfl)) rfl ?_
  exact ⟨by rw [HR.out]; rfl, Below.rowNew S6.out.b (by omega) _⟩
 ·have HR := Lib.hid (show R.1 = G by rw [HIN.out, if_neg HNN.out, if_neg hz])
  have HZ := Lib.hid hz
  have g6 : (G == 0) = false := by simpa using hz
  have N0 := Lib.hid (need_no G)
  clear hz
  go_wp2_with fail
  refine (N0.out _).mono ?_
  rintro ee w6 ⟨rfl, hb⟩
  have S6 := Lib.hid (S5.out.next hb)
  clear hb
  go_wp2_with fail
  exact ⟨rfl, Io.no HR.out HZ.out S6.out.b⟩
set_option maxHeartbeats 8000000 in
theorem in111_any (v : Fv) (f : Dd.Fd) (dl do_ da db : Cs.Bs) (k l a s e cb cn cl cy cw cs y : Int) (w : World) (hF : FRd w w.heap.size v f) (hS : Sn w) (h0 : Dd.fieldE f = 0) (hg : 9 ≤ w.heap.size) (ho : ¬ do_ = []) (hbb : ¬ db = []) :
  Calls Tryz.prog 104 #[drval ⟨dl, do_, da, db, ⟨3, l, 0, a, 0, s, e, ⟨cb, cn, cl, cy, cw, cs⟩⟩⟩, fval v f, .int .i64 y] w (Io w (Dd.inF f y ⟨dl, do_, da, db, ⟨3, l, 0, a, 0, s, e, ⟨cb, cn, cl, cy, cw, cs⟩⟩⟩)) := by
 have hL1 := Lib.hid hF.l1
 have hL2 := Lib.hid hF.l2
 obtain ⟨i1, e1⟩ : ∃ i, Dd.idx f.li dl = i := ⟨_, rfl⟩
 obtain ⟨i2, e2⟩ : ∃ i, Dd.idx (f.st.map (·.1)) da = i := ⟨_, rfl⟩
 obtain ⟨i3, e3⟩ : ∃ i, Dd.idx f.li do_ = i := ⟨_, rfl⟩
 obtain ⟨i4, e4⟩ : ∃ i, Dd.idx (f.st.map (·.1)) db = i := ⟨_, rfl⟩
 have E1 := Lib.hid e1
 have E2 := Lib.hid e2
 have E3 := Lib.hid e3
 have E4 := Lib.hid e4
 clear e1 e2 e3 e4
 have hin : Dd.inF f y ⟨dl, do_, da, db, ⟨3, l, 0, a, 0, s, e, ⟨cb, cn, cl, cy, cw, cs⟩⟩⟩ = if (i1 < 0 ∨ i2 < 0 ∨ i3 < 0 ∨ i4 < 0) then (5, Dd.ca0) else if Dd.callG f ⟨3, i1, i3, i2, i4, s, e, ⟨cb, cn, cl, y, cw, cs⟩⟩ = 0 then (0, ⟨3, i1, i3, i2, i4, s, e, ⟨cb, cn, cl, y, cw, cs⟩⟩) else (Dd.callG f ⟨3, i1, i3, i2, i4, s, e, ⟨cb, cn, cl, y, cw, cs⟩⟩, Dd.ca0) := by
  simp only [Dd.inF, if_neg ho, if_neg hbb, E1.out, E2.out, E3.out, E4.out, if_true]
 have S0 := Lib.hid (Ib.new (d := ⟨dl, do_, da, db, ⟨3, l, 0, a, 0, s, e, ⟨cb, cn, cl, cy, cw, cs⟩⟩⟩) hF hS)
 obtain ⟨R, hR⟩ : ∃ R, Dd.inF f y ⟨dl, do_, da, db, ⟨3, l, 0, a, 0, s, e, ⟨cb, cn, cl, cy, cw, cs⟩⟩⟩ = R := ⟨_, rfl⟩
 rw [hR] at hin ⊢
 clear hR
 obtain ⟨G, hG⟩ : ∃ G, Dd.callG f ⟨3, i1, i3, i2, i4, s, e, ⟨cb, cn, cl, y, cw, cs⟩⟩ = G := ⟨_, rfl⟩
 rw [hG] at hin
 have HIN := Lib.hid hin
 have HG := Lib.hid hG
 have g3 : do_.isEmpty = false := by simpa using ho
 have g4 : db.isEmpty = false := by simpa using hbb
 have HF := Lib.hid hF
 have HGG := Lib.hid hg
 have H00 := Lib.hid h0
 clear hin hG hF hS hg h0 ho hbb
 have dd0 := (S0.out.kD.cell 4).trans rfl
 have dd1 := (S0.out.kD.cell 5).trans rfl
 have dd2 := (S0.out.kD.cell 6).trans rfl
 have dd3 := (S0.out.kD.cell 7).trans rfl
 have dd4 := (S0.out.kD.cell 8).trans rfl
 have dd5 := (S0.out.kD.cell 9).trans rfl
 have dd6 := (S0.out.kD.cell 10).trans rfl
 have dd7 := (S0.out.kD.cell 11).trans rfl
 have dd8 := (S0.out.kD.cell 12).trans rfl
 have dd9 := (S0.out.kD.cell 13).trans rfl
 have dd10 := (S0.out.kD.cell 14).trans rfl
 have dd11 := (S0.out.kD.cell 15).trans rfl
 have dd12 := (S0.out.kD.cell 16).trans rfl
 have T0 := S0
 have x0 := (T0.out.kF.cell 0).trans rfl
 have x1 := (T0.out.kF.cell 1).trans rfl
 have lx := T0.out.kF.lt
 have y0 := (T0.out.kD.cell 0).trans rfl
 have y1 := (T0.out.kD.cell 1).trans rfl
 have y2 := (T0.out.kD.cell 2).trans rfl
 have y3 := (T0.out.kD.cell 3).trans rfl
 have z0 := (T0.out.kC.cell 0).trans rfl
 have z1 := (T0.out.kC.cell 1).trans rfl
 have q1 := T0.out.kC.frozen 1
 have z2 := (T0.out.kC.cell 2).trans rfl
 have q2 := T0.out.kC.frozen 2
 have z3 := (T0.out.kC.cell 3).trans rfl
 have q3 := T0.out.kC.frozen 3
 have z4 := (T0.out.kC.cell 4).trans rfl
 have q4 := T0.out.kC.frozen 4
 have z10 := (T0.out.kC.cell 10).trans rfl
 have q10 := T0.out.kC.frozen 10
 have lz := T0.out.kC.lt
 have ly := T0.out.kD.lt
 simp only [drcells, cacell, List.getElem?_toArray, List.getElem?_cons_succ, List.getElem?_cons_zero] at y0 y1 y2 y3 z0 z1 z2 z3 z4 z10
 simp only [fval_def, drval, drcells]
 go_enter Tryz.func104, Tryz.ntmps104
 go_wp2_with fail
 clear dd0 dd1 dd2 dd3 dd4 dd5 dd6 dd7 dd8 dd9 dd10 dd11 dd12 x0 x1 lx y0 y1 y2 y3 z0 z1 z2 z3 z4 z10 q1 q2 q3 q4 q10 lz ly
 refine (placeTx_any v.a2 v.c2 f.li dl _ S0.out.rd.li hL2.out).mono ?_
 rw [E1.out]
 rintro ee w1 ⟨he, hb⟩
 by_cases hi : i1 < 0
 ·rw [if_pos hi] at he
  subst he
  have HX := Lib.hid (show R.1 = 5 by rw [HIN.out, if_pos (.inl hi)])
  have T1 := Lib.hid (S0.out.next hb)
  clear hb hi
  go_wp2_with fail
  exact ⟨rfl, Io.no HX.out (by decide) T1.out.b⟩
 rw [if_neg hi] at he
 subst he
 have Ni1 := Lib.hid hi
 have T0 := Lib.hid (S0.out.next hb)
 clear hb hi
 have x0 := (T0.out.kF.cell 0).trans rfl
 have x1 := (T0.out.kF.cell 1).trans rfl
 have lx := T0.out.kF.lt
 have y0 := (T0.out.kD.cell 0).trans rfl
 have y1 := (T0.out.kD.cell 1).trans rfl
 have y2 := (T0.out.kD.cell 2).trans rfl
 have y3 := (T0.out.kD.cell 3).trans rfl
 have z0 := (T0.out.kC.cell 0).trans rfl
 have z1 := (T0.out.kC.cell 1).trans rfl
 have q1 := T0.out.kC.frozen 1
 have z2 := (T0.out.kC.cell 2).trans rfl
 have q2 := T0.out.kC.frozen 2
 have z3 := (T0.out.kC.cell 3).trans rfl
 have q3 := T0.out.kC.frozen 3
 have z4 := (T0.out.kC.cell 4).trans rfl
 have q4 := T0.out.kC.frozen 4
 have z10 := (T0.out.kC.cell 10).trans rfl
 have q10 := T0.out.kC.frozen 10
 have lz := T0.out.kC.lt
 have ly := T0.out.kD.lt
 simp only [drcells, cacell, List.getElem?_toArray, List.getElem?_cons_succ, List.getElem?_cons_zero] at y0 y1 y2 y3 z0 z1 z2 z3 z4 z10
 have S1 := Lib.hid (show Ib w v f ⟨dl, do_, da, db, ⟨3, l, 0, a, 0, s, e, ⟨cb, cn, cl, cy, cw, cs⟩⟩⟩ ⟨3, i1, 0, a, 0, s, e, ⟨cb, cn, cl, cy, cw, cs⟩⟩ _ from T0.out.set HF.out HGG.out 1 (.int .i64 i1) rfl)
 have Y0 := (S1.out.kD.cell 0).trans rfl
 have Y1 := (S1.out.kD.cell 1).trans rfl
 have Y2 := (S1.out.kD.cell 2).trans rfl
 have Y3 := (S1.out.kD.cell 3).trans rfl
 simp only [drcells, List.getElem?_toArray, List.getElem?_cons_succ, List.getElem?_cons_zero] at Y0 Y1 Y2 Y3
 go_wp2_with fail
 clear x0 x1 lx y0 y1 y2 y3 z0 z1 z2 z3 z4 z10 q1 q2 q3 q4 q10 lz ly Y0 Y1 Y2 Y3
 refine (placeSt_any v.a1 v.c1 f.st da _ S1.out.rd.st hL1.out).mono ?_
 rw [E2.out]
 rintro ee w2 ⟨he, hb⟩
 by_cases hi : i2 < 0
 ·rw [if_pos hi] at he
  subst he
  have HX := Lib.hid (show R.1 = 5 by rw [HIN.out, if_pos (.inr (.inl hi))])
  have T1 := Lib.hid (S1.out.next hb)
  clear hb hi
  go_wp2_with fail
  exact ⟨rfl, Io.no HX.out (by decide) T1.out.b⟩
 rw [if_neg hi] at he
 subst he
 have Ni2 := Lib.hid hi
 have T1 := Lib.hid (S1.out.next hb)
 clear hb hi
 have x0 := (T1.out.kF.cell 0).trans rfl
 have x1 := (T1.out.kF.cell 1).trans rfl
 have lx := T1.out.kF.lt
 have y0 := (T1.out.kD.cell 0).trans rfl
 have y1 := (T1.out.kD.cell 1).trans rfl
 have y2 := (T1.out.kD.cell 2).trans rfl
 have y3 := (T1.out.kD.cell 3).trans rfl
 have z0 := (T1.out.kC.cell 0).trans rfl
 have z1 := (T1.out.kC.cell 1).trans rfl
 have q1 := T1.out.kC.frozen 1
 have z2 := (T1.out.kC.cell 2).trans rfl
 have q2 := T1.out.kC.frozen 2
 have z3 := (T1.out.kC.cell 3).trans rfl
 have q3 := T1.out.kC.frozen 3
 have z4 := (T1.out.kC.cell 4).trans rfl
 have q4 := T1.out.kC.frozen 4
 have z10 := (T1.out.kC.cell 10).trans rfl
 have q10 := T1.out.kC.frozen 10
 have lz := T1.out.kC.lt
 have ly := T1.out.kD.lt
 simp only [drcells, cacell, List.getElem?_toArray, List.getElem?_cons_succ, List.getElem?_cons_zero] at y0 y1 y2 y3 z0 z1 z2 z3 z4 z10
 have S2 := Lib.hid (show Ib w v f ⟨dl, do_, da, db, ⟨3, l, 0, a, 0, s, e, ⟨cb, cn, cl, cy, cw, cs⟩⟩⟩ ⟨3, i1, 0, i2, 0, s, e, ⟨cb, cn, cl, cy, cw, cs⟩⟩ _ from T1.out.set HF.out HGG.out 3 (.int .i64 i2) rfl)
 have Y0 := (S2.out.kD.cell 0).trans rfl
 have Y1 := (S2.out.kD.cell 1).trans rfl
 have Y2 := (S2.out.kD.cell 2).trans rfl
 have Y3 := (S2.out.kD.cell 3).trans rfl
 simp only [drcells, List.getElem?_toArray, List.getElem?_cons_succ, List.getElem?_cons_zero] at Y0 Y1 Y2 Y3
 go_wp2_with fail
 clear x0 x1 lx y0 y1 y2 y3 z0 z1 z2 z3 z4 z10 q1 q2 q3 q4 q10 lz ly Y0 Y1 Y2 Y3
 refine (placeTx_any v.a2 v.c2 f.li do_ _ S2.out.rd.li hL2.out).mono ?_
 rw [E3.out]
 rintro ee w3 ⟨he, hb⟩
 by_cases hi : i3 < 0
 ·rw [if_pos hi] at he
  subst he
  have HX := Lib.hid (show R.1 = 5 by rw [HIN.out, if_pos (.inr (.inr (.inl hi)))])
  have T1 := Lib.hid (S2.out.next hb)
  clear hb hi
  go_wp2_with fail
  exact ⟨rfl, Io.no HX.out (by decide) T1.out.b⟩
 rw [if_neg hi] at he
 subst he
 have Ni3 := Lib.hid hi
 have T2 := Lib.hid (S2.out.next hb)
 clear hb hi
 have x0 := (T2.out.kF.cell 0).trans rfl
 have x1 := (T2.out.kF.cell 1).trans rfl
 have lx := T2.out.kF.lt
 have y0 := (T2.out.kD.cell 0).trans rfl
 have y1 := (T2.out.kD.cell 1).trans rfl
 have y2 := (T2.out.kD.cell 2).trans rfl
 have y3 := (T2.out.kD.cell 3).trans rfl
 have z0 := (T2.out.kC.cell 0).trans rfl
 have z1 := (T2.out.kC.cell 1).trans rfl
 have q1 := T2.out.kC.frozen 1
 have z2 := (T2.out.kC.cell 2).trans rfl
 have q2 := T2.out.kC.frozen 2
 have z3 := (T2.out.kC.cell 3).trans rfl
 have q3 := T2.out.kC.frozen 3
 have z4 := (T2.out.kC.cell 4).trans rfl
 have q4 := T2.out.kC.frozen 4
 have z10 := (T2.out.kC.cell 10).trans rfl
 have q10 := T2.out.kC.frozen 10
 have lz := T2.out.kC.lt
 have ly := T2.out.kD.lt
 simp only [drcells, cacell, List.getElem?_toArray, List.getElem?_cons_succ, List.getElem?_cons_zero] at y0 y1 y2 y3 z0 z1 z2 z3 z4 z10
 have S3 := Lib.hid (show Ib w v f ⟨dl, do_, da, db, ⟨3, l, 0, a, 0, s, e, ⟨cb, cn, cl, cy, cw, cs⟩⟩⟩ ⟨3, i1, i3, i2, 0, s, e, ⟨cb, cn, cl, cy, cw, cs⟩⟩ _ from T2.out.set HF.out HGG.out 2 (.int .i64 i3) rfl)
 have Y0 := (S3.out.kD.cell 0).trans rfl
 have Y1 := (S3.out.kD.cell 1).trans rfl
 have Y2 := (S3.out.kD.cell 2).trans rfl
 have Y3 := (S3.out.kD.cell 3).trans rfl
 simp only [drcells, List.getElem?_toArray, List.getElem?_cons_succ, List.getElem?_cons_zero] at Y0 Y1 Y2 Y3
 go_wp2_with fail
 clear x0 x1 lx y0 y1 y2 y3 z0 z1 z2 z3 z4 z10 q1 q2 q3 q4 q10 lz ly Y0 Y1 Y2 Y3
 refine (placeSt_any v.a1 v.c1 f.st db _ S3.out.rd.st hL1.out).mono ?_
 rw [E4.out]
 rintro ee w4 ⟨he, hb⟩
 by_cases hi : i4 < 0
 ·rw [if_pos hi] at he
  subst he
  have HX := Lib.hid (show R.1 = 5 by rw [HIN.out, if_pos (.inr (.inr (.inr hi)))])
  have T1 := Lib.hid (S3.out.next hb)
  clear hb hi
  go_wp2_with fail
  exact ⟨rfl, Io.no HX.out (by decide) T1.out.b⟩
 rw [if_neg hi] at he
 subst he
 have Ni4 := Lib.hid hi
 have T3 := Lib.hid (S3.out.next hb)
 clear hb hi
 have x0 := (T3.out.kF.cell 0).trans rfl
 have x1 := (T3.out.kF.cell 1).trans rfl
 have lx := T3.out.kF.lt
 have y0 := (T3.out.kD.cell 0).trans rfl
 have y1 := (T3.out.kD.cell 1).trans rfl
 have y2 := (T3.out.kD.cell 2).trans rfl
 have y3 := (T3.out.kD.cell 3).trans rfl
 have z0 := (T3.out.kC.cell 0).trans rfl
 have z1 := (T3.out.kC.cell 1).trans rfl
 have q1 := T3.out.kC.frozen 1
 have z2 := (T3.out.kC.cell 2).trans rfl
 have q2 := T3.out.kC.frozen 2
 have z3 := (T3.out.kC.cell 3).trans rfl
 have q3 := T3.out.kC.frozen 3
 have z4 := (T3.out.kC.cell 4).trans rfl
 have q4 := T3.out.kC.frozen 4
 have z10 := (T3.out.kC.cell 10).trans rfl
 have q10 := T3.out.kC.frozen 10
 have lz := T3.out.kC.lt
 have ly := T3.out.kD.lt
 simp only [drcells, cacell, List.getElem?_toArray, List.getElem?_cons_succ, List.getElem?_cons_zero] at y0 y1 y2 y3 z0 z1 z2 z3 z4 z10
 have S4 := Lib.hid (show Ib w v f ⟨dl, do_, da, db, ⟨3, l, 0, a, 0, s, e, ⟨cb, cn, cl, cy, cw, cs⟩⟩⟩ ⟨3, i1, i3, i2, i4, s, e, ⟨cb, cn, cl, cy, cw, cs⟩⟩ _ from T3.out.set HF.out HGG.out 4 (.int .i64 i4) rfl)
 have Y0 := (S4.out.kD.cell 0).trans rfl
 have Y1 := (S4.out.kD.cell 1).trans rfl
 have Y2 := (S4.out.kD.cell 2).trans rfl
 have Y3 := (S4.out.kD.cell 3).trans rfl
 simp only [drcells, List.getElem?_toArray, List.getElem?_cons_succ, List.getElem?_cons_zero] at Y0 Y1 Y2 Y3
 have S5 := Lib.hid (show Ib w v f ⟨dl, do_, da, db, ⟨3, l, 0, a, 0, s, e, ⟨cb, cn, cl, cy, cw, cs⟩⟩⟩ ⟨3, i1, i3, i2, i4, s, e, ⟨cb, cn, cl, y, cw, cs⟩⟩ _ from S4.out.set HF.out HGG.out 10 (.int .i64 y) rfl)
 go_wp2_with (first | (refine wpList_load_row rfl 48 (.tmp 7) rfl (w.heap.size + 1 + 1 + 1) rfl 48 _ (0, 0) _ S5.out.kC Tryz.underlying48 rfl (by kernel_rfl) ?_) | (refine wpList_load_row rfl 27 (.tmp 4) rfl (w.heap.size + 1) rfl 27 _ (0, 0) _ S5.out.kF Tryz.underlying27 rfl (by kernel_rfl) ?_))
 clear x0 x1 lx y0 y1 y2 y3 z0 z1 z2 z3 z4 z10 q1 q2 q3 q4 q10 lz ly Y0 Y1 Y2 Y3
 have HNN := Lib.hid (show ¬ (i1 < 0 ∨ i2 < 0 ∨ i3 < 0 ∨ i4 < 0) by have := Ni1.out; have := Ni2.out; have := Ni3.out; have := Ni4.out; omega)
 refine (dcheckCall_any v f ⟨3, i1, i3, i2, i4, s, e, ⟨cb, cn, cl, y, cw, cs⟩⟩ _ S5.out.rd S5.out.sn H00.out).mono ?_
 rw [HG.out]
 rintro ee w6 ⟨rfl, hb⟩
 have S6 := Lib.hid (S5.out.next hb)
 clear hb
 by_cases hz : G = 0
 ·subst hz
  have HR := Lib.hid (show R = (0, ⟨3, i1, i3, i2, i4, s, e, ⟨cb, cn, cl, y, cw, cs⟩⟩) by rw [HIN.out, if_neg HNN.out, if_pos rfl])
  have N0 := Lib.hid (need_yes 0)
  go_wp2_with fail
  refine (N0.out _).mono ?_
  rintro ee w7 ⟨rfl, hb⟩
  have S7 := Lib.hid (S6.out.next hb)
  clear hb
  go_wp2_with (first | (refine wpList_load_row rfl 48 (.tmp 7) rfl (w.heap.size + 1 + 1 + 1) rfl 48 _ (0, 0) _ S7.out.kC Tryz.underlying48 rfl (by kernel_rfl) ?_) | (refine wpList_store_row rfl 48 (.tmp 6) (.tmp 54) rfl (w.heap.size + 1 + 1) _ rfl rfl 48 _ S7.out.kR (by kernel_rfl) rfl (by kernel_rfl) ?_))
  refine bodyPost_ret (results_cell_row1 rfl _ _ (w.heap.size + 1 + 1) 48 _ (0, 0) _ rfl (S7.out.kR.row (cacell ⟨3, i1, i3, i2, i4, s, e, ⟨cb, cn, cl, y, cw, cs⟩⟩).toArray) Tryz.underlying48 rfl (by kernel_rfl)) rfl ?_
  exact ⟨by rw [HR.out]; rfl, Below.rowNew S7.out.b (by omega) _⟩
 ·have HR := Lib.hid (show R.1 = G by rw [HIN.out, if_neg HNN.out, if_neg hz])
  have HZ := Lib.hid hz
  have g6 : (G == 0) = false := by simpa using hz
  have N0 := Lib.hid (need_no G)
  clear hz
  go_wp2_with fail
  refine (N0.out _).mono ?_
  rintro ee w7 ⟨rfl, hb⟩
  have S7 := Lib.hid (S6.out.next hb)
  clear hb
  go_wp2_with fail
  exact ⟨rfl, Io.no HR.out HZ.out S7.out.b⟩
theorem in_any (v : Fv) (f : Dd.Fd) (d : Dd.Dr) (y : Int) (w : World) (hF : FRd w w.heap.size v f) (hS : Sn w) (h0 : Dd.fieldE f = 0) (hg : 9 ≤ w.heap.size) (hd : d.c.o = 0 ∧ d.c.b = 0) :
  Calls Tryz.prog 104 #[drval d, fval v f, .int .i64 y] w (Io w (Dd.inF f y d)) := by
 obtain ⟨dl, do_, da, db, ⟨k, l, o, a, b, s, e, ⟨cb, cn, cl, cy, cw, cs⟩⟩⟩ := d
 obtain ⟨h1, h2⟩ := hd
 dsimp only at h1 h2
 subst h1 h2
 by_cases ho : do_ = [] <;> by_cases hbb : db = [] <;> by_cases hk : k = 3
 ·subst ho hbb hk; exact in001_any v f dl [] da [] 0 l a s e cb cn cl cy cw cs y w hF hS h0 hg
 ·subst ho hbb; exact in000_any v f dl [] da [] k l a s e cb cn cl cy cw cs y w hF hS h0 hg hk
 ·subst ho hk; exact in011_any v f dl [] da db 0 l a s e cb cn cl cy cw cs y w hF hS h0 hg hbb
 ·subst ho; exact in010_any v f dl [] da db k l a s e cb cn cl cy cw cs y w hF hS h0 hg hbb hk
 ·subst hbb hk; exact in101_any v f dl do_ da [] 0 l a s e cb cn cl cy cw cs y w hF hS h0 hg ho
 ·subst hbb; exact in100_any v f dl do_ da [] k l a s e cb cn cl cy cw cs y w hF hS h0 hg ho hk
 ·subst hk; exact in111_any v f dl do_ da db 0 l a s e cb cn cl cy cw cs y w hF hS h0 hg ho hbb
 ·exact in110_any v f dl do_ da db k l a s e cb cn cl cy cw cs y w hF hS h0 hg ho hbb hk
end Go.Proofs.YtccikcpcfdjobaaGreatDoor
