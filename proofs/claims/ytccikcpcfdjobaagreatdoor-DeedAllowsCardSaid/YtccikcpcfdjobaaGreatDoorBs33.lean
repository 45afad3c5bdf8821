/-
  What the claim needs: contracts.
-/
import Derived.Test.YtccikcpcfdjobaaGreatDoorBs29
set_option linter.unusedVariables false
set_option linter.unusedSimpArgs false
set_option maxHeartbeats 8000000
set_option maxRecDepth 100000
namespace Go.Proofs.YtccikcpcfdjobaaGreatDoor
section
open Go.RowKit
def zero13 : Array Value := #[.int .u8 0, .int .i64 0, .int .i64 0, .int .i64 0, .int .i64 0, .int .i64 0, .int .i64 0, .int .i64 0, .int .i64 0, .int .i64 0, .int .i64 0, .int .i64 0, .int .i64 0]
structure Ib (w : World) (v : Fv) (f : Dd.Fd) (d : Dd.Dr) (c : Dd.Ca) (W : World) : Prop where
 b : Below w.heap.size w W
 kD : Bk W w.heap.size 130 (drcells d).toArray
 kF : Bk W (w.heap.size + 1) 27 #[.slice v.a1 f.st.length v.c1, .slice v.a2 f.li.length v.c2, .slice v.a3 f.pa.length v.c3, .slice v.a4 f.va.length v.c4]
 kR : Bk W (w.heap.size + 1 + 1) 48 zero13
 kC : Bk W (w.heap.size + 1 + 1 + 1) 48 (cacell c).toArray
 rd : FRd W W.heap.size v f
 sn : Sn W
section
variable {w W W' : World} {v : Fv} {f : Dd.Fd} {d : Dd.Dr} {c c' : Dd.Ca}
theorem Ib.next (h : Ib w v f d c W) (hb : Below W.heap.size W W') : Ib w v f d c W' :=
 ⟨h.b.trans (hb.mono h.b.size), h.kD.below hb h.kD.lt, h.kF.below hb h.kF.lt, h.kR.below hb h.kR.lt, h.kC.below hb h.kC.lt, (h.rd.below hb (Nat.le_refl _)).more hb.size, h.sn.step hb⟩
theorem Ib.set (h : Ib w v f d c W) (hF : FRd w w.heap.size v f) (hg : 9 <= w.heap.size) (i : Nat) (u : Value) (hc : (cacell c).toArray.setIfInBounds i u = (cacell c').toArray) : Ib w v f d c' (W.setCell ⟨w.heap.size + 1 + 1 + 1, i, none⟩ u) := by
 have hB := h.b.setCell (p := ⟨w.heap.size + 1 + 1 + 1, i, none⟩) (show w.heap.size <= w.heap.size + 1 + 1 + 1 by omega) u;have h3 := h.kC.lt;refine ⟨hB, h.kD.far (show w.heap.size ≠ w.heap.size + 1 + 1 + 1 by omega) u, h.kF.far (show w.heap.size + 1 ≠ w.heap.size + 1 + 1 + 1 by omega) u, h.kR.far (show w.heap.size + 1 + 1 ≠ w.heap.size + 1 + 1 + 1 by omega) u, hc ▸ h.kC.set i u, (hF.below hB (Nat.le_refl _)).more hB.size, ?_⟩;exact h.sn.below (C := 9) ((Below.refl _ _).setCell (p := ⟨w.heap.size + 1 + 1 + 1, i, none⟩) (show 9 <= w.heap.size + 1 + 1 + 1 by omega) u) (by omega)
theorem Ib.new (hF : FRd w w.heap.size v f) (hS : Sn w) : Ib w v f d d.c ((((w.alloc (.cells (drcells d).toArray 130)).alloc (.cells #[.slice v.a1 f.st.length v.c1, .slice v.a2 f.li.length v.c2, .slice v.a3 f.pa.length v.c3, .slice v.a4 f.va.length v.c4] 27)).alloc (.cells zero13 48)).alloc (.cells (cacell d.c).toArray 48)) := by
 obtain ⟨w1, h1⟩ := zE (w.alloc (.cells (drcells d).toArray 130));have z1 : w1.heap.size = w.heap.size + 1 := by rw [<- h1]; simp
 have k1 : Bk w1 w.heap.size 130 (drcells d).toArray := by rw [<- h1]; exact Bk.new _ _ _
 have b1 : Below w.heap.size w w1 := by rw [<- h1]; exact (Below.refl _ _).alloc (Nat.le_refl _) _
 rw [h1];obtain ⟨w2, h2⟩ := zE (w1.alloc (.cells #[.slice v.a1 f.st.length v.c1, .slice v.a2 f.li.length v.c2, .slice v.a3 f.pa.length v.c3, .slice v.a4 f.va.length v.c4] 27));have z2 : w2.heap.size = w.heap.size + 1 + 1 := by rw [<- h2]; simp [z1]
 have k2 : Bk w2 (w.heap.size + 1) 27 #[.slice v.a1 f.st.length v.c1, .slice v.a2 f.li.length v.c2, .slice v.a3 f.pa.length v.c3, .slice v.a4 f.va.length v.c4] := by rw [<- h2, <- z1]; exact Bk.new _ _ _
 have b2 : Below w1.heap.size w1 w2 := by rw [<- h2]; exact (Below.refl _ _).alloc (Nat.le_refl _) _
 rw [h2];obtain ⟨w3, h3⟩ := zE (w2.alloc (.cells zero13 48));have z3 : w3.heap.size = w.heap.size + 1 + 1 + 1 := by rw [<- h3]; simp [z2]
 have k3 : Bk w3 (w.heap.size + 1 + 1) 48 zero13 := by rw [<- h3, <- z2]; exact Bk.new _ _ _
 have b3 : Below w2.heap.size w2 w3 := by rw [<- h3]; exact (Below.refl _ _).alloc (Nat.le_refl _) _
 rw [h3];have k4 : Bk (w3.alloc (.cells (cacell d.c).toArray 48)) (w.heap.size + 1 + 1 + 1) 48 (cacell d.c).toArray := by rw [<- z3]; exact Bk.new _ _ _
 have b4 : Below w3.heap.size w3 (w3.alloc (.cells (cacell d.c).toArray 48)) := (Below.refl _ _).alloc (Nat.le_refl _) _;have hB := ((b1.trans (b2.mono (by omega))).trans (b3.mono (by omega))).trans (b4.mono (by omega));exact ⟨hB, ((k1.below b2 k1.lt).below b3 (by omega)).below b4 (by omega), (k2.below b3 k2.lt).below b4 (by omega), k3.below b4 k3.lt, k4, (hF.below hB (Nat.le_refl _)).more hB.size, hS.step hB⟩
theorem Ib.seen (h : Ib w v f d c W) : (W.cell? ⟨w.heap.size + 1, 0, none⟩ = some (.slice v.a1 f.st.length v.c1) /\ W.cell? ⟨w.heap.size + 1, 1, none⟩ = some (.slice v.a2 f.li.length v.c2) /\ w.heap.size + 1 < W.heap.size) /\
    (W.cell? ⟨w.heap.size, 0, none⟩ = some (.string ⟨d.l.toArray⟩) /\ W.cell? ⟨w.heap.size, 1, none⟩ = some (.string ⟨d.o.toArray⟩) /\ W.cell? ⟨w.heap.size, 2, none⟩ = some (.string ⟨d.a.toArray⟩) /\ W.cell? ⟨w.heap.size, 3, none⟩ = some (.string ⟨d.b.toArray⟩) /\ w.heap.size < W.heap.size) /\
    (W.cell? ⟨w.heap.size + 1 + 1 + 1, 0, none⟩ = some (.int .u8 c.k) /\ W.cell? ⟨w.heap.size + 1 + 1 + 1, 1, none⟩ = some (.int .i64 c.l) /\ W.cell? ⟨w.heap.size + 1 + 1 + 1, 2, none⟩ = some (.int .i64 c.o) /\ W.cell? ⟨w.heap.size + 1 + 1 + 1, 3, none⟩ = some (.int .i64 c.a) /\ W.cell? ⟨w.heap.size + 1 + 1 + 1, 4, none⟩ = some (.int .i64 c.b) /\ W.cell? ⟨w.heap.size + 1 + 1 + 1, 10, none⟩ = some (.int .i64 c.c.y)) /\
    W.frozen? ⟨w.heap.size + 1 + 1 + 1, 1, none⟩ = false /\ W.frozen? ⟨w.heap.size + 1 + 1 + 1, 2, none⟩ = false /\ W.frozen? ⟨w.heap.size + 1 + 1 + 1, 3, none⟩ = false /\ W.frozen? ⟨w.heap.size + 1 + 1 + 1, 4, none⟩ = false /\ W.frozen? ⟨w.heap.size + 1 + 1 + 1, 10, none⟩ = false /\ w.heap.size + 1 + 1 + 1 < W.heap.size :=
  ⟨⟨(h.kF.cell 0).trans rfl, (h.kF.cell 1).trans rfl, h.kF.lt⟩, ⟨(h.kD.cell 0).trans rfl, (h.kD.cell 1).trans rfl, (h.kD.cell 2).trans rfl, (h.kD.cell 3).trans rfl, h.kD.lt⟩,
    ⟨(h.kC.cell 0).trans rfl, (h.kC.cell 1).trans rfl, (h.kC.cell 2).trans rfl, (h.kC.cell 3).trans rfl, (h.kC.cell 4).trans rfl, (h.kC.cell 10).trans rfl⟩, h.kC.frozen 1, h.kC.frozen 2, h.kC.frozen 3, h.kC.frozen 4, h.kC.frozen 10, h.kC.lt⟩
end
def Io (w : World) (r : Int × Dd.Ca) (e : Ending) (w' : World) : Prop := (e = if r.1 = 0 then .returned (caval r.2) else .panicked [pan r.1]) /\ Below w.heap.size w w'
theorem Io.no {w w' : World} {r : Int × Dd.Ca} {n : Int} (hr : r.1 = n) (hn : n ≠ 0) (hb : Below w.heap.size w w') : Io w r (.panicked [pan n]) w' := ⟨by rw [hr, if_neg hn], hb⟩
set_option maxHeartbeats 16000000 in
theorem yCj (v : Fv) (f : Dd.Fd) (dl do_ da db : Cs.Bs) (k l a s e cb cn cl cy cw cs y : Int) (w : World) (hF : FRd w w.heap.size v f) (hS : Sn w) (h0 : Dd.fieldE f = 0) (hg : 9 <= w.heap.size) :
  Calls Tryz.prog 104 #[drval ⟨dl, do_, da, db, k, l, 0, a, 0, s, e, cb, cn, cl, cy, cw, cs⟩, fval v f, .int .i64 y] w (Io w (Dd.inF f y ⟨dl, do_, da, db, k, l, 0, a, 0, s, e, cb, cn, cl, cy, cw, cs⟩)) := by
 have hL1 := jQ hF.l1;have hL2 := jQ hF.l2;obtain ⟨i1, e1⟩ := zE (Dd.idx f.li dl);obtain ⟨i2, e2⟩ := zE (Dd.idx (f.st.map (·.1)) da);obtain ⟨i3, e3⟩ : ∃ i, (if do_ = [] then (0 : Int) else Dd.idx f.li do_) = i := ⟨_, rfl⟩;obtain ⟨i4, e4⟩ : ∃ i, (if db = [] then (0 : Int) else Dd.idx (f.st.map (·.1)) db) = i := ⟨_, rfl⟩;obtain ⟨yy, e5⟩ := zE ((if k = 3 then y else cy));have hin : Dd.inF f y ⟨dl, do_, da, db, k, l, 0, a, 0, s, e, cb, cn, cl, cy, cw, cs⟩ = if (i1 < 0 ∨ i2 < 0 ∨ i3 < 0 ∨ i4 < 0) then (5, Dd.ca0) else if Dd.callG f ⟨k, i1, i3, i2, i4, s, e, cb, cn, cl, yy, cw, cs⟩ = 0 then (0, ⟨k, i1, i3, i2, i4, s, e, cb, cn, cl, yy, cw, cs⟩) else (Dd.callG f ⟨k, i1, i3, i2, i4, s, e, cb, cn, cl, yy, cw, cs⟩, Dd.ca0) := by
  have e6 : (if k = 3 then ({ b := cb, n := cn, l := cl, y := y, w := cw, s := cs } : Cs.Co) else ⟨cb, cn, cl, cy, cw, cs⟩) = ⟨cb, cn, cl, yy, cw, cs⟩ := by rw [<- e5]; split <;> rfl
  simp only [Dd.inF, e1, e2, e3, e4, e6]
 have S0 := jQ (Ib.new (d := ⟨dl, do_, da, db, k, l, 0, a, 0, s, e, cb, cn, cl, cy, cw, cs⟩) hF hS);obtain ⟨R, hR⟩ := zE (Dd.inF f y ⟨dl, do_, da, db, k, l, 0, a, 0, s, e, cb, cn, cl, cy, cw, cs⟩);rw [hR] at hin ⊢;obtain ⟨G, hG⟩ := zE (Dd.callG f ⟨k, i1, i3, i2, i4, s, e, cb, cn, cl, yy, cw, cs⟩);rw [hG] at hin;have HIN := jQ hin;have HG := jQ hG;have E1 := jQ e1;have E2 := jQ e2;have E3 := jQ e3;have E4 := jQ e4;have E5 := jQ e5;have HF := jQ hF;have HGG := jQ hg;have H00 := jQ h0;clear hin hG hF hS hg h0 hR e1 e2 e3 e4 e5;obtain ⟨⟨x0, x1, lx⟩, ⟨y0, y1, y2, y3, ly⟩, ⟨z0, z1, z2, z3, z4, z10⟩, q1, q2, q3, q4, q10, lz⟩ := S0.o.seen;have D0 := (S0.o.kD.cell 4).trans rfl;have D1 := (S0.o.kD.cell 5).trans rfl;have D2 := (S0.o.kD.cell 6).trans rfl;have D3 := (S0.o.kD.cell 7).trans rfl;have D4 := (S0.o.kD.cell 8).trans rfl;have D5 := (S0.o.kD.cell 9).trans rfl;have D6 := (S0.o.kD.cell 10).trans rfl;have D7 := (S0.o.kD.cell 11).trans rfl;have D8 := (S0.o.kD.cell 12).trans rfl;have D9 := (S0.o.kD.cell 13).trans rfl;have D10 := (S0.o.kD.cell 14).trans rfl;have D11 := (S0.o.kD.cell 15).trans rfl;have D12 := (S0.o.kD.cell 16).trans rfl;simp only [y01, drval, drcells];go_enter Tryz.func104, Tryz.ntmps104;go_wp2_with fail;clear D0 D1 D2 D3 D4 D5 D6 D7 D8 D9 D10 D11 D12 x0 x1 lx y0 y1 y2 y3 ly z0 z1 z2 z3 z4 z10 q1 q2 q3 q4 q10 lz;refine (y1R v.a2 v.c2 f.li dl _ S0.o.rd.li hL2.o).mono ?_;rw [E1.o];rintro ee w1 ⟨he, hb⟩;by_cases hi : i1 < 0
 ·rw [if_pos hi] at he;subst he;have HX := jQ (show R.1 = 5 by rw [HIN.o, if_pos (.inl hi)]);have T1 := jQ (S0.o.next hb);clear hb hi;go_wp2_with fail;exact ⟨rfl, Io.no HX.o (by decide) T1.o.b⟩
 rw [if_neg hi] at he;subst he;have Ni1 := jQ hi;have T0 := jQ (S0.o.next hb);clear hb hi;obtain ⟨⟨x0, x1, lx⟩, ⟨y0, y1, y2, y3, ly⟩, ⟨z0, z1, z2, z3, z4, z10⟩, q1, q2, q3, q4, q10, lz⟩ := T0.o.seen;have hst : Ib w v f ⟨dl, do_, da, db, k, l, 0, a, 0, s, e, cb, cn, cl, cy, cw, cs⟩ ⟨k, i1, 0, a, 0, s, e, cb, cn, cl, cy, cw, cs⟩ _ := T0.o.set HF.o HGG.o 1 (.int .i64 i1) rfl;go_upto_region 3 with fail;refine y0i (fun V => Ib w v f ⟨dl, do_, da, db, k, l, 0, a, 0, s, e, cb, cn, cl, cy, cw, cs⟩ ⟨k, i1, 0, a, 0, s, e, cb, cn, cl, cy, cw, cs⟩ V) hst ?_;clear x0 x1 lx y0 y1 y2 y3 ly z0 z1 z2 z3 z4 z10 q1 q2 q3 q4 q10 lz hst T0 S0;intro W1 hs;have S1 := jQ hs;clear hs;obtain ⟨⟨x0, x1, lx⟩, ⟨y0, y1, y2, y3, ly⟩, ⟨z0, z1, z2, z3, z4, z10⟩, q1, q2, q3, q4, q10, lz⟩ := S1.o.seen;go_wp2_with fail;clear x0 x1 lx y0 y1 y2 y3 ly z0 z1 z2 z3 z4 z10 q1 q2 q3 q4 q10 lz;refine (y0d v.a1 v.c1 f.st da _ S1.o.rd.st hL1.o).mono ?_;rw [E2.o];rintro ee w2 ⟨he, hb⟩;by_cases hi : i2 < 0
 ·rw [if_pos hi] at he;subst he;have HX := jQ (show R.1 = 5 by rw [HIN.o, if_pos (.inr (.inl hi))]);have T1 := jQ (S1.o.next hb);clear hb hi;go_wp2_with fail;exact ⟨rfl, Io.no HX.o (by decide) T1.o.b⟩
 rw [if_neg hi] at he;subst he;have Ni2 := jQ hi;have T1 := jQ (S1.o.next hb);clear hb hi;obtain ⟨⟨x0, x1, lx⟩, ⟨y0, y1, y2, y3, ly⟩, ⟨z0, z1, z2, z3, z4, z10⟩, q1, q2, q3, q4, q10, lz⟩ := T1.o.seen;have hst : Ib w v f ⟨dl, do_, da, db, k, l, 0, a, 0, s, e, cb, cn, cl, cy, cw, cs⟩ ⟨k, i1, 0, i2, 0, s, e, cb, cn, cl, cy, cw, cs⟩ _ := T1.o.set HF.o HGG.o 3 (.int .i64 i2) rfl;go_upto_region 4 with fail;refine y0i (fun V => Ib w v f ⟨dl, do_, da, db, k, l, 0, a, 0, s, e, cb, cn, cl, cy, cw, cs⟩ ⟨k, i1, 0, i2, 0, s, e, cb, cn, cl, cy, cw, cs⟩ V) hst ?_;clear x0 x1 lx y0 y1 y2 y3 ly z0 z1 z2 z3 z4 z10 q1 q2 q3 q4 q10 lz hst T1 S1;intro W2 hs;have S2 := jQ hs;clear hs;obtain ⟨⟨x0, x1, lx⟩, ⟨y0, y1, y2, y3, ly⟩, ⟨z0, z1, z2, z3, z4, z10⟩, q1, q2, q3, q4, q10, lz⟩ := S2.o.seen
 go_upto_if 25 with fail
 go_cut [31] (fun _ wx => Ib w v f ⟨dl, do_, da, db, k, l, 0, a, 0, s, e, cb, cn, cl, cy, cw, cs⟩ ⟨k, i1, i3, i2, 0, s, e, cb, cn, cl, cy, cw, cs⟩ wx /\ ¬ i3 < 0)
 case first =>
  by_cases ho : do_ = []
  ·have HI := jQ (E3.o.symm.trans (if_pos ho));subst ho;go_wp2_with fail
   all_goals
    go_meet;rw [HI.o];exact ⟨S2.o, by decide⟩
  have HI := jQ (E3.o.symm.trans (if_neg ho));have g3 : (!do_.isEmpty) = true := by simpa using ho
  clear ho;go_wp2_with fail;refine (y1R v.a2 v.c2 f.li do_ _ S2.o.rd.li hL2.o).mono ?_;rw [<- HI.o];rintro ee w3 ⟨he, hb⟩;by_cases hi : i3 < 0
  ·rw [if_pos hi] at he;subst he;have HX := jQ (show R.1 = 5 by rw [HIN.o, if_pos (.inr (.inr (.inl hi)))]);have T1 := jQ (S2.o.next hb);clear hb hi x0 x1 lx y0 y1 y2 y3 ly z0 z1 z2 z3 z4 z10 q1 q2 q3 q4 q10 lz;go_wp2_with fail;exact ⟨rfl, Io.no HX.o (by decide) T1.o.b⟩
  rw [if_neg hi] at he;subst he;have Ni := jQ hi;have T1 := jQ (S2.o.next hb);clear hb hi x0 x1 lx y0 y1 y2 y3 ly z0 z1 z2 z3 z4 z10 q1 q2 q3 q4 q10 lz;obtain ⟨⟨x0, x1, lx⟩, ⟨y0, y1, y2, y3, ly⟩, ⟨z0, z1, z2, z3, z4, z10⟩, q1, q2, q3, q4, q10, lz⟩ := T1.o.seen;have hst : Ib w v f ⟨dl, do_, da, db, k, l, 0, a, 0, s, e, cb, cn, cl, cy, cw, cs⟩ ⟨k, i1, i3, i2, 0, s, e, cb, cn, cl, cy, cw, cs⟩ _ := T1.o.set HF.o HGG.o 2 (.int .i64 i3) rfl;have HST := jQ hst;clear hst;go_wp2_with fail
  all_goals first
   | (go_meet; exact ⟨HST.o, Ni.o⟩)
   | simp_all
 case rest =>
 obtain ⟨hs, hni⟩ := hcut;have NS3 := jQ hni;have S3 := jQ hs;clear hs hni x0 x1 lx y0 y1 y2 y3 ly z0 z1 z2 z3 z4 z10 q1 q2 q3 q4 q10 lz;obtain ⟨⟨x0, x1, lx⟩, ⟨y0, y1, y2, y3, ly⟩, ⟨z0, z1, z2, z3, z4, z10⟩, q1, q2, q3, q4, q10, lz⟩ := S3.o.seen
 go_upto_if 34 with fail
 go_cut [40] (fun _ wx => Ib w v f ⟨dl, do_, da, db, k, l, 0, a, 0, s, e, cb, cn, cl, cy, cw, cs⟩ ⟨k, i1, i3, i2, i4, s, e, cb, cn, cl, cy, cw, cs⟩ wx /\ ¬ i4 < 0)
 case first =>
  by_cases ho : db = []
  ·have HI := jQ (E4.o.symm.trans (if_pos ho));subst ho;go_wp2_with fail
   all_goals
    go_meet;rw [HI.o];exact ⟨S3.o, by decide⟩
  have HI := jQ (E4.o.symm.trans (if_neg ho));have g3 : (!db.isEmpty) = true := by simpa using ho
  clear ho;go_wp2_with fail;refine (y0d v.a1 v.c1 f.st db _ S3.o.rd.st hL1.o).mono ?_;rw [<- HI.o];rintro ee w3 ⟨he, hb⟩;by_cases hi : i4 < 0
  ·rw [if_pos hi] at he;subst he;have HX := jQ (show R.1 = 5 by rw [HIN.o, if_pos (.inr (.inr (.inr hi)))]);have T1 := jQ (S3.o.next hb);clear hb hi x0 x1 lx y0 y1 y2 y3 ly z0 z1 z2 z3 z4 z10 q1 q2 q3 q4 q10 lz;go_wp2_with fail;exact ⟨rfl, Io.no HX.o (by decide) T1.o.b⟩
  rw [if_neg hi] at he;subst he;have Ni := jQ hi;have T1 := jQ (S3.o.next hb);clear hb hi x0 x1 lx y0 y1 y2 y3 ly z0 z1 z2 z3 z4 z10 q1 q2 q3 q4 q10 lz;obtain ⟨⟨x0, x1, lx⟩, ⟨y0, y1, y2, y3, ly⟩, ⟨z0, z1, z2, z3, z4, z10⟩, q1, q2, q3, q4, q10, lz⟩ := T1.o.seen;have hst : Ib w v f ⟨dl, do_, da, db, k, l, 0, a, 0, s, e, cb, cn, cl, cy, cw, cs⟩ ⟨k, i1, i3, i2, i4, s, e, cb, cn, cl, cy, cw, cs⟩ _ := T1.o.set HF.o HGG.o 4 (.int .i64 i4) rfl;have HST := jQ hst;clear hst;go_wp2_with fail
  all_goals first
   | (go_meet; exact ⟨HST.o, Ni.o⟩)
   | simp_all
 case rest =>
 obtain ⟨hs, hni⟩ := hcut;have NS4 := jQ hni;have S4 := jQ hs;clear hs hni x0 x1 lx y0 y1 y2 y3 ly z0 z1 z2 z3 z4 z10 q1 q2 q3 q4 q10 lz;obtain ⟨⟨x0, x1, lx⟩, ⟨y0, y1, y2, y3, ly⟩, ⟨z0, z1, z2, z3, z4, z10⟩, q1, q2, q3, q4, q10, lz⟩ := S4.o.seen
 go_upto_if 43 with fail
 go_cut [44] (fun _ wx => Ib w v f ⟨dl, do_, da, db, k, l, 0, a, 0, s, e, cb, cn, cl, cy, cw, cs⟩ ⟨k, i1, i3, i2, i4, s, e, cb, cn, cl, yy, cw, cs⟩ wx)
 case first =>
  by_cases hk : k = 3
  ·have HI := jQ (E5.o.symm.trans (if_pos hk));have g5 : (k == 3) = true := by simpa using hk
   have hst : Ib w v f ⟨dl, do_, da, db, k, l, 0, a, 0, s, e, cb, cn, cl, cy, cw, cs⟩ ⟨k, i1, i3, i2, i4, s, e, cb, cn, cl, yy, cw, cs⟩ _ := S4.o.set HF.o HGG.o 10 (.int .i64 yy) rfl;have HST := jQ hst;rw [HI.o] at HST;clear hst hk;go_wp2_with fail
   all_goals
    go_meet;rw [HI.o];exact HST.o
  have HI := jQ (E5.o.symm.trans (if_neg hk));have g5 : (k == 3) = false := by simpa using hk
  clear hk;go_wp2_with fail
  all_goals
   go_meet;rw [HI.o];exact S4.o
 case rest =>
 have S5 := jQ hcut;clear hcut x0 x1 lx y0 y1 y2 y3 ly z0 z1 z2 z3 z4 z10 q1 q2 q3 q4 q10 lz;go_wp2_with (first | (refine wpList_load_row rfl 48 (.tmp 7) rfl (w.heap.size + 1 + 1 + 1) rfl 48 _ (0, 0) _ S5.o.kC Tryz.underlying48 rfl (by kernel_rfl) ?_) | (refine wpList_load_row rfl 27 (.tmp 4) rfl (w.heap.size + 1) rfl 27 _ (0, 0) _ S5.o.kF Tryz.underlying27 rfl (by kernel_rfl) ?_));have HNN := jQ (show ¬ (i1 < 0 ∨ i2 < 0 ∨ i3 < 0 ∨ i4 < 0) by have := Ni1.o; have := Ni2.o; have := NS3.o; have := NS4.o; omega);refine (y21 v f ⟨k, i1, i3, i2, i4, s, e, cb, cn, cl, yy, cw, cs⟩ _ S5.o.rd S5.o.sn H00.o).mono ?_;rw [HG.o];rintro ee w5 ⟨rfl, hb⟩;have S6 := jQ (S5.o.next hb);clear hb;by_cases hz : G = 0
 ·subst hz;have HR := jQ (show R = (0, ⟨k, i1, i3, i2, i4, s, e, cb, cn, cl, yy, cw, cs⟩) by rw [HIN.o, if_neg HNN.o, if_pos rfl]);have N0 := jQ (y0L 0);go_wp2_with fail;refine (N0.o _).mono ?_;rintro ee w6 ⟨rfl, hb⟩;have S7 := jQ (S6.o.next hb);clear hb;go_wp2_with (first | (refine wpList_load_row rfl 48 (.tmp 7) rfl (w.heap.size + 1 + 1 + 1) rfl 48 _ (0, 0) _ S7.o.kC Tryz.underlying48 rfl (by kernel_rfl) ?_) | (refine wpList_store_row rfl 48 (.tmp 6) (.tmp 54) rfl (w.heap.size + 1 + 1) _ rfl rfl 48 _ S7.o.kR (by kernel_rfl) rfl (by kernel_rfl) ?_));refine bodyPost_ret (y09 rfl _ _ (w.heap.size + 1 + 1) 48 _ (0, 0) _ rfl (S7.o.kR.row (cacell ⟨k, i1, i3, i2, i4, s, e, cb, cn, cl, yy, cw, cs⟩).toArray) Tryz.underlying48 rfl (by kernel_rfl)) rfl ?_;exact ⟨by rw [HR.o]; rfl, Below.rowNew S7.o.b (by omega) _⟩
 have HR := jQ (show R.1 = G by rw [HIN.o, if_neg HNN.o, if_neg hz]);have HZ := jQ hz;have g6 : (G == 0) = false := by simpa using hz
 have N0 := jQ (y0U G);clear hz;go_wp2_with fail;refine (N0.o _).mono ?_;rintro ee w6 ⟨rfl, hb⟩;have S7 := jQ (S6.o.next hb);clear hb;go_wp2_with fail;exact ⟨rfl, Io.no HR.o HZ.o S7.o.b⟩
theorem y7m (v : Fv) (f : Dd.Fd) (d : Dd.Dr) (y : Int) (w : World) (hF : FRd w w.heap.size v f) (hS : Sn w) (h0 : Dd.fieldE f = 0) (hg : 9 <= w.heap.size) (hd : d.c.o = 0 /\ d.c.b = 0) :
  Calls Tryz.prog 104 #[drval d, fval v f, .int .i64 y] w (Io w (Dd.inF f y d)) := by
 obtain ⟨dl, do_, da, db, k, l, o, a, b, s, e, cb, cn, cl, cy, cw, cs⟩ := d;obtain ⟨h1, h2⟩ := hd;dsimp only at h1 h2;subst h1 h2;exact yCj v f dl do_ da db k l a s e cb cn cl cy cw cs y w hF hS h0 hg
end
end Go.Proofs.YtccikcpcfdjobaaGreatDoor
