/-
  What the claim needs: contracts.
-/
import Derived.Test.YtccikcpcfdjobaaGreatDoorBs21
set_option linter.unusedVariables false
set_option linter.unusedSimpArgs false
set_option maxHeartbeats 8000000
set_option maxRecDepth 100000
namespace Go.Proofs.YtccikcpcfdjobaaGreatDoor
section
open Go.RowKit
structure Ck (w : World) (v : Fv) (f : Dd.Fd) (x : Dd.Ca) (W : World) : Prop where
 fs : Fs w w.heap.size v f W
 kC : Bk W (w.heap.size + 1) 48 #[.int .u8 x.k, .int .i64 x.l, .int .i64 x.o, .int .i64 x.a, .int .i64 x.b, .int .i64 x.s, .int .i64 x.e, .int .i64 x.c.b, .int .i64 x.c.n, .int .i64 x.c.l, .int .i64 x.c.y, .int .i64 x.c.w, .int .i64 x.c.s]
 sn : Sn W
section
variable {w W W' : World} {v : Fv} {f : Dd.Fd} {x : Dd.Ca}
theorem Ck.next (h : Ck w v f x W) (hb : Below W.heap.size W W') : Ck w v f x W' := ⟨h.fs.next hb, h.kC.below hb h.kC.lt, h.sn.step hb⟩
theorem Ck.new (hF : FRd w w.heap.size v f) (hS : Sn w) : Ck w v f x ((w.alloc (.cells #[.slice v.a1 f.st.length v.c1, .slice v.a2 f.li.length v.c2, .slice v.a3 f.pa.length v.c3, .slice v.a4 f.va.length v.c4] 27)).alloc (.cells #[.int .u8 x.k, .int .i64 x.l, .int .i64 x.o, .int .i64 x.a, .int .i64 x.b, .int .i64 x.s, .int .i64 x.e, .int .i64 x.c.b, .int .i64 x.c.n, .int .i64 x.c.l, .int .i64 x.c.y, .int .i64 x.c.w, .int .i64 x.c.s] 48)) := by
 obtain ⟨w1, h1⟩ := zE (w.alloc (.cells #[.slice v.a1 f.st.length v.c1, .slice v.a2 f.li.length v.c2, .slice v.a3 f.pa.length v.c3, .slice v.a4 f.va.length v.c4] 27));have z1 : w1.heap.size = w.heap.size + 1 := by rw [<- h1]; simp
 have f1 : Fs w w.heap.size v f w1 := h1 ▸ Fs.new hF;rw [h1];have b2 : Below w1.heap.size w1 (w1.alloc (.cells #[.int .u8 x.k, .int .i64 x.l, .int .i64 x.o, .int .i64 x.a, .int .i64 x.b, .int .i64 x.s, .int .i64 x.e, .int .i64 x.c.b, .int .i64 x.c.n, .int .i64 x.c.l, .int .i64 x.c.y, .int .i64 x.c.w, .int .i64 x.c.s] 48)) := (Below.refl _ _).alloc (Nat.le_refl _) _;exact ⟨f1.next b2, by rw [<- z1]; exact Bk.new _ _ _, hS.step (f1.next b2).b⟩
theorem Ck.cells (h : Ck w v f x W) : W.cell? ⟨w.heap.size + 1, 0, none⟩ = some (.int .u8 x.k) /\ W.cell? ⟨w.heap.size + 1, 1, none⟩ = some (.int .i64 x.l) /\ W.cell? ⟨w.heap.size + 1, 2, none⟩ = some (.int .i64 x.o) /\ W.cell? ⟨w.heap.size + 1, 3, none⟩ = some (.int .i64 x.a) /\ W.cell? ⟨w.heap.size + 1, 4, none⟩ = some (.int .i64 x.b) /\ W.cell? ⟨w.heap.size + 1, 5, none⟩ = some (.int .i64 x.s) /\ W.cell? ⟨w.heap.size + 1, 6, none⟩ = some (.int .i64 x.e) /\ W.cell? ⟨w.heap.size + 1, 7, none⟩ = some (.int .i64 x.c.b) /\ W.cell? ⟨w.heap.size + 1, 8, none⟩ = some (.int .i64 x.c.n) /\ W.cell? ⟨w.heap.size + 1, 9, none⟩ = some (.int .i64 x.c.l) /\ W.cell? ⟨w.heap.size + 1, 10, none⟩ = some (.int .i64 x.c.y) /\ W.cell? ⟨w.heap.size + 1, 11, none⟩ = some (.int .i64 x.c.w) /\ W.cell? ⟨w.heap.size + 1, 12, none⟩ = some (.int .i64 x.c.s) /\ w.heap.size + 1 < W.heap.size :=
 ⟨(h.kC.cell 0).trans rfl, (h.kC.cell 1).trans rfl, (h.kC.cell 2).trans rfl, (h.kC.cell 3).trans rfl, (h.kC.cell 4).trans rfl, (h.kC.cell 5).trans rfl, (h.kC.cell 6).trans rfl, (h.kC.cell 7).trans rfl, (h.kC.cell 8).trans rfl, (h.kC.cell 9).trans rfl, (h.kC.cell 10).trans rfl, (h.kC.cell 11).trans rfl, (h.kC.cell 12).trans rfl, h.kC.lt⟩
end
theorem Dd.y19 {f : Dd.Fd} (h : Dd.fieldE f = 0) : ∀ t ∈ f.st, 0 <= t.2 /\ t.2 <= 100000 := by
 obtain ⟨_, _, _, _, _, _, _, _, hr, _⟩ := Dd.y0G h;simp only [Dd.rangeF, Bool.and_eq_true, List.all_eq_true] at hr;intro t ht;have := hr.1 _ ht;simpa [Dd.xOk] using this
theorem y21 (v : Fv) (f : Dd.Fd) (x : Dd.Ca) (w : World) (hF : FRd w w.heap.size v f) (hS : Sn w) (h0 : Dd.fieldE f = 0) :
  Calls Tryz.prog 70 #[fval v f, caval x] w fun e w' => e = .returned (.int .i64 (Dd.callG f x)) /\ Below w.heap.size w w' := by
 have hd : Dd.callG f x = if Dd.there f x && Dd.ordered x && Dd.bare x then
  (if x.k ≠ 3 then 0 else if (Cs.comF f.va [x.c] (Dd.run f x)).2 ≠ 0 then (Cs.comF f.va [x.c] (Dd.run f x)).2
   else if (Cs.comF f.va [x.c] (Dd.run f x)).1.2.2 then 0 else 5) else 1 := rfl
 have S0 := jQ (Ck.new (x := x) hF hS);have B1 := jQ (fun W => y76 v f x W);have B2 := jQ (fun W => y4z x W);have B3 := jQ (fun W => y8g x W);have B4 := jQ (fun (ht : Dd.there f x = true) W (h : Ck w v f x W) => y2A v f x W h.fs.rd h.sn (Dd.y19 h0)
  (by simp only [Dd.there, Dd.isIx, Bool.and_eq_true, decide_eq_true_eq] at ht; exact ht.1.1.1.2) (by simp only [Dd.there, Dd.isIx, Bool.and_eq_true, decide_eq_true_eq] at ht; exact ht.1.1.2))
 rw [hd];obtain ⟨R, hR⟩ := zE (Cs.comF f.va [x.c] (Dd.run f x));rw [hR] at B4 ⊢;obtain ⟨⟨lo, hi, fits⟩, er⟩ := R;dsimp only at B4 ⊢;obtain ⟨fa, fb, fc, fd, fe⟩ := S0.o.fs.cells;obtain ⟨c0, c1, c2, c3, c4, c5, c6, c7, c8, c9, c10, c11, c12, cl⟩ := S0.o.cells;simp only [y01, y03] at B1 B2 B3 B4 ⊢;clear hd hF hS hR h0;rcases z1 : Dd.there f x with _ | _
 ·have D1 := jQ z1;rw [Bool.false_and, Bool.false_and, if_neg (by simp)];clear z1 B4;go_enter Tryz.func70, Tryz.ntmps70;go_wp2_with (go_at_call 122; refine (B1.o _).mono ?_; rw [D1.o]; rintro ee w1 ⟨rfl, hb1⟩; have S1 := jQ (S0.o.next hb1); clear hb1; obtain ⟨ga, gb, gc, gd, ge⟩ := S1.o.fs.cells; obtain ⟨g0, g1, g2, g3, g4, g5, g6, g7, g8, g9, g10, g11, g12, gl⟩ := S1.o.cells);go_ret;exact ⟨rfl, S1.o.fs.b⟩
 have D1 := jQ z1;have B4 := jQ (B4.o z1);rcases z2 : Dd.ordered x with _ | _
 ·have D2 := jQ z2;rw [Bool.true_and, Bool.false_and, if_neg (by simp)];clear z1 z2 B4;go_enter Tryz.func70, Tryz.ntmps70;go_wp2_with (first | (go_at_call 122; refine (B1.o _).mono ?_; rw [D1.o]; rintro ee w1 ⟨rfl, hb1⟩; have S1 := jQ (S0.o.next hb1); clear hb1; obtain ⟨ga, gb, gc, gd, ge⟩ := S1.o.fs.cells; obtain ⟨g0, g1, g2, g3, g4, g5, g6, g7, g8, g9, g10, g11, g12, gl⟩ := S1.o.cells) | (go_at_call 123; refine (B2.o _).mono ?_; rw [D2.o]; rintro ee w2 ⟨rfl, hb2⟩; have S2 := jQ (S1.o.next hb2); clear hb2; obtain ⟨ha, hb, hc, hd, he⟩ := S2.o.fs.cells; obtain ⟨h0, h1, h2, h3, h4, h5, h6, h7, h8, h9, h10, h11, h12, hl⟩ := S2.o.cells));go_ret;exact ⟨rfl, S2.o.fs.b⟩
 have D2 := jQ z2;rcases z3 : Dd.bare x with _ | _
 ·have D3 := jQ z3;rw [Bool.and_false, if_neg (by simp)];clear z1 z2 z3 B4;go_enter Tryz.func70, Tryz.ntmps70;go_wp2_with (first | (go_at_call 122; refine (B1.o _).mono ?_; rw [D1.o]; rintro ee w1 ⟨rfl, hb1⟩; have S1 := jQ (S0.o.next hb1); clear hb1; obtain ⟨ga, gb, gc, gd, ge⟩ := S1.o.fs.cells; obtain ⟨g0, g1, g2, g3, g4, g5, g6, g7, g8, g9, g10, g11, g12, gl⟩ := S1.o.cells) | (go_at_call 123; refine (B2.o _).mono ?_; rw [D2.o]; rintro ee w2 ⟨rfl, hb2⟩; have S2 := jQ (S1.o.next hb2); clear hb2; obtain ⟨ha, hb, hc, hd, he⟩ := S2.o.fs.cells; obtain ⟨h0, h1, h2, h3, h4, h5, h6, h7, h8, h9, h10, h11, h12, hl⟩ := S2.o.cells) | (go_at_call 124; refine (B3.o _).mono ?_; rw [D3.o]; rintro ee w3 ⟨rfl, hb3⟩; have S3 := jQ (S2.o.next hb3); clear hb3; obtain ⟨ia, ib, ic, id, ie⟩ := S3.o.fs.cells; obtain ⟨i0, i1, i2, i3, i4, i5, i6, i7, i8, i9, i10, i11, i12, il⟩ := S3.o.cells));go_ret;exact ⟨rfl, S3.o.fs.b⟩
 have D3 := jQ z3;rw [Bool.true_and, Bool.true_and, if_pos rfl];clear z1 z2 z3;by_cases hk : x.k = 3
 ·have hk1 : (x.k != 3) = false := by simp [hk]
  rw [if_neg (by simp [hk])];by_cases he : er = 0
  ·have he1 : (er == 0) = true := by simp [he]
   rw [if_neg (by simp [he])];rcases fits with _ | _
   all_goals
    clear hk he;go_enter Tryz.func70, Tryz.ntmps70;go_wp2_with (first | (go_at_call 122; refine (B1.o _).mono ?_; rw [D1.o]; rintro ee w1 ⟨rfl, hb1⟩; have S1 := jQ (S0.o.next hb1); clear hb1; obtain ⟨ga, gb, gc, gd, ge⟩ := S1.o.fs.cells; obtain ⟨g0, g1, g2, g3, g4, g5, g6, g7, g8, g9, g10, g11, g12, gl⟩ := S1.o.cells) | (go_at_call 123; refine (B2.o _).mono ?_; rw [D2.o]; rintro ee w2 ⟨rfl, hb2⟩; have S2 := jQ (S1.o.next hb2); clear hb2; obtain ⟨ha, hb, hc, hd, he⟩ := S2.o.fs.cells; obtain ⟨h0, h1, h2, h3, h4, h5, h6, h7, h8, h9, h10, h11, h12, hl⟩ := S2.o.cells) | (go_at_call 124; refine (B3.o _).mono ?_; rw [D3.o]; rintro ee w3 ⟨rfl, hb3⟩; have S3 := jQ (S2.o.next hb3); clear hb3; obtain ⟨ia, ib, ic, id, ie⟩ := S3.o.fs.cells; obtain ⟨i0, i1, i2, i3, i4, i5, i6, i7, i8, i9, i10, i11, i12, il⟩ := S3.o.cells) | (go_at_call 125; refine (B4.o _ S3.o).mono ?_; rintro ee w4 ⟨rfl, hb4⟩; have S4 := jQ (S3.o.next hb4); clear hb4));go_ret;exact ⟨y02 (by first | rfl | simp_all), S4.o.fs.b⟩
  have he1 : (er == 0) = false := by simp [he]
  rw [if_pos he];clear hk he;go_enter Tryz.func70, Tryz.ntmps70;go_wp2_with (first | (go_at_call 122; refine (B1.o _).mono ?_; rw [D1.o]; rintro ee w1 ⟨rfl, hb1⟩; have S1 := jQ (S0.o.next hb1); clear hb1; obtain ⟨ga, gb, gc, gd, ge⟩ := S1.o.fs.cells; obtain ⟨g0, g1, g2, g3, g4, g5, g6, g7, g8, g9, g10, g11, g12, gl⟩ := S1.o.cells) | (go_at_call 123; refine (B2.o _).mono ?_; rw [D2.o]; rintro ee w2 ⟨rfl, hb2⟩; have S2 := jQ (S1.o.next hb2); clear hb2; obtain ⟨ha, hb, hc, hd, he⟩ := S2.o.fs.cells; obtain ⟨h0, h1, h2, h3, h4, h5, h6, h7, h8, h9, h10, h11, h12, hl⟩ := S2.o.cells) | (go_at_call 124; refine (B3.o _).mono ?_; rw [D3.o]; rintro ee w3 ⟨rfl, hb3⟩; have S3 := jQ (S2.o.next hb3); clear hb3; obtain ⟨ia, ib, ic, id, ie⟩ := S3.o.fs.cells; obtain ⟨i0, i1, i2, i3, i4, i5, i6, i7, i8, i9, i10, i11, i12, il⟩ := S3.o.cells) | (go_at_call 125; refine (B4.o _ S3.o).mono ?_; rintro ee w4 ⟨rfl, hb4⟩; have S4 := jQ (S3.o.next hb4); clear hb4));go_ret;exact ⟨rfl, S4.o.fs.b⟩
 have hk1 : (x.k != 3) = true := by simp [hk]
 rw [if_pos hk];clear hk B4;go_enter Tryz.func70, Tryz.ntmps70;go_wp2_with (first | (go_at_call 122; refine (B1.o _).mono ?_; rw [D1.o]; rintro ee w1 ⟨rfl, hb1⟩; have S1 := jQ (S0.o.next hb1); clear hb1; obtain ⟨ga, gb, gc, gd, ge⟩ := S1.o.fs.cells; obtain ⟨g0, g1, g2, g3, g4, g5, g6, g7, g8, g9, g10, g11, g12, gl⟩ := S1.o.cells) | (go_at_call 123; refine (B2.o _).mono ?_; rw [D2.o]; rintro ee w2 ⟨rfl, hb2⟩; have S2 := jQ (S1.o.next hb2); clear hb2; obtain ⟨ha, hb, hc, hd, he⟩ := S2.o.fs.cells; obtain ⟨h0, h1, h2, h3, h4, h5, h6, h7, h8, h9, h10, h11, h12, hl⟩ := S2.o.cells) | (go_at_call 124; refine (B3.o _).mono ?_; rw [D3.o]; rintro ee w3 ⟨rfl, hb3⟩; have S3 := jQ (S2.o.next hb3); clear hb3; obtain ⟨ia, ib, ic, id, ie⟩ := S3.o.fs.cells; obtain ⟨i0, i1, i2, i3, i4, i5, i6, i7, i8, i9, i10, i11, i12, il⟩ := S3.o.cells));go_ret;exact ⟨rfl, S3.o.fs.b⟩
theorem y0B (v : Fv) (f : Dd.Fd) (x : Dd.Ca) (w : World) (hF : FRd w w.heap.size v f) (hS : Sn w) :
  Calls Tryz.prog 31 #[fval v f, caval x] w fun e w' => e = .returned (.int .i64 (Dd.callE f x)) /\ Below w.heap.size w w' := by
 have hd : Dd.callE f x = if Dd.fieldE f ≠ 0 then Dd.fieldE f else Dd.callG f x := rfl
 have S0 := jQ (Ck.new (x := x) hF hS);have B0 := jQ (fun W (h : Ck w v f x W) => y0Y v f W h.fs.rd);have B1 := jQ (fun (h0 : Dd.fieldE f = 0) W (h : Ck w v f x W) => y21 v f x W h.fs.rd h.sn h0);rw [hd];obtain ⟨ef, hef⟩ := zE (Dd.fieldE f);rw [hef] at B0 B1 ⊢;obtain ⟨R, hR⟩ := zE (Dd.callG f x);rw [hR] at B1 ⊢;obtain ⟨fa, fb, fc, fd, fe⟩ := S0.o.fs.cells;obtain ⟨c0, c1, c2, c3, c4, c5, c6, c7, c8, c9, c10, c11, c12, cl⟩ := S0.o.cells;simp only [y01, y03] at B0 B1 ⊢;clear hd hF hS hR hef;by_cases he : ef = 0
 ·have B2 := jQ (B1.o he);have he1 : (ef != 0) = false := by simp [he]
  rw [if_neg (by simp [he])];clear he;go_enter Tryz.func31, Tryz.ntmps31;go_wp2_with fail;refine (B0.o _ S0.o).mono ?_;rintro e w1 ⟨rfl, hb1⟩;have S1 := jQ (S0.o.next hb1);clear hb1;obtain ⟨ga, gb, gc, gd, ge⟩ := S1.o.fs.cells;obtain ⟨g0, g1, g2, g3, g4, g5, g6, g7, g8, g9, g10, g11, g12, gl⟩ := S1.o.cells;go_wp2_with fail;refine (B2.o _ S1.o).mono ?_;rintro e w2 ⟨rfl, hb2⟩;have S2 := jQ (S1.o.next hb2);clear hb2;go_wp2_with fail;go_ret;exact ⟨rfl, S2.o.fs.b⟩
 rw [if_pos he];have he1 : (ef != 0) = true := by simp [he]
 clear he;go_enter Tryz.func31, Tryz.ntmps31;go_wp2_with fail;refine (B0.o _ S0.o).mono ?_;rintro e w1 ⟨rfl, hb1⟩;have S1 := jQ (S0.o.next hb1);clear hb1;go_wp2_with fail;go_ret;exact ⟨rfl, S1.o.fs.b⟩
end
end Go.Proofs.YtccikcpcfdjobaaGreatDoor
