/-
  What the claims of layer deed need of the texts DLf, DLc, DQb2, DQb3, DQb4, DQb.
-/
import Derived.Deep.RegionHeld3
import Derived.Test.YtccikcpcfdjobaaGreatDoorBq41
import Derived.Test.YtccikcpcfdjobaaGreatDoorBq32
import Derived.Test.YtccikcpcfdjobaaGreatDoorBq05
import Derived.Test.YtccikcpcfdjobaaGreatDoorBq28
import Derived.Test.YtccikcpcfdjobaaGreatDoorBz
set_option linter.unusedVariables false
set_option linter.unusedSimpArgs false
set_option maxHeartbeats 8000000
set_option maxRecDepth 100000
namespace Go.Proofs.YtccikcpcfdjobaaGreatDoor
section
open Go.RowKit
theorem FRw.more {w : World} {B B' : Nat} {v : Fv} {f : Dd.Fd} (h : FRw w B v f) (hB : B ≤ B') : FRw w B' v f :=
 ⟨h.st.more hB, h.li.more hB, h.pa.more hB, h.va.more hB, h.k1, h.k2, h.k3, h.l1, h.l2, h.l3, h.l4, h.n1, h.n2, h.n3⟩
end

section
open Go.RowKit
structure Lc (w : World) (v : Fv) (f : Dd.Fd) (x : Dd.Ca) (A : Option Addr) (y : List Int) (W : World) : Prop where
 b : Below w.heap.size w W
 e : Env W
 kF : Bk W w.heap.size 27 #[.slice v.a1 f.st.length v.c1, .slice v.a2 f.li.length v.c2, .slice v.a3 f.pa.length v.c3, .slice v.a4 f.va.length v.c4]
 kC : Bk W (w.heap.size + 1) 48 #[.int .u8 x.k, .int .i64 x.l, .int .i64 x.o, .int .i64 x.a, .int .i64 x.b, .int .i64 x.s, .int .i64 x.e, .int .i64 x.c.b, .int .i64 x.c.n, .int .i64 x.c.l, .int .i64 x.c.y, .int .i64 x.c.w, .int .i64 x.c.s]
 r : FRw W w.heap.size v f
 rY : Rd W w.heap.size 1 A y.length (icells y)
section
variable {w W W' : World} {v : Fv} {f : Dd.Fd} {x : Dd.Ca} {A : Option Addr} {y : List Int}
theorem Lc.next (h : Lc w v f x A y W) (hb : Below W.heap.size W W') : Lc w v f x A y W' :=
 ⟨h.b.trans (hb.mono h.b.size), h.e.step hb, h.kF.below hb h.kF.lt, h.kC.below hb h.kC.lt, h.r.below hb h.b.size, h.rY.below hb h.b.size⟩
theorem Lc.raw (h : Lc w v f x A y W) : FRw W W.heap.size v f := h.r.more h.b.size
theorem Lc.rd (h : Lc w v f x A y W) (hv : Dd.vastF f = false) : FRd W W.heap.size v f := h.raw.small hv
theorem Lc.yy (h : Lc w v f x A y W) : Rd W W.heap.size 1 A y.length (icells y) := h.rY.more h.b.size
theorem Lc.new (hE : Env w) (hF : FRw w w.heap.size v f) (hY : Rd w w.heap.size 1 A y.length (icells y)) : Lc w v f x A y ((w.alloc (.cells #[.slice v.a1 f.st.length v.c1, .slice v.a2 f.li.length v.c2, .slice v.a3 f.pa.length v.c3, .slice v.a4 f.va.length v.c4] 27)).alloc (.cells #[.int .u8 x.k, .int .i64 x.l, .int .i64 x.o, .int .i64 x.a, .int .i64 x.b, .int .i64 x.s, .int .i64 x.e, .int .i64 x.c.b, .int .i64 x.c.n, .int .i64 x.c.l, .int .i64 x.c.y, .int .i64 x.c.w, .int .i64 x.c.s] 48)) := by
 obtain ⟨w1, h1⟩ : ∃ w1, w.alloc (.cells #[.slice v.a1 f.st.length v.c1, .slice v.a2 f.li.length v.c2, .slice v.a3 f.pa.length v.c3, .slice v.a4 f.va.length v.c4] 27) = w1 := ⟨_, rfl⟩
 have z1 : w1.heap.size = w.heap.size + 1 := by rw [← h1]; simp
 have b1 : Below w.heap.size w w1 := h1 ▸ (Below.refl w.heap.size w).alloc (Nat.le_refl _) _
 have k1 : Bk w1 w.heap.size 27 #[.slice v.a1 f.st.length v.c1, .slice v.a2 f.li.length v.c2, .slice v.a3 f.pa.length v.c3, .slice v.a4 f.va.length v.c4] := h1 ▸ Bk.new _ _ _
 rw [h1]
 have b2 : Below w1.heap.size w1 (w1.alloc (.cells #[.int .u8 x.k, .int .i64 x.l, .int .i64 x.o, .int .i64 x.a, .int .i64 x.b, .int .i64 x.s, .int .i64 x.e, .int .i64 x.c.b, .int .i64 x.c.n, .int .i64 x.c.l, .int .i64 x.c.y, .int .i64 x.c.w, .int .i64 x.c.s] 48)) := (Below.refl _ _).alloc (Nat.le_refl _) _
 have b3 := b1.trans (b2.mono (by omega))
 exact ⟨b3, hE.step b3, k1.below b2 (by omega), by rw [← z1]; exact Bk.new _ _ _, hF.below b3 (Nat.le_refl _), hY.below b3 (Nat.le_refl _)⟩
theorem Lc.tree (h : Lc w v f x A y W) : ((((W.cell? ⟨w.heap.size, 0, none⟩ = some (.slice v.a1 f.st.length v.c1) ∧ W.cell? ⟨w.heap.size, 1, none⟩ = some (.slice v.a2 f.li.length v.c2)) ∧
    (W.cell? ⟨w.heap.size, 2, none⟩ = some (.slice v.a3 f.pa.length v.c3) ∧ W.cell? ⟨w.heap.size, 3, none⟩ = some (.slice v.a4 f.va.length v.c4))) ∧
    ((W.cell? ⟨w.heap.size + 1, 0, none⟩ = some (.int .u8 x.k) ∧ W.cell? ⟨w.heap.size + 1, 1, none⟩ = some (.int .i64 x.l)) ∧ (W.cell? ⟨w.heap.size + 1, 2, none⟩ = some (.int .i64 x.o) ∧ W.cell? ⟨w.heap.size + 1, 3, none⟩ = some (.int .i64 x.a)))) ∧
    ((W.cell? ⟨w.heap.size + 1, 4, none⟩ = some (.int .i64 x.b) ∧ W.cell? ⟨w.heap.size + 1, 5, none⟩ = some (.int .i64 x.s)) ∧ (W.cell? ⟨w.heap.size + 1, 6, none⟩ = some (.int .i64 x.e) ∧ W.cell? ⟨w.heap.size + 1, 7, none⟩ = some (.int .i64 x.c.b))) ∧
    ((W.cell? ⟨w.heap.size + 1, 8, none⟩ = some (.int .i64 x.c.n) ∧ W.cell? ⟨w.heap.size + 1, 9, none⟩ = some (.int .i64 x.c.l)) ∧ (W.cell? ⟨w.heap.size + 1, 10, none⟩ = some (.int .i64 x.c.y) ∧ W.cell? ⟨w.heap.size + 1, 11, none⟩ = some (.int .i64 x.c.w) ∧ W.cell? ⟨w.heap.size + 1, 12, none⟩ = some (.int .i64 x.c.s)))) ∧ w.heap.size + 1 < W.heap.size :=
  ⟨⟨⟨⟨⟨(h.kF.cell 0).trans rfl, (h.kF.cell 1).trans rfl⟩, (h.kF.cell 2).trans rfl, (h.kF.cell 3).trans rfl⟩, ⟨(h.kC.cell 0).trans rfl, (h.kC.cell 1).trans rfl⟩, (h.kC.cell 2).trans rfl, (h.kC.cell 3).trans rfl⟩,
    ⟨⟨(h.kC.cell 4).trans rfl, (h.kC.cell 5).trans rfl⟩, (h.kC.cell 6).trans rfl, (h.kC.cell 7).trans rfl⟩, ⟨(h.kC.cell 8).trans rfl, (h.kC.cell 9).trans rfl⟩, (h.kC.cell 10).trans rfl, (h.kC.cell 11).trans rfl, (h.kC.cell 12).trans rfl⟩, h.kC.lt⟩
end
end

section
open Go.RowKit
theorem qbounds_width (v : Fv) (f : Dd.Fd) (l o a b s e cb cn cl cy cw cs r : Int) (w : World) (hF : FRd w w.heap.size v f) (hg : Rg f ⟨2, l, o, a, b, s, e, ⟨cb, cn, cl, cy, cw, cs⟩⟩) :
  Calls Tryz.prog 66 #[fval v f, caval ⟨2, l, o, a, b, s, e, ⟨cb, cn, cl, cy, cw, cs⟩⟩, .int .i64 r] w fun ee w' => ∃ A c, ee = .returned (.slice A (Dd.bnds f ⟨2, l, o, a, b, s, e, ⟨cb, cn, cl, cy, cw, cs⟩⟩ r).length c) ∧ Rd w' w'.heap.size 4 A (Dd.bnds f ⟨2, l, o, a, b, s, e, ⟨cb, cn, cl, cy, cw, cs⟩⟩ r).length (bcells (Dd.bnds f ⟨2, l, o, a, b, s, e, ⟨cb, cn, cl, cy, cw, cs⟩⟩ r)) ∧ Below w.heap.size w w' := by
 have hd : Dd.bnds f ⟨2, l, o, a, b, s, e, ⟨cb, cn, cl, cy, cw, cs⟩⟩ r = [⟨Dd.pt f l a, Dd.pt f o a, s + e, r⟩, ⟨Dd.pt f o a, Dd.pt f l a, -(s - e), r⟩] := rfl
 rw [hd]
 obtain ⟨z0, z1, z2, z3, z4, z5, z6, z7⟩ := hg
 dsimp only at z2 z3 z4 z5 z6 z7
 have hx := Dd.range_x z0
 have za : a ≤ 1000000 := by omega
 have zb : b ≤ 1000000 := by omega
 have hw1 : IntKind.i64.wrap (s - e) = s - e := IntWalk.i64_in _ (by omega)
 have hw2 : IntKind.i64.wrap (s + e) = s + e := IntWalk.i64_in _ (by omega)
 have BP := jQ (fun (l s : Int) (h0 : 0 ≤ l) (h1 : l ≤ 1000000) (h2 : 0 ≤ s) (h3 : s ≤ 1000000) W => qPoint_any v f l s z1 h0 h1 h2 h3 W)
 have S0 := jQ (Cr.new (x := ⟨2, l, o, a, b, s, e, ⟨cb, cn, cl, cy, cw, cs⟩⟩) hF)
 have T0 := jQ (fun V (h : Cr w v f ⟨2, l, o, a, b, s, e, ⟨cb, cn, cl, cy, cw, cs⟩⟩ V) => Cr.tree h)
 have B1 := jQ (fun W => (BP.o l a z2.1 z2.2 z4.1 za W))
 obtain ⟨p, hp⟩ : ∃ p, Dd.pt f l a = p := ⟨_, rfl⟩
 rw [hp] at B1
 have B2 := jQ (fun W => (BP.o o a z3.1 z3.2 z4.1 za W))
 obtain ⟨q, hq⟩ : ∃ q, Dd.pt f o a = q := ⟨_, rfl⟩
 rw [hq] at B2
 have BQ := jQ (fun W => qPair_any p q (s - e) (s + e) r (by omega) W)
 rw [hp, hq]
 simp only [fval_def, caval_def] at B1 B2 S0 T0 ⊢
 clear BP hp hq hF hx z0 z6 z7 hd
 obtain ⟨⟨⟨⟨f0, f1⟩, ⟨f2, f3⟩⟩, ⟨⟨c0, c1⟩, ⟨c2, c3⟩⟩⟩, ⟨⟨⟨c4, c5⟩, ⟨c6, c7⟩⟩, ⟨⟨c8, c9⟩, ⟨c10, ⟨c11, c12⟩⟩⟩⟩⟩ := T0.o _ S0.o
 go_enter Tryz.func66, Tryz.ntmps66
 go_wp2_with fail
 refine (B1.o _).mono ?_
 rintro ee w1 ⟨rfl, hb1⟩
 have S1 := jQ (S0.o.next hb1)
 clear hb1 f0 f1 f2 f3 c0 c1 c2 c3 c4 c5 c6 c7 c8 c9 c10 c11 c12 S0
 obtain ⟨⟨⟨⟨f0, f1⟩, ⟨f2, f3⟩⟩, ⟨⟨c0, c1⟩, ⟨c2, c3⟩⟩⟩, ⟨⟨⟨c4, c5⟩, ⟨c6, c7⟩⟩, ⟨⟨c8, c9⟩, ⟨c10, ⟨c11, c12⟩⟩⟩⟩⟩ := T0.o _ S1.o
 go_wp2_with fail
 refine (B2.o _).mono ?_
 rintro ee w2 ⟨rfl, hb2⟩
 have S2 := jQ (S1.o.next hb2)
 clear hb2 f0 f1 f2 f3 c0 c1 c2 c3 c4 c5 c6 c7 c8 c9 c10 c11 c12 S1
 go_wp2_with fail
 refine (BQ.o _).mono ?_
 rintro ee w3 ⟨rfl, hk3, hb3⟩
 have S3 := jQ (S2.o.next hb3)
 have K3 := jQ hk3
 clear hk3 hb3
 go_wp2_with fail
 go_ret
 exact ⟨_, _, rfl, rd_pairB K3.o, S3.o.fs.b⟩
end

section
open Go.RowKit
theorem qbounds_course (v : Fv) (f : Dd.Fd) (l o a b s e cb cn cl cy cw cs r : Int) (w : World) (hF : FRd w w.heap.size v f) (hg : Rg f ⟨3, l, o, a, b, s, e, ⟨cb, cn, cl, cy, cw, cs⟩⟩) (hlo : -1000000000 ≤ (Cs.comF f.va [⟨cb, cn, cl, cy, cw, cs⟩] (Dd.run f ⟨3, l, o, a, b, s, e, ⟨cb, cn, cl, cy, cw, cs⟩⟩)).1.1 ∧ (Cs.comF f.va [⟨cb, cn, cl, cy, cw, cs⟩] (Dd.run f ⟨3, l, o, a, b, s, e, ⟨cb, cn, cl, cy, cw, cs⟩⟩)).1.1 ≤ 1000000000) :
  Calls Tryz.prog 66 #[fval v f, caval ⟨3, l, o, a, b, s, e, ⟨cb, cn, cl, cy, cw, cs⟩⟩, .int .i64 r] w fun ee w' => ∃ A c, ee = .returned (.slice A (Dd.bnds f ⟨3, l, o, a, b, s, e, ⟨cb, cn, cl, cy, cw, cs⟩⟩ r).length c) ∧ Rd w' w'.heap.size 4 A (Dd.bnds f ⟨3, l, o, a, b, s, e, ⟨cb, cn, cl, cy, cw, cs⟩⟩ r).length (bcells (Dd.bnds f ⟨3, l, o, a, b, s, e, ⟨cb, cn, cl, cy, cw, cs⟩⟩ r)) ∧ Below w.heap.size w w' := by
 have hd : Dd.bnds f ⟨3, l, o, a, b, s, e, ⟨cb, cn, cl, cy, cw, cs⟩⟩ r = [⟨Dd.pt f l a, Dd.pt f l b, (Cs.comF f.va [⟨cb, cn, cl, cy, cw, cs⟩] (Dd.run f ⟨3, l, o, a, b, s, e, ⟨cb, cn, cl, cy, cw, cs⟩⟩)).1.2.1, r⟩, ⟨Dd.pt f l b, Dd.pt f l a, -(Cs.comF f.va [⟨cb, cn, cl, cy, cw, cs⟩] (Dd.run f ⟨3, l, o, a, b, s, e, ⟨cb, cn, cl, cy, cw, cs⟩⟩)).1.1, r⟩] := rfl
 rw [hd]
 have hl4 := hF.l4
 obtain ⟨z0, z1, z2, z3, z4, z5, z6, z7⟩ := hg
 dsimp only at z2 z3 z4 z5 z6 z7
 have hx := Dd.range_x z0
 have za : a ≤ 1000000 := by omega
 have zb : b ≤ 1000000 := by omega
 have hw1 : IntKind.i64.wrap (s - e) = s - e := IntWalk.i64_in _ (by omega)
 have hw2 : IntKind.i64.wrap (s + e) = s + e := IntWalk.i64_in _ (by omega)
 have BP := jQ (fun (l s : Int) (h0 : 0 ≤ l) (h1 : l ≤ 1000000) (h2 : 0 ≤ s) (h3 : s ≤ 1000000) W => qPoint_any v f l s z1 h0 h1 h2 h3 W)
 have S0 := jQ (Cr.new (x := ⟨3, l, o, a, b, s, e, ⟨cb, cn, cl, cy, cw, cs⟩⟩) hF)
 have T0 := jQ (fun V (h : Cr w v f ⟨3, l, o, a, b, s, e, ⟨cb, cn, cl, cy, cw, cs⟩⟩ V) => Cr.tree h)
 have B1 := jQ (fun W => (BP.o l a z2.1 z2.2 z4.1 za W))
 obtain ⟨p, hp⟩ : ∃ p, Dd.pt f l a = p := ⟨_, rfl⟩
 rw [hp] at B1
 have hia : Dd.isIx a f.st.length = true := by simp only [Dd.isIx, decide_eq_true_eq]; omega
 have hib : Dd.isIx b f.st.length = true := by simp only [Dd.isIx, decide_eq_true_eq]; omega
 have B3 := jQ (fun W (h : Cr w v f ⟨3, l, o, a, b, s, e, ⟨cb, cn, cl, cy, cw, cs⟩⟩ W) => qRun_any v f ⟨3, l, o, a, b, s, e, ⟨cb, cn, cl, cy, cw, cs⟩⟩ W h.fs.rd z0 hia hib)
 have B4 := jQ (fun W (h : Cr w v f ⟨3, l, o, a, b, s, e, ⟨cb, cn, cl, cy, cw, cs⟩⟩ W) => rInterval_any v.a4 v.c4 f.va ⟨cb, cn, cl, cy, cw, cs⟩ (Dd.run f ⟨3, l, o, a, b, s, e, ⟨cb, cn, cl, cy, cw, cs⟩⟩) W h.fs.rd.va hl4)
 have B2 := jQ (fun W => (BP.o l b z2.1 z2.2 z5.1 zb W))
 obtain ⟨q, hq⟩ : ∃ q, Dd.pt f l b = q := ⟨_, rfl⟩
 rw [hq] at B2
 obtain ⟨rn, hrn⟩ : ∃ R, Dd.run f ⟨3, l, o, a, b, s, e, ⟨cb, cn, cl, cy, cw, cs⟩⟩ = R := ⟨_, rfl⟩
 rw [hrn] at B3 B4 hlo ⊢
 obtain ⟨⟨⟨lo, hi, ok⟩, er⟩, hr⟩ : ∃ r, Cs.comF f.va [⟨cb, cn, cl, cy, cw, cs⟩] rn = r := ⟨_, rfl⟩
 rw [hr] at B4 hlo ⊢
 dsimp only at B4 hlo ⊢
 have BQ := jQ (fun W => qPair_any p q lo hi r hlo W)
 rw [hp, hq]
 simp only [fval_def, caval_def, cval_def] at B1 B2 B3 B4 S0 T0 ⊢
 clear BP hp hq hF hx z0 z6 z7 hd hrn hr hl4 hlo hia hib
 obtain ⟨⟨⟨⟨f0, f1⟩, ⟨f2, f3⟩⟩, ⟨⟨c0, c1⟩, ⟨c2, c3⟩⟩⟩, ⟨⟨⟨c4, c5⟩, ⟨c6, c7⟩⟩, ⟨⟨c8, c9⟩, ⟨c10, ⟨c11, c12⟩⟩⟩⟩⟩ := T0.o _ S0.o
 go_enter Tryz.func66, Tryz.ntmps66
 go_wp2_with fail
 refine (B1.o _).mono ?_
 rintro ee w1 ⟨rfl, hb1⟩
 have S1 := jQ (S0.o.next hb1)
 clear hb1 f0 f1 f2 f3 c0 c1 c2 c3 c4 c5 c6 c7 c8 c9 c10 c11 c12 S0
 obtain ⟨⟨⟨⟨f0, f1⟩, ⟨f2, f3⟩⟩, ⟨⟨c0, c1⟩, ⟨c2, c3⟩⟩⟩, ⟨⟨⟨c4, c5⟩, ⟨c6, c7⟩⟩, ⟨⟨c8, c9⟩, ⟨c10, ⟨c11, c12⟩⟩⟩⟩⟩ := T0.o _ S1.o
 go_wp2_with fail
 have sZ : Cr w v f ⟨3, l, o, a, b, s, e, ⟨cb, cn, cl, cy, cw, cs⟩⟩ w1.drew := S1.o.next (Below.refl _ _).drew
 go_region_held3 (fun V => ((((V.cell? ⟨w.heap.size, 0, none⟩ = some (.slice v.a1 f.st.length v.c1) ∧ V.cell? ⟨w.heap.size, 1, none⟩ = some (.slice v.a2 f.li.length v.c2)) ∧ (V.cell? ⟨w.heap.size, 2, none⟩ = some (.slice v.a3 f.pa.length v.c3) ∧ V.cell? ⟨w.heap.size, 3, none⟩ = some (.slice v.a4 f.va.length v.c4))) ∧ ((V.cell? ⟨w.heap.size + 1, 0, none⟩ = some (.int .u8 3) ∧ V.cell? ⟨w.heap.size + 1, 1, none⟩ = some (.int .i64 l)) ∧ (V.cell? ⟨w.heap.size + 1, 2, none⟩ = some (.int .i64 o) ∧ V.cell? ⟨w.heap.size + 1, 3, none⟩ = some (.int .i64 a)))) ∧ (((V.cell? ⟨w.heap.size + 1, 4, none⟩ = some (.int .i64 b) ∧ V.cell? ⟨w.heap.size + 1, 5, none⟩ = some (.int .i64 s)) ∧ (V.cell? ⟨w.heap.size + 1, 6, none⟩ = some (.int .i64 e) ∧ V.cell? ⟨w.heap.size + 1, 7, none⟩ = some (.int .i64 cb))) ∧ ((V.cell? ⟨w.heap.size + 1, 8, none⟩ = some (.int .i64 cn) ∧ V.cell? ⟨w.heap.size + 1, 9, none⟩ = some (.int .i64 cl)) ∧ (V.cell? ⟨w.heap.size + 1, 10, none⟩ = some (.int .i64 cy) ∧ (V.cell? ⟨w.heap.size + 1, 11, none⟩ = some (.int .i64 cw) ∧ V.cell? ⟨w.heap.size + 1, 12, none⟩ = some (.int .i64 cs)))))))
  (first
   | ((try dsimp only); first | (with_reducible exact T0.o _ sB) | (with_reducible exact T0.o _ sA) | (with_reducible exact T0.o _ sZ)))
  (first
   | (go_at_call 60; refine (B3.o _ sZ).mono ?_; rintro ee w2 ⟨rfl, hb2⟩; have sA : Cr w v f ⟨3, l, o, a, b, s, e, ⟨cb, cn, cl, cy, cw, cs⟩⟩ w2 := sZ.next hb2)
   | (go_at_call 115; refine (B4.o _ sA).mono ?_; rintro ee w3 ⟨rfl, hb3⟩; have sB : Cr w v f ⟨3, l, o, a, b, s, e, ⟨cb, cn, cl, cy, cw, cs⟩⟩ w3 := sA.next hb3))
 have S2 := jQ sB
 clear sZ sA sB hb2 hb3 f0 f1 f2 f3 c0 c1 c2 c3 c4 c5 c6 c7 c8 c9 c10 c11 c12 S1
 obtain ⟨⟨⟨⟨f0, f1⟩, ⟨f2, f3⟩⟩, ⟨⟨c0, c1⟩, ⟨c2, c3⟩⟩⟩, ⟨⟨⟨c4, c5⟩, ⟨c6, c7⟩⟩, ⟨⟨c8, c9⟩, ⟨c10, ⟨c11, c12⟩⟩⟩⟩⟩ := T0.o _ S2.o
 go_wp2_with fail
 refine (B2.o _).mono ?_
 rintro ee w4 ⟨rfl, hb4⟩
 have S3 := jQ (S2.o.next hb4)
 clear hb4 f0 f1 f2 f3 c0 c1 c2 c3 c4 c5 c6 c7 c8 c9 c10 c11 c12 S2
 go_wp2_with fail
 refine (BQ.o _).mono ?_
 rintro ee w5 ⟨rfl, hk4, hb4⟩
 have S4 := jQ (S3.o.next hb4)
 have K4 := jQ hk4
 clear hk4 hb4
 go_wp2_with fail
 go_ret
 exact ⟨_, _, rfl, rd_pairB K4.o, S4.o.fs.b⟩
end

section
open Go.RowKit
set_option maxHeartbeats 16000000 in
theorem qbounds_along (v : Fv) (f : Dd.Fd) (k l o a b s e cb cn cl cy cw cs r : Int) (w : World) (hF : FRd w w.heap.size v f) (hg : Rg f ⟨k, l, o, a, b, s, e, ⟨cb, cn, cl, cy, cw, cs⟩⟩) (n1 : ¬ k = 1) (n2 : ¬ k = 2) (n3 : ¬ k = 3) (n5 : ¬ k = 5) :
  Calls Tryz.prog 66 #[fval v f, caval ⟨k, l, o, a, b, s, e, ⟨cb, cn, cl, cy, cw, cs⟩⟩, .int .i64 r] w fun ee w' => ∃ A c, ee = .returned (.slice A (Dd.bnds f ⟨k, l, o, a, b, s, e, ⟨cb, cn, cl, cy, cw, cs⟩⟩ r).length c) ∧ Rd w' w'.heap.size 4 A (Dd.bnds f ⟨k, l, o, a, b, s, e, ⟨cb, cn, cl, cy, cw, cs⟩⟩ r).length (bcells (Dd.bnds f ⟨k, l, o, a, b, s, e, ⟨cb, cn, cl, cy, cw, cs⟩⟩ r)) ∧ Below w.heap.size w w' := by
 have hd : Dd.bnds f ⟨k, l, o, a, b, s, e, ⟨cb, cn, cl, cy, cw, cs⟩⟩ r = (Dd.gapAlong f ⟨k, l, o, a, b, s, e, ⟨cb, cn, cl, cy, cw, cs⟩⟩ (b - a + 1).toNat a).flatMap (Dd.pairB r) := by
  unfold Dd.bnds Dd.gapsF
  rw [if_neg n1, if_neg n2, if_neg n3, if_neg n5]
 rw [hd]
 have g1 : (k == 1) = false := by simpa using n1
 have g2 : (k == 2) = false := by simpa using n2
 have g3 : (k == 3) = false := by simpa using n3
 have g5 : (k == 5) = false := by simpa using n5
 obtain ⟨i0, hi0, hz0, hz1, hz2⟩ := info_parts infoB
 obtain ⟨z0, z1, z2, z3, z4, z5, z6, z7⟩ := hg
 dsimp only at z2 z3 z4 z5 z6 z7
 have hx := Dd.range_x z0
 have za : a ≤ 1000000 := by omega
 have zb : b ≤ 1000000 := by omega
 have hw1 : IntKind.i64.wrap (s - e) = s - e := IntWalk.i64_in _ (by omega)
 have hw2 : IntKind.i64.wrap (s + e) = s + e := IntWalk.i64_in _ (by omega)
 have BP := jQ (fun (l s : Int) (h0 : 0 ≤ l) (h1 : l ≤ 1000000) (h2 : 0 ≤ s) (h3 : s ≤ 1000000) W => qPoint_any v f l s z1 h0 h1 h2 h3 W)
 have S0 := jQ (Cr.new (x := ⟨k, l, o, a, b, s, e, ⟨cb, cn, cl, cy, cw, cs⟩⟩) hF)
 have T0 := jQ (fun V (h : Cr w v f ⟨k, l, o, a, b, s, e, ⟨cb, cn, cl, cy, cw, cs⟩⟩ V) => Cr.tree h)
 have B1 := jQ (fun W => (BP.o l a z2.1 z2.2 z4.1 za W))
 obtain ⟨p, hp⟩ : ∃ p, Dd.pt f l a = p := ⟨_, rfl⟩
 rw [hp] at B1
 have BQ := jQ (fun p q W => qPair_any p q 0 0 r (by omega) W)
 have N2 := jQ (fun W W' (h : Cr w v f ⟨k, l, o, a, b, s, e, ⟨cb, cn, cl, cy, cw, cs⟩⟩ W) (hb : Below (w.heap.size + 1 + 1) W W') => h.next2 hb)
 obtain ⟨G, hG⟩ : ∃ G : Nat → List Dd.Bd, ∀ n, (Dd.gapAlong f ⟨k, l, o, a, b, s, e, ⟨cb, cn, cl, cy, cw, cs⟩⟩ n a).flatMap (Dd.pairB r) = G n := ⟨fun n => (Dd.gapAlong f ⟨k, l, o, a, b, s, e, ⟨cb, cn, cl, cy, cw, cs⟩⟩ n a).flatMap (Dd.pairB r), fun _ => rfl⟩
 have G0 : G 0 = [] := by rw [← hG]; rfl
 have GS := jQ (fun n => show G (n + 1) = G n ++ [⟨Dd.pt f l (a + n), Dd.pt f o (a + n), 0, r⟩, ⟨Dd.pt f o (a + n), Dd.pt f l (a + n), -0, r⟩] by rw [← hG, ← hG, Dd.gapAlong_snoc, List.flatMap_append]; rfl)
 have GL := jQ (fun n => show (G n).length = 2 * n by rw [← hG, Dd.flat2_len (fun _ => rfl), Dd.gapAlong_len])
 obtain ⟨M, hM⟩ : ∃ M : Nat, (b - a + 1).toNat = M := ⟨_, rfl⟩
 rw [hG, hM]
 simp only [fval_def, caval_def] at B1 BP S0 T0 ⊢
 clear hp hF hx z0 z6 z7 hd hG n1 n2 n3 n5
 obtain ⟨⟨⟨⟨f0, f1⟩, ⟨f2, f3⟩⟩, ⟨⟨c0, c1⟩, ⟨c2, c3⟩⟩⟩, ⟨⟨⟨c4, c5⟩, ⟨c6, c7⟩⟩, ⟨⟨c8, c9⟩, ⟨c10, ⟨c11, c12⟩⟩⟩⟩⟩ := T0.o _ S0.o
 go_enter Tryz.func66, Tryz.ntmps66
 go_wp2_with fail
 refine (B1.o _).mono ?_
 rintro ee w1 ⟨rfl, hb1⟩
 have S1 := jQ (S0.o.next hb1)
 clear hb1 f0 f1 f2 f3 c0 c1 c2 c3 c4 c5 c6 c7 c8 c9 c10 c11 c12 S0
 obtain ⟨⟨⟨⟨f0, f1⟩, ⟨f2, f3⟩⟩, ⟨⟨c0, c1⟩, ⟨c2, c3⟩⟩⟩, ⟨⟨⟨c4, c5⟩, ⟨c6, c7⟩⟩, ⟨⟨c8, c9⟩, ⟨c10, ⟨c11, c12⟩⟩⟩⟩⟩ := T0.o _ S1.o
 go_wp2_with fail
 clear f0 f1 f2 f3 c0 c1 c2 c3 c4 c5 c6 c7 c8 c9 c10 c11 c12
 go_loopw [14, 15] (fun V I wr => ∃ j : Nat, j ≤ M ∧ I = .int .i64 (a + j) ∧ wr.ownsRow (w.heap.size + 1 + 1) 78 4 V (2 * j) (bcells (G j)) ∧ Cr w v f ⟨k, l, o, a, b, s, e, ⟨cb, cn, cl, cy, cw, cs⟩⟩ wr) (fun _ I _ => M - (intOf I - a).toNat)
 case atStart => exact ⟨0, Nat.zero_le _, (by simp), (by rw [G0]; exact World.ownsRow_nil _ _ _ _), S1.o⟩
 case round =>
  clear S1
  obtain ⟨j, hj, rfl, hown, hS⟩ := hrel
  have HO := jQ hown
  have HS := jQ hS
  have HKL := jQ hS.kC.lt
  clear hown hS
  obtain ⟨⟨⟨⟨f0, f1⟩, ⟨f2, f3⟩⟩, ⟨⟨c0, c1⟩, ⟨c2, c3⟩⟩⟩, ⟨⟨⟨c4, c5⟩, ⟨c6, c7⟩⟩, ⟨⟨c8, c9⟩, ⟨c10, ⟨c11, c12⟩⟩⟩⟩⟩ := T0.o _ HS.o
  by_cases hlt : j < M
  ·have hle : decide (a + (j : Int) ≤ b) = true := decide_eq_true (by omega)
   have hwl : IntKind.i64.wrap (a + (j : Int) + 1) = a + (j : Int) + 1 := IntWalk.i64_in _ (by omega)
   go_wp2_with fail
   obtain ⟨X, hX⟩ : ∃ X, bcells (G j) = X := ⟨_, rfl⟩
   have hO := HO.o
   rw [hX] at hO
   have HO1 := jQ hO
   have HX := jQ hX
   have hjm : j ≤ 1000000 := by omega
   have hbD : Below wr.heap.size wr wr.drew := (Below.refl _ _).drew
   have hp0 : 0 ≤ a + (j : Int) := by omega
   have hp1 : a + (j : Int) ≤ 1000000 := by omega
   clear hO hX HO
   go_region_held3 (fun V => ((((V.cell? ⟨w.heap.size, 0, none⟩ = some (.slice v.a1 f.st.length v.c1) ∧ V.cell? ⟨w.heap.size, 1, none⟩ = some (.slice v.a2 f.li.length v.c2)) ∧ (V.cell? ⟨w.heap.size, 2, none⟩ = some (.slice v.a3 f.pa.length v.c3) ∧ V.cell? ⟨w.heap.size, 3, none⟩ = some (.slice v.a4 f.va.length v.c4))) ∧ ((V.cell? ⟨w.heap.size + 1, 0, none⟩ = some (.int .u8 k) ∧ V.cell? ⟨w.heap.size + 1, 1, none⟩ = some (.int .i64 l)) ∧ (V.cell? ⟨w.heap.size + 1, 2, none⟩ = some (.int .i64 o) ∧ V.cell? ⟨w.heap.size + 1, 3, none⟩ = some (.int .i64 a)))) ∧ (((V.cell? ⟨w.heap.size + 1, 4, none⟩ = some (.int .i64 b) ∧ V.cell? ⟨w.heap.size + 1, 5, none⟩ = some (.int .i64 s)) ∧ (V.cell? ⟨w.heap.size + 1, 6, none⟩ = some (.int .i64 e) ∧ V.cell? ⟨w.heap.size + 1, 7, none⟩ = some (.int .i64 cb))) ∧ ((V.cell? ⟨w.heap.size + 1, 8, none⟩ = some (.int .i64 cn) ∧ V.cell? ⟨w.heap.size + 1, 9, none⟩ = some (.int .i64 cl)) ∧ (V.cell? ⟨w.heap.size + 1, 10, none⟩ = some (.int .i64 cy) ∧ (V.cell? ⟨w.heap.size + 1, 11, none⟩ = some (.int .i64 cw) ∧ V.cell? ⟨w.heap.size + 1, 12, none⟩ = some (.int .i64 cs)))))))
    (first
     | ((try dsimp only); first | (with_reducible exact T0.o _ sH) | (with_reducible exact T0.o _ sG) | (with_reducible exact T0.o _ sF) | (with_reducible exact T0.o _ sE))
     | go_keep)
    (first
     | (go_at_call 47; refine (BP.o _ _ (by omega) (by omega) (by omega) (by omega) _).mono ?_; first | (rintro ee w3 ⟨rfl, hb3⟩; have hbF : Below wr.heap.size wr w3 := hbE.trans (hb3.mono hbE.size); have sF : Cr w v f ⟨k, l, o, a, b, s, e, ⟨cb, cn, cl, cy, cw, cs⟩⟩ w3 := sE.next hb3) | (rintro ee w2 ⟨rfl, hb2⟩; have hbE : Below wr.heap.size wr w2 := hbD.trans (hb2.mono hbD.size); have sE : Cr w v f ⟨k, l, o, a, b, s, e, ⟨cb, cn, cl, cy, cw, cs⟩⟩ w2 := HS.o.next hbE))
     | (go_at_call 114; refine (BQ.o _ _ _).mono ?_; rintro ee w4 ⟨rfl, hk4, hb4⟩; have hbG : Below wr.heap.size wr w4 := hbF.trans (hb4.mono hbF.size); have sG : Cr w v f ⟨k, l, o, a, b, s, e, ⟨cb, cn, cl, cy, cw, cs⟩⟩ w4 := sF.next hb4; have hown3 := jQ (own_belowG HO1.o hbG); have hrd3 := jQ (rd_pairB hk4))
     | (refine step_append_rd rfl (.tmp 101) (.tmp 113) 52 rfl (w.heap.size + 1 + 1) 78 i0 _ 4 32 Tryz.underlying52 hi0 hz0 hz1 hz2 rfl (by omega) u14 (2 * j) X (by rfl) hown3.o (some ⟨w3.heap.size, 0, none⟩) 2 2 _ _ (by rfl) hrd3.o (bcells_one _) (by unfold maxLen; omega) (by omega) (Nat.le_trans HKL.o hbG.size) ?_; intro v4 W4 hown4 hg4 hat4; have hb5 : Below (w.heap.size + 1 + 1) wr W4 := below_own (hbG.mono HKL.o) (Nat.le_refl _) hg4 (fun r e => (hown3.o.lt r e).1) (Nat.le_trans HKL.o hbG.size); have sH := N2.o _ _ HS.o hb5))
   all_goals
    have HS4 := jQ sH
    have HO4 := jQ hown4
    clear f0 f1 f2 f3 c0 c1 c2 c3 c4 c5 c6 c7 c8 c9 c10 c11 c12 sE sF sG sH hb5 hown4 hg4 hat4 hb2 hb3 hk4 hb4 hbE hbF hbG hrd3 hown3
    go_wp2_with fail
    refine ⟨⟨j + 1, by omega, ?_, ?_, HS4.o⟩, ?_⟩
    ·rw [show a + ((j + 1 : Nat) : Int) = a + (j : Int) + 1 by omega]
    ·rw [GS.o, bcells_append, HX.o]
     exact HO4.o
    ·show M - (a + (j : Int) + 1 - a).toNat < M - (a + (j : Int) - a).toNat
     omega
  ·have hle : decide (a + (j : Int) ≤ b) = false := decide_eq_false (by omega)
   have hje : j = M := by omega
   subst hje
   have hO := HO.o
   obtain ⟨A', c', rfl, hrd, hfar⟩ := ownB_rd hO (by rw [bcellsD_length, GL.o])
   have HR := jQ hrd
   clear hO hrd hfar HO f0 f1 f2 f3 c0 c1 c2 c3 c5 c6 c7 c8 c9 c10 c11 c12
   go_wp2_with fail
   go_ret
   exact ⟨A', c', by rw [GL.o]; rfl, by rw [GL.o]; exact HR.o, HS.o.fs.b⟩
end

section
open Go.RowKit
theorem qbounds_any (v : Fv) (f : Dd.Fd) (x : Dd.Ca) (r : Int) (w : World) (hF : FRd w w.heap.size v f) (he : Dd.callE f x = 0) :
  Calls Tryz.prog 66 #[fval v f, caval x, .int .i64 r] w fun ee w' => ∃ A c, ee = .returned (.slice A (Dd.bnds f x r).length c) ∧ Rd w' w'.heap.size 4 A (Dd.bnds f x r).length (bcells (Dd.bnds f x r)) ∧ Below w.heap.size w w' := by
 have hg := Rg.of hF.l1 hF.l2 he
 obtain ⟨k, l, o, a, b, s, e, ⟨cb, cn, cl, cy, cw, cs⟩⟩ := x
 by_cases h1 : k = 1
 ·subst h1; exact qbounds_stone v f l o a b s e cb cn cl cy cw cs r w hF hg
 by_cases h2 : k = 2
 ·subst h2; exact qbounds_width v f l o a b s e cb cn cl cy cw cs r w hF hg
 by_cases h3 : k = 3
 ·subst h3
  have hlo := Dd.gaps_low he (g := (Dd.pt f l a, Dd.pt f l b, (Cs.comF f.va [⟨cb, cn, cl, cy, cw, cs⟩] (Dd.run f ⟨3, l, o, a, b, s, e, ⟨cb, cn, cl, cy, cw, cs⟩⟩)).1.1, (Cs.comF f.va [⟨cb, cn, cl, cy, cw, cs⟩] (Dd.run f ⟨3, l, o, a, b, s, e, ⟨cb, cn, cl, cy, cw, cs⟩⟩)).1.2.1)) (List.mem_singleton.2 rfl)
  exact qbounds_course v f l o a b s e cb cn cl cy cw cs r w hF hg ⟨by have := hlo.1; dsimp only at this; omega, by have := hlo.2; dsimp only at this; omega⟩
 by_cases h5 : k = 5
 ·subst h5; exact qbounds_level v f l o a b s e cb cn cl cy cw cs r w hF hg
 exact qbounds_along v f k l o a b s e cb cn cl cy cw cs r w hF hg h1 h2 h3 h5
theorem qBoundsF_any (v : Fv) (f : Dd.Fd) (x : Dd.Ca) (r : Int) (w : World) (hF : FRd w w.heap.size v f) :
  Calls Tryz.prog 25 #[fval v f, caval x, .int .i64 r] w fun ee w' => ∃ A c, ee = .returned (.tuple #[.slice A (Dd.boundsF f x r).1.length c, .int .i64 (Dd.boundsF f x r).2]) ∧ Rd w' w'.heap.size 4 A (Dd.boundsF f x r).1.length (bcells (Dd.boundsF f x r).1) ∧ Below w.heap.size w w' := by
 have hd : Dd.boundsF f x r = if Dd.callE f x ≠ 0 then ([], Dd.callE f x) else if 0 ≤ r ∧ r ≤ 1000000 then (Dd.bnds f x r, 0) else ([], 1) := rfl
 have C0 := jQ (Cr.new (x := x) hF)
 have T0 := jQ (fun V (h : Cr w v f x V) => Cr.tree h)
 have CC := jQ (fun W (h : Cr w v f x W) => qCheckCallF_any v f x W h.fs.rd)
 have BF := jQ (fun (he : Dd.callE f x = 0) W (h : Cr w v f x W) => qbounds_any v f x r W h.fs.rd he)
 have BT := fun W => qWithin_any r 0 1000000 W
 simp only [fval_def, caval_def] at CC BF C0 ⊢
 obtain ⟨E, hE⟩ : ∃ E, Dd.callE f x = E := ⟨_, rfl⟩
 rw [hE] at CC hd BF
 by_cases h0 : E = 0
 ·subst h0
  rw [if_neg (by simp)] at hd
  have BG := jQ (BF.o rfl)
  clear BF
  by_cases hr : 0 ≤ r ∧ r ≤ 1000000
  ·rw [if_pos hr] at hd
   rw [decide_eq_true hr] at BT
   have HD := jQ hd
   have HBT := jQ BT
   rw [HD.o]
   clear hd BT hE hF hr
   obtain ⟨⟨⟨⟨f0, f1⟩, ⟨f2, f3⟩⟩, ⟨⟨c0, c1⟩, ⟨c2, c3⟩⟩⟩, ⟨⟨⟨c4, c5⟩, ⟨c6, c7⟩⟩, ⟨⟨c8, c9⟩, ⟨c10, ⟨c11, c12⟩⟩⟩⟩⟩ := T0.o _ C0.o
   go_enter Tryz.func25, Tryz.ntmps25
   go_wp2_with fail
   refine (CC.o _ C0.o).mono ?_
   rintro ee w1 ⟨rfl, hb1⟩
   have C1 := jQ (C0.o.next hb1)
   clear hb1 f0 f1 f2 f3 c0 c1 c2 c3 c4 c5 c6 c7 c8 c9 c10 c11 c12 C0
   obtain ⟨⟨⟨⟨f0, f1⟩, ⟨f2, f3⟩⟩, ⟨⟨c0, c1⟩, ⟨c2, c3⟩⟩⟩, ⟨⟨⟨c4, c5⟩, ⟨c6, c7⟩⟩, ⟨⟨c8, c9⟩, ⟨c10, ⟨c11, c12⟩⟩⟩⟩⟩ := T0.o _ C1.o
   go_wp2_with fail
   refine (HBT.o _).mono ?_
   rintro ee w' ⟨rfl, rfl⟩
   go_wp2_with fail
   refine (BG.o _ C1.o).mono ?_
   rintro ee w2 ⟨A, c, rfl, hrd, hb2⟩
   have C2 := jQ (C1.o.next hb2)
   have HR := jQ hrd
   clear hb2 hrd f0 f1 f2 f3 c0 c1 c2 c3 c4 c5 c6 c7 c8 c9 c10 c11 c12
   go_wp2_with fail
   go_ret2
   exact ⟨A, c, rfl, HR.o, C2.o.fs.b⟩
  ·rw [if_neg hr] at hd
   rw [decide_eq_false hr] at BT
   have HD := jQ hd
   have HBT := jQ BT
   rw [HD.o]
   clear hd BT hE hF hr
   obtain ⟨⟨⟨⟨f0, f1⟩, ⟨f2, f3⟩⟩, ⟨⟨c0, c1⟩, ⟨c2, c3⟩⟩⟩, ⟨⟨⟨c4, c5⟩, ⟨c6, c7⟩⟩, ⟨⟨c8, c9⟩, ⟨c10, ⟨c11, c12⟩⟩⟩⟩⟩ := T0.o _ C0.o
   go_enter Tryz.func25, Tryz.ntmps25
   go_wp2_with fail
   refine (CC.o _ C0.o).mono ?_
   rintro ee w1 ⟨rfl, hb1⟩
   have C1 := jQ (C0.o.next hb1)
   clear hb1 f0 f1 f2 f3 c0 c1 c2 c3 c4 c5 c6 c7 c8 c9 c10 c11 c12 C0
   go_wp2_with fail
   refine (HBT.o _).mono ?_
   rintro ee w' ⟨rfl, rfl⟩
   go_wp2_with fail
   go_ret2
   exact ⟨none, 0, rfl, Rd.nil _ _ _ _, C1.o.fs.b⟩
 ·rw [if_pos h0] at hd
  have hne : (E != 0) = true := by simp [h0]
  have HD := jQ hd
  rw [HD.o]
  clear hd BT hE hF h0 BF
  obtain ⟨⟨⟨⟨f0, f1⟩, ⟨f2, f3⟩⟩, ⟨⟨c0, c1⟩, ⟨c2, c3⟩⟩⟩, ⟨⟨⟨c4, c5⟩, ⟨c6, c7⟩⟩, ⟨⟨c8, c9⟩, ⟨c10, ⟨c11, c12⟩⟩⟩⟩⟩ := T0.o _ C0.o
  go_enter Tryz.func25, Tryz.ntmps25
  go_wp2_with fail
  refine (CC.o _ C0.o).mono ?_
  rintro ee w1 ⟨rfl, hb1⟩
  have C1 := jQ (C0.o.next hb1)
  clear hb1 f0 f1 f2 f3 c0 c1 c2 c3 c4 c5 c6 c7 c8 c9 c10 c11 c12 C0
  go_wp2_with fail
  go_ret2
  exact ⟨none, 0, rfl, Rd.nil _ _ _ _, C1.o.fs.b⟩
end
end Go.Proofs.YtccikcpcfdjobaaGreatDoor
