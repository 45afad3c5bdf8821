/-
  What the claim needs: contracts.
-/
import Derived.Test.YtccikcpcfdjobaaGreatDoorBs28
set_option linter.unusedVariables false
set_option linter.unusedSimpArgs false
set_option maxHeartbeats 8000000
set_option maxRecDepth 100000
namespace Go.Proofs.YtccikcpcfdjobaaGreatDoor
section
open Go.RowKit
theorem y8f (v : Fv) (f : Dd.Fd) (l o a b s e cb cn cl cy cw cs : Int) (w : World) (hF : FRd w w.heap.size v f) (hS : Sn w) (hg : Rg f ⟨2, l, o, a, b, s, e, cb, cn, cl, cy, cw, cs⟩) :
  Calls Tryz.prog 109 #[fval v f, caval ⟨2, l, o, a, b, s, e, cb, cn, cl, cy, cw, cs⟩] w fun ee w' => ∃ A c, ee = .returned (.slice A (Dd.gapsF f ⟨2, l, o, a, b, s, e, cb, cn, cl, cy, cw, cs⟩).length c) /\ Rd w' w'.heap.size 4 A (Dd.gapsF f ⟨2, l, o, a, b, s, e, cb, cn, cl, cy, cw, cs⟩).length (gcells (Dd.gapsF f ⟨2, l, o, a, b, s, e, cb, cn, cl, cy, cw, cs⟩)) /\ Below w.heap.size w w' /\ ∀ a, A = some a -> ∃ cs, w'.heap[a.block]? = some (.cells cs 143 (0, 0)) := by
 have hd : Dd.gapsF f ⟨2, l, o, a, b, s, e, cb, cn, cl, cy, cw, cs⟩ = [(Dd.pt f l a, Dd.pt f o a, s - e, s + e)] := rfl;rw [hd];obtain ⟨z0, z1, z2, z3, z4, z5, z6, z7⟩ := hg;dsimp only at z2 z3 z4 z5 z6 z7;have hx := Dd.y19 z0;have BP := jQ (fun (l s : Int) (h0 : 0 <= l) (h1 : l <= 1000000) (h2 : 0 <= s) (h3 : s <= 1000000) W => y0f v f l s z1 h0 h1 h2 h3 W);have BA := jQ (fun p q W => y27 p q ⟨2, l, o, a, b, s, e, cb, cn, cl, cy, cw, cs⟩ W z6 z7);have BI := jQ (fun W (h : Ck w v f ⟨2, l, o, a, b, s, e, cb, cn, cl, cy, cw, cs⟩ W) => y2A v f ⟨2, l, o, a, b, s, e, cb, cn, cl, cy, cw, cs⟩ W h.fs.rd h.sn hx z4 z5);have S0 := jQ (Ck.new (x := ⟨2, l, o, a, b, s, e, cb, cn, cl, cy, cw, cs⟩) hF hS);have T0 := jQ (fun V (h : Ck w v f ⟨2, l, o, a, b, s, e, cb, cn, cl, cy, cw, cs⟩ V) => Ck.tree h);have za : a <= 1000000 := by omega
 have zb : b <= 1000000 := by omega
 have B1 := jQ (fun W => (BP.o l a z2.1 z2.2 z4.1 za W));have B2 := jQ (fun W => (BP.o o a z3.1 z3.2 z4.1 za W));obtain ⟨p, hp⟩ := zE (Dd.pt f l a);obtain ⟨q, hq⟩ := zE (Dd.pt f o a);rw [hp] at B1;rw [hq] at B2;rw [hp, hq];simp only [y01, y03] at B1 B2 BA S0 T0 ⊢;clear BP BI hp hq hF hS hx z0 z6 z7 hd;have P0 := S0.o;obtain ⟨⟨⟨⟨f0, f1⟩, f2, f3⟩, ⟨⟨c0, c1⟩, c2, c3⟩⟩, ⟨⟨⟨c4, c5⟩, c6, c7⟩, ⟨⟨c8, c9⟩, c10, c11, c12⟩⟩⟩ := T0.o _ P0;clear P0;go_enter Tryz.func109, Tryz.ntmps109;go_wp2_with fail;refine (B1.o _).mono ?_;rintro ee w1 ⟨rfl, hb1⟩;have S1 := jQ (S0.o.next hb1);clear hb1 f0 f1 f2 f3 c0 c1 c2 c3 c4 c5 c6 c7 c8 c9 c10 c11 c12 S0;obtain ⟨⟨⟨⟨f0, f1⟩, f2, f3⟩, ⟨⟨c0, c1⟩, c2, c3⟩⟩, ⟨⟨⟨c4, c5⟩, c6, c7⟩, ⟨⟨c8, c9⟩, c10, c11, c12⟩⟩⟩ := T0.o _ S1.o;go_wp2_with fail;have sZ : Ck w v f ⟨2, l, o, a, b, s, e, cb, cn, cl, cy, cw, cs⟩ w1.drew := S1.o.next (Below.refl _ _).drew;go_region_held3 (fun V => ((((V.cell? ⟨w.heap.size, 0, none⟩ = some (.slice v.a1 f.st.length v.c1) /\ V.cell? ⟨w.heap.size, 1, none⟩ = some (.slice v.a2 f.li.length v.c2)) /\ (V.cell? ⟨w.heap.size, 2, none⟩ = some (.slice v.a3 f.pa.length v.c3) /\ V.cell? ⟨w.heap.size, 3, none⟩ = some (.slice v.a4 f.va.length v.c4))) /\ ((V.cell? ⟨w.heap.size + 1, 0, none⟩ = some (.int .u8 2) /\ V.cell? ⟨w.heap.size + 1, 1, none⟩ = some (.int .i64 l)) /\ (V.cell? ⟨w.heap.size + 1, 2, none⟩ = some (.int .i64 o) /\ V.cell? ⟨w.heap.size + 1, 3, none⟩ = some (.int .i64 a)))) /\ (((V.cell? ⟨w.heap.size + 1, 4, none⟩ = some (.int .i64 b) /\ V.cell? ⟨w.heap.size + 1, 5, none⟩ = some (.int .i64 s)) /\ (V.cell? ⟨w.heap.size + 1, 6, none⟩ = some (.int .i64 e) /\ V.cell? ⟨w.heap.size + 1, 7, none⟩ = some (.int .i64 cb))) /\ ((V.cell? ⟨w.heap.size + 1, 8, none⟩ = some (.int .i64 cn) /\ V.cell? ⟨w.heap.size + 1, 9, none⟩ = some (.int .i64 cl)) /\ (V.cell? ⟨w.heap.size + 1, 10, none⟩ = some (.int .i64 cy) /\ (V.cell? ⟨w.heap.size + 1, 11, none⟩ = some (.int .i64 cw) /\ V.cell? ⟨w.heap.size + 1, 12, none⟩ = some (.int .i64 cs)))))))
  (first
   | ((try dsimp only); first | (with_reducible exact T0.o _ sC) | (with_reducible exact T0.o _ sB) | (with_reducible exact T0.o _ sA) | (with_reducible exact T0.o _ sZ)))
  (first
   | (go_at_call 45; refine (B2.o _).mono ?_; rintro ee w2 ⟨rfl, hb2⟩; have sA : Ck w v f ⟨2, l, o, a, b, s, e, cb, cn, cl, cy, cw, cs⟩ w2 := sZ.next hb2)
   | (go_at_call 166; refine (BA.o _ _ _).mono ?_; rintro ee w3 ⟨rfl, hb3⟩; have sB : Ck w v f ⟨2, l, o, a, b, s, e, cb, cn, cl, cy, cw, cs⟩ w3 := sA.next hb3; have sC : Ck w v f ⟨2, l, o, a, b, s, e, cb, cn, cl, cy, cw, cs⟩ (w3.alloc (.cells #[.int .i64 p, .int .i64 q, .int .i64 (s - e), .int .i64 (s + e)] 143)) := sB.next ((Below.refl _ _).alloc (Nat.le_refl _) _)))
 all_goals
  go_wp2_with fail;go_ret;exact ⟨_, _, rfl, y6M w3 _ _ _ _ _, sB.fs.b.alloc sB.fs.b.size _, fun a h => by cases h; exact ⟨_, Bk.new w3 _ _⟩⟩
theorem y8d (v : Fv) (f : Dd.Fd) (l o a b s e cb cn cl cy cw cs : Int) (w : World) (hF : FRd w w.heap.size v f) (hS : Sn w) (hg : Rg f ⟨5, l, o, a, b, s, e, cb, cn, cl, cy, cw, cs⟩) :
  Calls Tryz.prog 109 #[fval v f, caval ⟨5, l, o, a, b, s, e, cb, cn, cl, cy, cw, cs⟩] w fun ee w' => ∃ A c, ee = .returned (.slice A (Dd.gapsF f ⟨5, l, o, a, b, s, e, cb, cn, cl, cy, cw, cs⟩).length c) /\ Rd w' w'.heap.size 4 A (Dd.gapsF f ⟨5, l, o, a, b, s, e, cb, cn, cl, cy, cw, cs⟩).length (gcells (Dd.gapsF f ⟨5, l, o, a, b, s, e, cb, cn, cl, cy, cw, cs⟩)) /\ Below w.heap.size w w' /\ ∀ a, A = some a -> ∃ cs, w'.heap[a.block]? = some (.cells cs 143 (0, 0)) := by
 have hd : Dd.gapsF f ⟨5, l, o, a, b, s, e, cb, cn, cl, cy, cw, cs⟩ = [(Dd.pt f l a, Dd.pt f l b, s - e, s + e)] := rfl;rw [hd];obtain ⟨z0, z1, z2, z3, z4, z5, z6, z7⟩ := hg;dsimp only at z2 z3 z4 z5 z6 z7;have hx := Dd.y19 z0;have BP := jQ (fun (l s : Int) (h0 : 0 <= l) (h1 : l <= 1000000) (h2 : 0 <= s) (h3 : s <= 1000000) W => y0f v f l s z1 h0 h1 h2 h3 W);have BA := jQ (fun p q W => y27 p q ⟨5, l, o, a, b, s, e, cb, cn, cl, cy, cw, cs⟩ W z6 z7);have BI := jQ (fun W (h : Ck w v f ⟨5, l, o, a, b, s, e, cb, cn, cl, cy, cw, cs⟩ W) => y2A v f ⟨5, l, o, a, b, s, e, cb, cn, cl, cy, cw, cs⟩ W h.fs.rd h.sn hx z4 z5);have S0 := jQ (Ck.new (x := ⟨5, l, o, a, b, s, e, cb, cn, cl, cy, cw, cs⟩) hF hS);have T0 := jQ (fun V (h : Ck w v f ⟨5, l, o, a, b, s, e, cb, cn, cl, cy, cw, cs⟩ V) => Ck.tree h);have za : a <= 1000000 := by omega
 have zb : b <= 1000000 := by omega
 have B1 := jQ (fun W => (BP.o l a z2.1 z2.2 z4.1 za W));have B2 := jQ (fun W => (BP.o l b z2.1 z2.2 z5.1 zb W));obtain ⟨p, hp⟩ := zE (Dd.pt f l a);obtain ⟨q, hq⟩ := zE (Dd.pt f l b);rw [hp] at B1;rw [hq] at B2;rw [hp, hq];simp only [y01, y03] at B1 B2 BA S0 T0 ⊢;clear BP BI hp hq hF hS hx z0 z6 z7 hd;have P0 := S0.o;obtain ⟨⟨⟨⟨f0, f1⟩, f2, f3⟩, ⟨⟨c0, c1⟩, c2, c3⟩⟩, ⟨⟨⟨c4, c5⟩, c6, c7⟩, ⟨⟨c8, c9⟩, c10, c11, c12⟩⟩⟩ := T0.o _ P0;clear P0;go_enter Tryz.func109, Tryz.ntmps109;go_wp2_with fail;refine (B1.o _).mono ?_;rintro ee w1 ⟨rfl, hb1⟩;have S1 := jQ (S0.o.next hb1);clear hb1 f0 f1 f2 f3 c0 c1 c2 c3 c4 c5 c6 c7 c8 c9 c10 c11 c12 S0;obtain ⟨⟨⟨⟨f0, f1⟩, f2, f3⟩, ⟨⟨c0, c1⟩, c2, c3⟩⟩, ⟨⟨⟨c4, c5⟩, c6, c7⟩, ⟨⟨c8, c9⟩, c10, c11, c12⟩⟩⟩ := T0.o _ S1.o;go_wp2_with fail;have sZ : Ck w v f ⟨5, l, o, a, b, s, e, cb, cn, cl, cy, cw, cs⟩ w1.drew := S1.o.next (Below.refl _ _).drew;go_region_held3 (fun V => ((((V.cell? ⟨w.heap.size, 0, none⟩ = some (.slice v.a1 f.st.length v.c1) /\ V.cell? ⟨w.heap.size, 1, none⟩ = some (.slice v.a2 f.li.length v.c2)) /\ (V.cell? ⟨w.heap.size, 2, none⟩ = some (.slice v.a3 f.pa.length v.c3) /\ V.cell? ⟨w.heap.size, 3, none⟩ = some (.slice v.a4 f.va.length v.c4))) /\ ((V.cell? ⟨w.heap.size + 1, 0, none⟩ = some (.int .u8 5) /\ V.cell? ⟨w.heap.size + 1, 1, none⟩ = some (.int .i64 l)) /\ (V.cell? ⟨w.heap.size + 1, 2, none⟩ = some (.int .i64 o) /\ V.cell? ⟨w.heap.size + 1, 3, none⟩ = some (.int .i64 a)))) /\ (((V.cell? ⟨w.heap.size + 1, 4, none⟩ = some (.int .i64 b) /\ V.cell? ⟨w.heap.size + 1, 5, none⟩ = some (.int .i64 s)) /\ (V.cell? ⟨w.heap.size + 1, 6, none⟩ = some (.int .i64 e) /\ V.cell? ⟨w.heap.size + 1, 7, none⟩ = some (.int .i64 cb))) /\ ((V.cell? ⟨w.heap.size + 1, 8, none⟩ = some (.int .i64 cn) /\ V.cell? ⟨w.heap.size + 1, 9, none⟩ = some (.int .i64 cl)) /\ (V.cell? ⟨w.heap.size + 1, 10, none⟩ = some (.int .i64 cy) /\ (V.cell? ⟨w.heap.size + 1, 11, none⟩ = some (.int .i64 cw) /\ V.cell? ⟨w.heap.size + 1, 12, none⟩ = some (.int .i64 cs)))))))
  (first
   | ((try dsimp only); first | (with_reducible exact T0.o _ sC) | (with_reducible exact T0.o _ sB) | (with_reducible exact T0.o _ sA) | (with_reducible exact T0.o _ sZ)))
  (first
   | (go_at_call 45; refine (B2.o _).mono ?_; rintro ee w2 ⟨rfl, hb2⟩; have sA : Ck w v f ⟨5, l, o, a, b, s, e, cb, cn, cl, cy, cw, cs⟩ w2 := sZ.next hb2)
   | (go_at_call 166; refine (BA.o _ _ _).mono ?_; rintro ee w3 ⟨rfl, hb3⟩; have sB : Ck w v f ⟨5, l, o, a, b, s, e, cb, cn, cl, cy, cw, cs⟩ w3 := sA.next hb3; have sC : Ck w v f ⟨5, l, o, a, b, s, e, cb, cn, cl, cy, cw, cs⟩ (w3.alloc (.cells #[.int .i64 p, .int .i64 q, .int .i64 (s - e), .int .i64 (s + e)] 143)) := sB.next ((Below.refl _ _).alloc (Nat.le_refl _) _)))
 all_goals
  go_wp2_with fail;go_ret;exact ⟨_, _, rfl, y6M w3 _ _ _ _ _, sB.fs.b.alloc sB.fs.b.size _, fun a h => by cases h; exact ⟨_, Bk.new w3 _ _⟩⟩
theorem yB9 (v : Fv) (f : Dd.Fd) (x : Dd.Ca) (w : World) (hF : FRd w w.heap.size v f) (hS : Sn w) (he : Dd.callE f x = 0) :
  Calls Tryz.prog 109 #[fval v f, caval x] w fun ee w' => ∃ A c, ee = .returned (.slice A (Dd.gapsF f x).length c) /\ Rd w' w'.heap.size 4 A (Dd.gapsF f x).length (gcells (Dd.gapsF f x)) /\ Below w.heap.size w w' /\ ∀ a, A = some a -> ∃ cs, w'.heap[a.block]? = some (.cells cs 143 (0, 0)) := by
 have hg := Rg.of hF.l1 hF.l2 he;obtain ⟨k, l, o, a, b, s, e, cb, cn, cl, cy, cw, cs⟩ := x;by_cases h1 : k = 1
 ·subst h1; exact y8e v f l o a b s e cb cn cl cy cw cs w hF hS hg
 by_cases h2 : k = 2
 ·subst h2; exact y8f v f l o a b s e cb cn cl cy cw cs w hF hS hg
 by_cases h3 : k = 3
 ·subst h3; exact y6z v f l o a b s e cb cn cl cy cw cs w hF hS hg
 by_cases h5 : k = 5
 ·subst h5; exact y8d v f l o a b s e cb cn cl cy cw cs w hF hS hg
 exact y8c v f k l o a b s e cb cn cl cy cw cs w hF hS hg h1 h2 h3 h5
structure Yb (w : World) (v : Fv) (f : Dd.Fd) (x : Dd.Ca) (r : Int) (W : World) : Prop where
 ck : Ck w v f x W
 kR : Bk W (w.heap.size + 1 + 1) 3 #[.int .i64 r]
theorem Yb.new {w : World} {v : Fv} {f : Dd.Fd} (x : Dd.Ca) (r : Int) (hF : FRd w w.heap.size v f) (hS : Sn w) : Yb w v f x r (((w.alloc (.cells #[.slice v.a1 f.st.length v.c1, .slice v.a2 f.li.length v.c2, .slice v.a3 f.pa.length v.c3, .slice v.a4 f.va.length v.c4] 27)).alloc (.cells #[.int .u8 x.k, .int .i64 x.l, .int .i64 x.o, .int .i64 x.a, .int .i64 x.b, .int .i64 x.s, .int .i64 x.e, .int .i64 x.c.b, .int .i64 x.c.n, .int .i64 x.c.l, .int .i64 x.c.y, .int .i64 x.c.w, .int .i64 x.c.s] 48)).alloc (.cells #[.int .i64 r] 3)) := by
 have h := Ck.new (x := x) hF hS;have hz : ((w.alloc (.cells #[.slice v.a1 f.st.length v.c1, .slice v.a2 f.li.length v.c2, .slice v.a3 f.pa.length v.c3, .slice v.a4 f.va.length v.c4] 27)).alloc (.cells #[.int .u8 x.k, .int .i64 x.l, .int .i64 x.o, .int .i64 x.a, .int .i64 x.b, .int .i64 x.s, .int .i64 x.e, .int .i64 x.c.b, .int .i64 x.c.n, .int .i64 x.c.l, .int .i64 x.c.y, .int .i64 x.c.w, .int .i64 x.c.s] 48)).heap.size = w.heap.size + 1 + 1 := by simp
 refine ⟨h.next ((Below.refl _ _).alloc (Nat.le_refl _) _), ?_⟩;have := Bk.new ((w.alloc (.cells #[.slice v.a1 f.st.length v.c1, .slice v.a2 f.li.length v.c2, .slice v.a3 f.pa.length v.c3, .slice v.a4 f.va.length v.c4] 27)).alloc (.cells #[.int .u8 x.k, .int .i64 x.l, .int .i64 x.o, .int .i64 x.a, .int .i64 x.b, .int .i64 x.s, .int .i64 x.e, .int .i64 x.c.b, .int .i64 x.c.n, .int .i64 x.c.l, .int .i64 x.c.y, .int .i64 x.c.w, .int .i64 x.c.s] 48)) 3 #[.int .i64 r];rw [hz] at this;exact this
theorem y6j (v : Fv) (f : Dd.Fd) (x : Dd.Ca) (r : Int) (w : World) (hF : FRd w w.heap.size v f) (hS : Sn w) :
  Calls Tryz.prog 57 #[fval v f, caval x, .int .i64 r] w fun e w' => e = .returned (.func (.func 108) #[] #[.pointer (some ⟨w.heap.size, 0, none⟩), .pointer (some ⟨w.heap.size + 1, 0, none⟩), .pointer (some ⟨w.heap.size + 1 + 1, 0, none⟩)]) /\ Yb w v f x r w' := by
 have hmf := zM;have Y0 := jQ (Yb.new x r hF hS);simp only [y01, y03];clear hF hS;go_enter Tryz.func57, Tryz.ntmps57;go_wp2_with fail;go_ret;exact ⟨rfl, Y0.o⟩
end

section
open Go.RowKit
structure Kc (M : Nat) (X : Nat -> Prop) (w w' : World) : Prop where
 kx : KeepX M X w w'
 gap : ∀ (k : Nat) (cs : Array Value) (fr : Nat × Nat), w.heap[k]? = some (.cells cs 143 fr) -> w'.heap[k]? = some (.cells cs 143 fr)
section
variable {M : Nat} {X : Nat -> Prop} {a w w' : World}
theorem Kc.refl (M : Nat) (X : Nat -> Prop) (w : World) : Kc M X w w := ⟨KeepX.refl _ _ _, fun _ _ _ h => h⟩
theorem Kc.trans {c : World} (h : Kc M X a w) (k : Kc M X w c) : Kc M X a c := ⟨h.kx.trans k.kx, fun i cs fr e => k.gap i cs fr (h.gap i cs fr e)⟩
theorem Kc.of_grown {row : Option Nat} (h : w.grownBy w' row) (hM : M <= w.heap.size) (hr : ∀ k, row = some k -> X k ∨ M <= k) (ht : ∀ (k : Nat) (cs : Array Value) (fr : Nat × Nat), row = some k -> w.heap[k]? ≠ some (.cells cs 143 fr)) : Kc M X w w' :=
 ⟨KeepX.of_grown h hM (fun k e hk => (hr k e).resolve_right (by omega)), fun k cs fr e => (h.block k (Array.getElem?_eq_some_iff.1 e).1 (fun e2 => ht k cs fr e2.symm e)).trans e⟩
theorem Kc.of_below (h : Below w.heap.size w w') (hM : M <= w.heap.size) : Kc M X w w' :=
 ⟨KeepX.of_below (h.mono hM) X, fun k cs fr e => (h.block k (Array.getElem?_eq_some_iff.1 e).1).trans e⟩
theorem Kc.alloc (h : Kc M X a w) (hM : M <= w.heap.size) (o : Obj) : Kc M X a (w.alloc o) := h.trans (.of_grown (World.grownBy_alloc w o none) hM (fun k e => by cases e) (fun k _ _ e => by cases e))
theorem Kc.drew (h : Kc M X a w) : Kc M X a w.drew := ⟨h.kx.drew, h.gap⟩
theorem Kc.drewN (h : Kc M X a w) (n : Nat) : Kc M X a (w.drewN n) := ⟨h.kx.drewN n, h.gap⟩
theorem Kc.setBk (h : Kc M X a w) {g : Nat} {t : TypeId} {cs : Array Value} (hb : Bk w g t cs) (ht : t ≠ 143) (hX : g < M -> X g) (i : Nat) (u : Value) : Kc M X a (w.setCell ⟨g, i, none⟩ u) :=
 ⟨h.kx.setCell (p := ⟨g, i, none⟩) hX u, fun k cs' fr e => by
  have e1 := h.gap k cs' fr e;refine (Below.heap_setCell w ⟨g, i, none⟩ u k (fun e2 => ?_)).trans e1;have hb' : w.heap[g]? = some (.cells cs t (0, 0)) := hb;dsimp only at e2;rw [<- e2, e1] at hb';cases hb';exact ht rfl⟩
theorem Kc.bk (h : Kc M X w w') {g : Nat} {t : TypeId} {cs : Array Value} (hb : Bk w g t cs) (hg : g < M) (hx : ¬ X g) : Bk w' g t cs := h.kx.bk hb hg hx
theorem Kc.bkG (h : Kc M X w w') {g : Nat} {cs : Array Value} (hb : Bk w g 143 cs) : Bk w' g 143 cs := h.gap g cs (0, 0) hb
theorem Kc.rd (h : Kc M X w w') {B n l : Nat} {A : Option Addr} {xs : List Value} (hr : Rd w B n A l xs) (hx : ∀ p, A = some p -> ∃ cs, w.heap[p.block]? = some (.cells cs 143 (0, 0))) : Rd w' B n A l xs := by
 refine ⟨hr.1, fun hl => ?_⟩;obtain ⟨b, off, e, hb, hc⟩ := hr.2 hl;obtain ⟨cs, hcs⟩ := hx _ e;refine ⟨b, off, e, hb, fun j hj => ?_⟩;rw [World.cell?_of_block ((h.gap b cs (0, 0) hcs).trans hcs.symm)];exact hc j hj
end
theorem kc_t {M : Nat} {X : Nat -> Prop} {a b c : World} (h : Kc M X a b) (k : Kc M X b c) : Kc M X a c := h.trans k
theorem kc_b {M : Nat} {X : Nat -> Prop} {w : World} (hM : M <= w.heap.size) (W : World) (l : Nat) (o o' : Obj) (hl : w.heap.size <= l) (ho : W.heap[l]? = some o) (hc : o.isCells = false) (_ : o.isWalk = false) : Kc M X W (W.putObj l o') := by
 have hg := grownBy_putObj' W l o';refine ⟨⟨hg.os, hg.tape, hg.output, hg.size, fun k hk _ => ?_⟩, fun k cs fr e => ?_⟩
 ·rcases Nat.lt_or_ge k W.heap.size with h | h
  ·exact hg.block k h (fun e => by cases e; omega)
  have h2 : (W.putObj l o').heap.size = W.heap.size := by simp [World.putObj]
  rw [Array.getElem?_eq_none (by omega), Array.getElem?_eq_none (by omega)]
 refine (hg.block k (Array.getElem?_eq_some_iff.1 e).1 (fun e2 => ?_)).trans e;cases e2;rw [ho] at e;cases e;cases hc
theorem y4Z {w : World} {base e size n : Nat} {v : Value} {xs : List Value} (h : w.ownsRow base e size v n xs) {k : Nat} (hk : v.ownBlock = some k) : ∃ cs, w.heap[k]? = some (.cells cs e (0, 0)) := by
 rcases h.2 with ⟨rfl, _⟩ | ⟨g, cap, cur, rfl, _, hg, _⟩
 ·cases hk
 cases hk; exact ⟨cur, hg⟩
theorem y2s {W W' : World} {row : Option Nat} (hg : W.grownBy W' row) (hr : ∀ k, row = some k -> ∃ cs t fr, W.heap[k]? = some (.cells cs t fr)) (B : Nat) : KeepsFrom B W W' :=
 ⟨hg.size, fun k o _ ho hc => (hg.block k (Array.getElem?_eq_some_iff.1 ho).1 (fun e => by
  obtain ⟨cs, t, fr, h⟩ := hr k e.symm;rw [ho] at h;cases h;cases hc)).trans ho⟩
theorem yCq {W W' : World} {base e size n : Nat} {v : Value} {xs : List Value} (h : W.ownsRow base e size v n xs) (hg : W.grownBy W' v.ownBlock) (B : Nat) : KeepsFrom B W W' :=
 y2s hg (fun k hk => by obtain ⟨cs, hc⟩ := y4Z h hk; exact ⟨cs, e, (0, 0), hc⟩) B
theorem Kc.own {M : Nat} {X : Nat -> Prop} {W W' : World} {base e size n : Nat} {v : Value} {xs : List Value} (h : W.ownsRow base e size v n xs) (hg : W.grownBy W' v.ownBlock) (hM : M <= W.heap.size) (hb : M <= base) (he : e ≠ 143) : Kc M X W W' :=
 Kc.of_grown hg hM (fun k hk => .inr (Nat.le_trans hb (h.lt k hk).1)) (fun k cs fr hk h2 => by
  obtain ⟨cs', hc⟩ := y4Z h hk;rw [h2] at hc;cases hc;exact he rfl)
theorem y2Z {F : Fence} {n : Nat} {P : Program} {fn : Func} {tmps : Array Value} {R : Ending -> World -> Prop} {D : Nat} {w : World} (hD : w.heap[D]? = some (.deferred (some [])))
  (h : ∀ w', KeepX w.heap.size (fun j => j = D) w w' -> LeavesIn F n P fn tmps R [] .returning w') : LeavesInM F n P fn tmps R [mark D] .returning w :=
 y16 [D] _ (by simp) (fun E hE => by simp only [List.mem_cons, List.not_mem_nil, or_false] at hE; rw [hE]; exact hD) (fun w' hw => h w' (hw.mono (Nat.le_refl _) (fun k _ hk => by simpa using hk)))
theorem KeepX.rdD {W w' : World} {D B n l : Nat} {A : Option Addr} {xs : List Value} (hk : KeepX W.heap.size (fun j => j = D) W w') (hD : W.heap[D]? = some (.deferred (some []))) (h : Rd W B n A l xs) (hB : B <= W.heap.size) : Rd w' B n A l xs := by
 refine ⟨h.1, fun hl => ?_⟩;obtain ⟨b, off, e, hb, hc⟩ := h.2 hl;refine ⟨b, off, e, hb, fun j hj => ?_⟩;have h1 := hc j hj;by_cases hbD : b = D
 ·subst hbD;rw [List.getElem?_eq_getElem (by rw [h.1]; exact hj)] at h1;simp [World.cell?, hD] at h1
 rw [World.cell?_of_block (hk.block b (by omega) hbD)];exact h1
end

section
open Go.RowKit Go.Shelf
attribute [local go_sem] Oper.semAt_some
structure Yc (B Bf Bc Br : Nat) (v : Fv) (f : Dd.Fd) (x : Dd.Ca) (r : Int) (W : World) : Prop where
 kF : Bk W Bf 27 #[.slice v.a1 f.st.length v.c1, .slice v.a2 f.li.length v.c2, .slice v.a3 f.pa.length v.c3, .slice v.a4 f.va.length v.c4]
 kC : Bk W Bc 48 #[.int .u8 x.k, .int .i64 x.l, .int .i64 x.o, .int .i64 x.a, .int .i64 x.b, .int .i64 x.s, .int .i64 x.e, .int .i64 x.c.b, .int .i64 x.c.n, .int .i64 x.c.l, .int .i64 x.c.y, .int .i64 x.c.w, .int .i64 x.c.s]
 kR : Bk W Br 3 #[.int .i64 r]
 rd : FRd W B v f
 sn : Sn W
theorem Yc.below {B Bf Bc Br C : Nat} {v : Fv} {f : Dd.Fd} {x : Dd.Ca} {r : Int} {W W' : World} (h : Yc B Bf Bc Br v f x r W) (hb : Below C W W') (h1 : Bf < C) (h2 : Bc < C) (h3 : Br < C) (hB : B <= C) (hg : 8 < C) : Yc B Bf Bc Br v f x r W' :=
 ⟨h.kF.below hb h1, h.kC.below hb h2, h.kR.below hb h3, h.rd.below hb hB, h.sn.below hb hg⟩
def ibv {f : Dd.Fd} {x : Dd.Ca} {r : Int} (b : Dd.Ib f x r) : Array Value := #[bval b.1]
theorem y8F (n : Nat) (hn : 1 <= n) (l Bf Bc Br M B : Nat) (X : Nat -> Prop) (v : Fv) (f : Dd.Fd) (x : Dd.Ca) (r : Int) (he : Dd.callE f x = 0)
  (hX : ∀ j, X j -> B <= j /\ j < M) (h1 : ¬ X Bf) (h2 : ¬ X Bc) (h3 : ¬ X Br) (hB : B <= M) (hg : 8 < B) (h4 : Bf < M) (h5 : Bc < M) (h6 : Br < M) (J Jx : List (Dd.Ib f x r) -> World -> Prop) (W : World) (hM : M <= W.heap.size) (hJ : AbidesFrom W.heap.size J)
  (hY : ∀ pre y W, J pre W -> pre.length < (Dd.bnds f x r).length -> YieldAt Fence.wide (n - 1) Tryz.prog l (ibv y) W fun e W' =>
   (e = .returned (.bool true) /\ J (pre ++ [y]) W' /\ Kc M X W W') ∨ (e = .returned (.bool false) /\ Jx (pre ++ [y]) W'))
  (hW : Yc B Bf Bc Br v f x r W) (h0 : J [] W) :
  CallsIn Fence.wide n Tryz.prog 108 #[.func (.yield l) #[] #[], .pointer (some ⟨Bf, 0, none⟩), .pointer (some ⟨Bc, 0, none⟩), .pointer (some ⟨Br, 0, none⟩)] W fun e W' => (∃ v, e = .returned v) /\
   ((∃ ys, ys = (Dd.bnds f x r).attach /\ J ys W') ∨ (∃ pre, pre <+: (Dd.bnds f x r).attach /\ Jx pre W')) := by
 have g0 := fun w hF hS => yB9 v f x w hF hS he;have f0 := (hW.kF.cell 0).trans rfl;have f1 := (hW.kF.cell 1).trans rfl;have f2 := (hW.kF.cell 2).trans rfl;have f3 := (hW.kF.cell 3).trans rfl;have c0 := (hW.kC.cell 0).trans rfl;have c1 := (hW.kC.cell 1).trans rfl;have c2 := (hW.kC.cell 2).trans rfl;have c3 := (hW.kC.cell 3).trans rfl;have c4 := (hW.kC.cell 4).trans rfl;have c5 := (hW.kC.cell 5).trans rfl;have c6 := (hW.kC.cell 6).trans rfl;have c7 := (hW.kC.cell 7).trans rfl;have c8 := (hW.kC.cell 8).trans rfl;have c9 := (hW.kC.cell 9).trans rfl;have c10 := (hW.kC.cell 10).trans rfl;have c11 := (hW.kC.cell 11).trans rfl;have c12 := (hW.kC.cell 12).trans rfl;simp only [y01, y03] at g0;have G0 := jQ g0;have HW := jQ hW;have HJ := jQ hJ;have HY := jQ hY;have HX := jQ hX;have HE := jQ he;clear g0 hW hJ hY hX he;refine callsIn_of_wp Tryz.func108 rfl trivial ?_ rfl;simp only [Tryz.ntmps108, List.size_toArray, List.length_cons, List.length_nil, Nat.reduceAdd, Nat.reduceSub, Array.replicate_succ, Array.replicate_zero, List.push_toArray, List.append_toArray, List.nil_append, List.cons_append];gi_wp2_with (refine ⟨trivial, ?_⟩; gi_at_call 109; refine (callsIn_wide.2 (G0.o _ (HW.o.rd.more (Nat.le_trans hB hM)) HW.o.sn)).mono ?_; rintro e w1 ⟨A, c, rfl, hrd, hb, hfr⟩);have hJ1 : J [] w1 := HJ.o _ _ _ none h0 ⟨hb.os, hb.tape, hb.output, hb.size, fun k hk _ => hb.block k hk⟩ (fun r e => by cases e);have hK1 : Kc M X W w1 := Kc.of_below hb hM;have hgl := Dd.y2C HE.o;have hl1 := HW.o.rd.l1;have hMw := Nat.le_trans hM hb.size;have hz := hb.size;have HRD := jQ hrd;have HFR := jQ hfr;have HB := jQ hb;clear f0 f1 f2 f3 c0 c1 c2 c3 c4 c5 c6 c7 c8 c9 c10 c11 c12 hrd hfr hb h0
 gi_loopw [11] (fun i wr => ∃ k : Nat, k <= (Dd.gapsF f x).length /\ i = .int .i64 k /\ J ((Dd.bnds f x r).attach.take (2 * k)) wr /\ Kc M X w1 wr) (fun i _ => (Dd.gapsF f x).length - (intOf i).toNat)
 case atStart => exact ⟨0, Nat.zero_le _, rfl, by simpa using hJ1, Kc.refl _ _ _⟩
 obtain ⟨k, hk, rfl, hJs, hK⟩ := hrel;by_cases hlt : k < (Dd.gapsF f x).length
 ·obtain ⟨b, off, rfl, hbl, e0, e1, e2, e3⟩ := (hK.rd HRD.o HFR.o).gap hlt;have hlo := Dd.y7h HE.o (List.getElem_mem hlt);have hbn := Dd.y1s f x r;obtain ⟨⟨p, q, lo, hi⟩, hgg⟩ : ∃ g, (Dd.gapsF f x)[k] = g := ⟨_, rfl⟩;obtain ⟨m1, m2, t1, t2⟩ := Dd.yC6 f x r hlt hgg;simp only [hgg] at e0 e1 e2 e3 hlo;clear hgg;have hwz : w1.heap.size <= wr.heap.size := hK.kx.size;have hbw : b < wr.heap.size := Nat.lt_of_lt_of_le hbl hwz;have kR := (hK1.trans hK).bk HW.o.kR h6 h3;have r0 := (kR.cell 0).trans rfl;have hRl : Br < wr.heap.size := kR.lt;have hJ2 : J ((Dd.bnds f x r).attach.take (2 * k)) (wr.alloc (.cells #[.int .i64 p, .int .i64 q, .int .i64 lo, .int .i64 hi] 143)) := HJ.o _ _ _ none hJs (World.grownBy_alloc wr _ none) (fun r e => by cases e);have hK2 := hK.alloc (Nat.le_trans hMw hwz) (.cells #[.int .i64 p, .int .i64 q, .int .i64 lo, .int .i64 hi] 143);have kG := Bk.new wr 143 #[.int .i64 p, .int .i64 q, .int .i64 lo, .int .i64 hi];obtain ⟨fn, tmps, assign, body, hy, hR⟩ := HY.o _ ⟨_, m1⟩ _ hJ2 (by simp; omega);rw [t1] at hR;dsimp only [ibv, bval] at hy;have HK2 := jQ hK2;have KG := jQ kG;have T2 := jQ t2;clear hJs hK hJ2 hK2 kG t1 t2 kR;gi_wp2_with (fail);refine hR.mono ?_;clear hR hy;rintro e W3 (⟨rfl, hJ3, hk3⟩ | ⟨rfl, hx3⟩)
  ·have hK3 := HK2.o.trans hk3;have kG3 := hk3.bkG KG.o;have g0 := (kG3.cell 0).trans rfl;have g1 := (kG3.cell 1).trans rfl;have g2 := (kG3.cell 2).trans rfl;have hGl := kG3.lt;have r3 := (((hK1.trans hK3).bk HW.o.kR h6 h3).cell 0).trans rfl;have hRl3 := ((hK1.trans hK3).bk HW.o.kR h6 h3).lt;have hwn : IntKind.i64.wrap (-lo) = -lo := IntWalk.i64_in _ (by omega);obtain ⟨fn2, tmps2, assign2, body2, hy2, hR2⟩ := HY.o _ ⟨_, m2⟩ _ hJ3 (by simp; omega);rw [T2.o] at hR2;dsimp only [ibv, bval] at hy2;have HK3 := jQ hK3;clear hJ3 hk3 hK3 kG3;gi_wp2_with (fail);refine hR2.mono ?_;clear hR2 hy2;rintro e W4 (⟨rfl, hJ4, hk4⟩ | ⟨rfl, hx4⟩)
   ·have HK4 := jQ (HK3.o.trans hk4);have HJ4 := jQ hJ4;clear hk4 hJ4;gi_wp2_with (fail);go_roundw
    case rel => exact ⟨k + 1, by omega, by simp, HJ4.o, HK4.o⟩
    case measure => simp [intOf]; omega
   have HX4 := jQ hx4;clear hx4;gi_wp2_with (fail);refine bodyPost_ret (results_none rfl _ _ _) rfl ?_;exact ⟨⟨_, rfl⟩, .inr ⟨_, List.take_prefix _ _, HX4.o⟩⟩
  have HX3 := jQ hx3;clear hx3;gi_wp2_with (fail);refine ⟨fun _ h => (by cases h), ?_⟩;gi_wp2_with (fail);refine bodyPost_ret (results_none rfl _ _ _) rfl ?_;exact ⟨⟨_, rfl⟩, .inr ⟨_, List.take_prefix _ _, HX3.o⟩⟩
 obtain rfl : k = (Dd.gapsF f x).length := by omega
 have hbn := Dd.y1s f x r;have HJ5 := jQ hJs;have HBN := jQ hbn;clear hJs hbn;gi_wp2_with (fail)
 go_end0
 exact ⟨⟨_, rfl⟩, .inl ⟨_, by rw [List.take_of_length_le (by simp [HBN.o])], HJ5.o⟩⟩
theorem y2f (n : Nat) (hn : 1 <= n) (Bf Bc Br M B : Nat) (X : Nat -> Prop) (v : Fv) (f : Dd.Fd) (x : Dd.Ca) (r : Int) (he : Dd.callE f x = 0)
  (hX : ∀ j, X j -> B <= j /\ j < M) (h1 : ¬ X Bf) (h2 : ¬ X Bc) (h3 : ¬ X Br) (hB : B <= M) (hg : 8 < B) (h4 : Bf < M) (h5 : Bc < M) (h6 : Br < M) (w : World) (hM : M <= w.heap.size) (hW : Yc B Bf Bc Br v f x r w) :
  SeqStopsK Fence.wide n Tryz.prog 108 #[.pointer (some ⟨Bf, 0, none⟩), .pointer (some ⟨Bc, 0, none⟩), .pointer (some ⟨Br, 0, none⟩)] (fun b : Dd.Ib f x r => ibv b) (Kc M X) (fun ys => ys = (Dd.bnds f x r).attach) (fun pre => pre <+: (Dd.bnds f x r).attach) (Dd.bnds f x r).length w :=
 fun l J Jx W hb hJ _ hY h0 => y8F n hn l Bf Bc Br M B X v f x r he hX h1 h2 h3 hB hg h4 h5 h6 J Jx W (Nat.le_trans hM hb.size) hJ hY (hW.below hb (by omega) (by omega) (by omega) (by omega) (by omega)) h0
end
end Go.Proofs.YtccikcpcfdjobaaGreatDoor
