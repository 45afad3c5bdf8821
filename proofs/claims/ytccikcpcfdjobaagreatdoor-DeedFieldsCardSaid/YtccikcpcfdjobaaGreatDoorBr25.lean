/-
  What the claims of layer deed need of the texts DAbo, DGp0, DGp1, DGp3, DGp4.
-/
import Derived.Test.YtccikcpcfdjobaaGreatDoorBr24
import Derived.Test.YtccikcpcfdjobaaGreatDoorBr23
import Derived.Test.YtccikcpcfdjobaaGreatDoorBz
set_option linter.unusedVariables false
set_option linter.unusedSimpArgs false
set_option maxHeartbeats 8000000
set_option maxRecDepth 100000
namespace Go.Proofs.YtccikcpcfdjobaaGreatDoor
section
open Go.RowKit
theorem results_cell_row1 {P : Program} {fn : Func} {p : Tmp} {ty : TypeId} (h : fn.results = #[.cell p ty]) (tmps : Array Value) (w : World) (g : Nat) (t : TypeId) (cs : Array Value) (fr : Nat × Nat) (d : TypeDesc)
  (hp : tmps.getD p undef = .pointer (some ⟨g, 0, none⟩)) (hg : w.heap[g]? = some (.cells cs t fr))
  (hu : P.underlying ty = some d) (hd : (match d with | .struct _ | .array _ _ => true | _ => false) = true) (hi : (P.info? ty).map (·.size) = some cs.size) :
  (results fn tmps).run P w = .ok (.agg cs) w := by
 have hp' : tmps[p]?.getD undef = .pointer (some ⟨g, 0, none⟩) := by simpa using hp
 simp [results, h, hp', asAddr, run_loadVar_row w g t ty cs fr d hg hu hd hi]
theorem about_any (p q : Int) (x : Dd.Ca) (w : World) (hs : -100000 ≤ x.s ∧ x.s ≤ 100000) (he : 0 ≤ x.e ∧ x.e ≤ 100000) :
  Calls Tryz.prog 166 #[.int .i64 p, .int .i64 q, caval x] w fun e w' => e = .returned (.agg #[.int .i64 p, .int .i64 q, .int .i64 (x.s - x.e), .int .i64 (x.s + x.e)]) ∧ Below w.heap.size w w' := by
 have HB := jQ (fun (a b : Obj) => ((Below.refl w.heap.size w).alloc (Nat.le_refl _) a).alloc (by simp) b)
 have HK := jQ (fun (a : Obj) (cs : Array Value) => (show Bk ((w.alloc a).alloc (.cells cs 143)) (w.heap.size + 1) 143 cs from by
  have := Bk.new (w.alloc a) 143 cs
  rwa [World.size_alloc] at this))
 have h1 : IntKind.i64.wrap (x.s - x.e) = x.s - x.e := IntWalk.i64_in _ (by omega)
 have h2 : IntKind.i64.wrap (x.s + x.e) = x.s + x.e := IntWalk.i64_in _ (by omega)
 simp only [caval_def]
 go_enter Tryz.func166, Tryz.ntmps166
 go_wp2_with fail
 exact bodyPost_ret (results_cell_row1 rfl _ _ (w.heap.size + 1) 143 _ (0, 0) _ rfl (HK.o _ _) Tryz.underlying143 rfl (by kernel_rfl)) rfl ⟨rfl, HB.o _ _⟩
end

section
open Go.RowKit
abbrev Gp := Int × Int × Int × Int
def gcell (g : Gp) : List Value := [.int .i64 g.1, .int .i64 g.2.1, .int .i64 g.2.2.1, .int .i64 g.2.2.2]
def gcells (l : List Gp) : List Value := l.flatMap gcell
theorem gcell_len (g : Gp) : (gcell g).length = 4 := rfl
theorem gcells_length (l : List Gp) : (gcells l).length = l.length * 4 := flatl_len gcell_len l
theorem gcells_append (a b : List Gp) : gcells (a ++ b) = gcells a ++ gcells b := List.flatMap_append
theorem gcells_one (g : Gp) : gcells [g] = gcell g := by simp [gcells]
theorem rd_gap (w : World) (t : TypeId) (p q a b : Int) : Rd (w.alloc (.cells #[.int .i64 p, .int .i64 q, .int .i64 a, .int .i64 b] t)) (w.alloc (.cells #[.int .i64 p, .int .i64 q, .int .i64 a, .int .i64 b] t)).heap.size 4 (some ⟨w.heap.size, 0, none⟩) 1 (gcells [(p, q, a, b)]) := by
 rw [gcells_one, World.size_alloc]
 refine ⟨rfl, fun _ => ⟨w.heap.size, 0, rfl, by omega, fun j hj => ?_⟩⟩
 have := (Bk.new w t #[.int .i64 p, .int .i64 q, .int .i64 a, .int .i64 b]).cell (0 + j)
 rw [this]
 rcases (by omega : j = 0 ∨ j = 1 ∨ j = 2 ∨ j = 3) with rfl | rfl | rfl | rfl <;> rfl
theorem Rd.gap {w : World} {B : Nat} {A : Option Addr} {l : List Gp} (h : Rd w B 4 A l.length (gcells l)) {k : Nat} (hk : k < l.length) :
  ∃ b off, A = some ⟨b, off, none⟩ ∧ b < B ∧ w.cell? ⟨b, off + k * 4, none⟩ = some (.int .i64 l[k].1) ∧ w.cell? ⟨b, off + k * 4 + 1, none⟩ = some (.int .i64 l[k].2.1) ∧
   w.cell? ⟨b, off + k * 4 + 2, none⟩ = some (.int .i64 l[k].2.2.1) ∧ w.cell? ⟨b, off + k * 4 + 3, none⟩ = some (.int .i64 l[k].2.2.2) := by
 obtain ⟨b, off, e, hb, hc⟩ := Rd.item (cell := gcell) h gcell_len hk
 exact ⟨b, off, e, hb, hc 0 (by decide), hc 1 (by decide), hc 2 (by decide), hc 3 (by decide)⟩
theorem infoGp : (Tryz.prog.info? 143).map (fun i => (i.zero, i.size, i.bytes)) = some (some (.agg #[.int .i64 0, .int .i64 0, .int .i64 0, .int .i64 0]), 4, 32) := by kernel_rfl
theorem Ck.tree {w W : World} {v : Fv} {f : Dd.Fd} {x : Dd.Ca} (h : Ck w v f x W) : ((((W.cell? ⟨w.heap.size, 0, none⟩ = some (.slice v.a1 f.st.length v.c1) ∧ W.cell? ⟨w.heap.size, 1, none⟩ = some (.slice v.a2 f.li.length v.c2)) ∧ (W.cell? ⟨w.heap.size, 2, none⟩ = some (.slice v.a3 f.pa.length v.c3) ∧ W.cell? ⟨w.heap.size, 3, none⟩ = some (.slice v.a4 f.va.length v.c4))) ∧ ((W.cell? ⟨w.heap.size + 1, 0, none⟩ = some (.int .u8 x.k) ∧ W.cell? ⟨w.heap.size + 1, 1, none⟩ = some (.int .i64 x.l)) ∧ (W.cell? ⟨w.heap.size + 1, 2, none⟩ = some (.int .i64 x.o) ∧ W.cell? ⟨w.heap.size + 1, 3, none⟩ = some (.int .i64 x.a)))) ∧ (((W.cell? ⟨w.heap.size + 1, 4, none⟩ = some (.int .i64 x.b) ∧ W.cell? ⟨w.heap.size + 1, 5, none⟩ = some (.int .i64 x.s)) ∧ (W.cell? ⟨w.heap.size + 1, 6, none⟩ = some (.int .i64 x.e) ∧ W.cell? ⟨w.heap.size + 1, 7, none⟩ = some (.int .i64 x.c.b))) ∧ ((W.cell? ⟨w.heap.size + 1, 8, none⟩ = some (.int .i64 x.c.n) ∧ W.cell? ⟨w.heap.size + 1, 9, none⟩ = some (.int .i64 x.c.l)) ∧ (W.cell? ⟨w.heap.size + 1, 10, none⟩ = some (.int .i64 x.c.y) ∧ (W.cell? ⟨w.heap.size + 1, 11, none⟩ = some (.int .i64 x.c.w) ∧ W.cell? ⟨w.heap.size + 1, 12, none⟩ = some (.int .i64 x.c.s)))))) := by
 obtain ⟨f0, f1, f2, f3, _⟩ := h.fs.cells
 obtain ⟨c0, c1, c2, c3, c4, c5, c6, c7, c8, c9, c10, c11, c12, _⟩ := h.cells
 exact ⟨⟨⟨⟨f0, f1⟩, ⟨f2, f3⟩⟩, ⟨⟨c0, c1⟩, ⟨c2, c3⟩⟩⟩, ⟨⟨⟨c4, c5⟩, ⟨c6, c7⟩⟩, ⟨⟨c8, c9⟩, ⟨c10, ⟨c11, c12⟩⟩⟩⟩⟩
structure Rg (f : Dd.Fd) (x : Dd.Ca) : Prop where
 f0 : Dd.fieldE f = 0
 st : f.st.length ≤ 1000000
 l : 0 ≤ x.l ∧ x.l ≤ 1000000
 o : 0 ≤ x.o ∧ x.o ≤ 1000000
 a : 0 ≤ x.a ∧ x.a < f.st.length
 b : 0 ≤ x.b ∧ x.b < f.st.length
 s : -100000 ≤ x.s ∧ x.s ≤ 100000
 e : 0 ≤ x.e ∧ x.e ≤ 100000
theorem Rg.of {f : Dd.Fd} {x : Dd.Ca} (hl1 : f.st.length ≤ 1000000) (hl2 : f.li.length ≤ 1000000) (h : Dd.callE f x = 0) : Rg f x := by
 have h0 : Dd.fieldE f = 0 := by
  unfold Dd.callE at h
  by_cases h0 : Dd.fieldE f = 0
  ·exact h0
  ·rw [if_pos h0] at h; exact absurd h h0
 have hg : Dd.callG f x = 0 := by
  unfold Dd.callE at h
  rwa [if_neg (by simp [h0])] at h
 have ht := (Dd.callG_zero hg).1
 simp only [Dd.there, Dd.isIx, Bool.and_eq_true, decide_eq_true_eq] at ht
 obtain ⟨⟨⟨⟨⟨t1, t2⟩, t3⟩, t4⟩, t5⟩, t6⟩ := ht
 exact ⟨h0, hl1, ⟨t1.1, by omega⟩, ⟨t2.1, by omega⟩, t3, t4, t5, t6⟩
end

section
open Go.RowKit
theorem gaps_stone (v : Fv) (f : Dd.Fd) (l o a b s e cb cn cl cy cw cs : Int) (w : World) (hF : FRd w w.heap.size v f) (hS : Sn w) (hg : Rg f ⟨1, l, o, a, b, s, e, ⟨cb, cn, cl, cy, cw, cs⟩⟩) :
  Calls Tryz.prog 109 #[fval v f, caval ⟨1, l, o, a, b, s, e, ⟨cb, cn, cl, cy, cw, cs⟩⟩] w fun ee w' => ∃ A c, ee = .returned (.slice A (Dd.gapsF f ⟨1, l, o, a, b, s, e, ⟨cb, cn, cl, cy, cw, cs⟩⟩).length c) ∧ Rd w' w'.heap.size 4 A (Dd.gapsF f ⟨1, l, o, a, b, s, e, ⟨cb, cn, cl, cy, cw, cs⟩⟩).length (gcells (Dd.gapsF f ⟨1, l, o, a, b, s, e, ⟨cb, cn, cl, cy, cw, cs⟩⟩)) ∧ Below w.heap.size w w' ∧ ∀ a, A = some a → ∃ cs, w'.heap[a.block]? = some (.cells cs 143 (0, 0)) := by
 have hd : Dd.gapsF f ⟨1, l, o, a, b, s, e, ⟨cb, cn, cl, cy, cw, cs⟩⟩ = [(0, Dd.pt f l a, s - e, s + e)] := rfl
 rw [hd]
 obtain ⟨z0, z1, z2, z3, z4, z5, z6, z7⟩ := hg
 dsimp only at z2 z3 z4 z5 z6 z7
 have hx := Dd.range_x z0
 have BP := jQ (fun (l s : Int) (h0 : 0 ≤ l) (h1 : l ≤ 1000000) (h2 : 0 ≤ s) (h3 : s ≤ 1000000) W => pointOf_any v f l s z1 h0 h1 h2 h3 W)
 have BA := jQ (fun p q W => about_any p q ⟨1, l, o, a, b, s, e, ⟨cb, cn, cl, cy, cw, cs⟩⟩ W z6 z7)
 have BI := jQ (fun W (h : Ck w v f ⟨1, l, o, a, b, s, e, ⟨cb, cn, cl, cy, cw, cs⟩⟩ W) => dint_any v f ⟨1, l, o, a, b, s, e, ⟨cb, cn, cl, cy, cw, cs⟩⟩ W h.fs.rd h.sn hx z4 z5)
 have S0 := jQ (Ck.new (x := ⟨1, l, o, a, b, s, e, ⟨cb, cn, cl, cy, cw, cs⟩⟩) hF hS)
 have T0 := jQ (fun V (h : Ck w v f ⟨1, l, o, a, b, s, e, ⟨cb, cn, cl, cy, cw, cs⟩⟩ V) => Ck.tree h)
 have za : a ≤ 1000000 := by omega
 have zb : b ≤ 1000000 := by omega
 obtain ⟨p, hp⟩ : ∃ p, Dd.pt f l a = p := ⟨_, rfl⟩
 have B1 := jQ (fun W => (BP.o l a z2.1 z2.2 z4.1 za W))
 rw [hp] at B1 ⊢
 simp only [fval_def, caval_def] at B1 BA BI S0 T0 ⊢
 clear BP hF hS hx z0 z6 z7 hd hp BI
 have P0 := S0.o
 obtain ⟨⟨⟨⟨f0, f1⟩, ⟨f2, f3⟩⟩, ⟨⟨c0, c1⟩, ⟨c2, c3⟩⟩⟩, ⟨⟨⟨c4, c5⟩, ⟨c6, c7⟩⟩, ⟨⟨c8, c9⟩, ⟨c10, ⟨c11, c12⟩⟩⟩⟩⟩ := T0.o _ P0
 clear P0
 go_enter Tryz.func109, Tryz.ntmps109
 go_wp2_with fail
 refine (B1.o _).mono ?_
 rintro ee w1 ⟨rfl, hb1⟩
 have S1 := jQ (S0.o.next hb1)
 clear hb1 f0 f1 f2 f3 c0 c1 c2 c3 c4 c5 c6 c7 c8 c9 c10 c11 c12 S0
 obtain ⟨⟨⟨⟨f0, f1⟩, ⟨f2, f3⟩⟩, ⟨⟨c0, c1⟩, ⟨c2, c3⟩⟩⟩, ⟨⟨⟨c4, c5⟩, ⟨c6, c7⟩⟩, ⟨⟨c8, c9⟩, ⟨c10, ⟨c11, c12⟩⟩⟩⟩⟩ := T0.o _ S1.o
 go_wp2_with fail
 refine (BA.o _ _ _).mono ?_
 rintro ee w2 ⟨rfl, hb2⟩
 have S2 := jQ (S1.o.next hb2)
 clear hb2 f0 f1 f2 f3 c0 c1 c2 c3 c4 c5 c6 c7 c8 c9 c10 c11 c12 S1
 go_wp2_with fail
 go_ret
 exact ⟨_, _, rfl, rd_gap w2 _ _ _ _ _, S2.o.fs.b.alloc S2.o.fs.b.size _, fun a h => by cases h; exact ⟨_, Bk.new w2 _ _⟩⟩
end

section
open Go.RowKit
theorem gaps_course (v : Fv) (f : Dd.Fd) (l o a b s e cb cn cl cy cw cs : Int) (w : World) (hF : FRd w w.heap.size v f) (hS : Sn w) (hg : Rg f ⟨3, l, o, a, b, s, e, ⟨cb, cn, cl, cy, cw, cs⟩⟩) :
  Calls Tryz.prog 109 #[fval v f, caval ⟨3, l, o, a, b, s, e, ⟨cb, cn, cl, cy, cw, cs⟩⟩] w fun ee w' => ∃ A c, ee = .returned (.slice A (Dd.gapsF f ⟨3, l, o, a, b, s, e, ⟨cb, cn, cl, cy, cw, cs⟩⟩).length c) ∧ Rd w' w'.heap.size 4 A (Dd.gapsF f ⟨3, l, o, a, b, s, e, ⟨cb, cn, cl, cy, cw, cs⟩⟩).length (gcells (Dd.gapsF f ⟨3, l, o, a, b, s, e, ⟨cb, cn, cl, cy, cw, cs⟩⟩)) ∧ Below w.heap.size w w' ∧ ∀ a, A = some a → ∃ cs, w'.heap[a.block]? = some (.cells cs 143 (0, 0)) := by
 have hd : Dd.gapsF f ⟨3, l, o, a, b, s, e, ⟨cb, cn, cl, cy, cw, cs⟩⟩ = [(Dd.pt f l a, Dd.pt f l b, (Cs.comF f.va [⟨cb, cn, cl, cy, cw, cs⟩] (Dd.run f ⟨3, l, o, a, b, s, e, ⟨cb, cn, cl, cy, cw, cs⟩⟩)).1.1, (Cs.comF f.va [⟨cb, cn, cl, cy, cw, cs⟩] (Dd.run f ⟨3, l, o, a, b, s, e, ⟨cb, cn, cl, cy, cw, cs⟩⟩)).1.2.1)] := rfl
 rw [hd]
 obtain ⟨z0, z1, z2, z3, z4, z5, z6, z7⟩ := hg
 dsimp only at z2 z3 z4 z5 z6 z7
 have hx := Dd.range_x z0
 have BP := jQ (fun (l s : Int) (h0 : 0 ≤ l) (h1 : l ≤ 1000000) (h2 : 0 ≤ s) (h3 : s ≤ 1000000) W => pointOf_any v f l s z1 h0 h1 h2 h3 W)
 have BA := jQ (fun p q W => about_any p q ⟨3, l, o, a, b, s, e, ⟨cb, cn, cl, cy, cw, cs⟩⟩ W z6 z7)
 have BI := jQ (fun W (h : Ck w v f ⟨3, l, o, a, b, s, e, ⟨cb, cn, cl, cy, cw, cs⟩⟩ W) => dint_any v f ⟨3, l, o, a, b, s, e, ⟨cb, cn, cl, cy, cw, cs⟩⟩ W h.fs.rd h.sn hx z4 z5)
 have S0 := jQ (Ck.new (x := ⟨3, l, o, a, b, s, e, ⟨cb, cn, cl, cy, cw, cs⟩⟩) hF hS)
 have T0 := jQ (fun V (h : Ck w v f ⟨3, l, o, a, b, s, e, ⟨cb, cn, cl, cy, cw, cs⟩⟩ V) => Ck.tree h)
 have za : a ≤ 1000000 := by omega
 have zb : b ≤ 1000000 := by omega
 have B1 := jQ (fun W => (BP.o l a z2.1 z2.2 z4.1 za W))
 have B2 := jQ (fun W => (BP.o l b z2.1 z2.2 z5.1 zb W))
 obtain ⟨p, hp⟩ : ∃ p, Dd.pt f l a = p := ⟨_, rfl⟩
 obtain ⟨q, hq⟩ : ∃ q, Dd.pt f l b = q := ⟨_, rfl⟩
 rw [hp] at B1
 rw [hq] at B2
 obtain ⟨⟨⟨lo, hi, ok⟩, er⟩, hr⟩ : ∃ r, Cs.comF f.va [⟨cb, cn, cl, cy, cw, cs⟩] (Dd.run f ⟨3, l, o, a, b, s, e, ⟨cb, cn, cl, cy, cw, cs⟩⟩) = r := ⟨_, rfl⟩
 dsimp only at BI
 rw [hr] at BI
 rw [hp, hq, hr]
 simp only [fval_def, caval_def] at B1 B2 BI S0 T0 ⊢
 clear BP BA hp hq hr hF hS hx z0 z6 z7 hd
 have P0 := S0.o
 obtain ⟨⟨⟨⟨f0, f1⟩, ⟨f2, f3⟩⟩, ⟨⟨c0, c1⟩, ⟨c2, c3⟩⟩⟩, ⟨⟨⟨c4, c5⟩, ⟨c6, c7⟩⟩, ⟨⟨c8, c9⟩, ⟨c10, ⟨c11, c12⟩⟩⟩⟩⟩ := T0.o _ P0
 clear P0
 go_enter Tryz.func109, Tryz.ntmps109
 go_wp2_with fail
 refine (B1.o _).mono ?_
 rintro ee w1 ⟨rfl, hb1⟩
 have S1 := jQ (S0.o.next hb1)
 clear hb1 f0 f1 f2 f3 c0 c1 c2 c3 c4 c5 c6 c7 c8 c9 c10 c11 c12 S0
 obtain ⟨⟨⟨⟨f0, f1⟩, ⟨f2, f3⟩⟩, ⟨⟨c0, c1⟩, ⟨c2, c3⟩⟩⟩, ⟨⟨⟨c4, c5⟩, ⟨c6, c7⟩⟩, ⟨⟨c8, c9⟩, ⟨c10, ⟨c11, c12⟩⟩⟩⟩⟩ := T0.o _ S1.o
 go_wp2_with fail
 refine (BI.o _ S1.o).mono ?_
 rintro ee w2 ⟨rfl, hb2⟩
 have S2 := jQ (S1.o.next hb2)
 clear hb2 f0 f1 f2 f3 c0 c1 c2 c3 c4 c5 c6 c7 c8 c9 c10 c11 c12 S1
 obtain ⟨⟨⟨⟨f0, f1⟩, ⟨f2, f3⟩⟩, ⟨⟨c0, c1⟩, ⟨c2, c3⟩⟩⟩, ⟨⟨⟨c4, c5⟩, ⟨c6, c7⟩⟩, ⟨⟨c8, c9⟩, ⟨c10, ⟨c11, c12⟩⟩⟩⟩⟩ := T0.o _ S2.o
 go_wp2_with fail
 refine (B2.o _).mono ?_
 rintro ee w3 ⟨rfl, hb3⟩
 have S3 := jQ (S2.o.next hb3)
 clear hb3 f0 f1 f2 f3 c0 c1 c2 c3 c4 c5 c6 c7 c8 c9 c10 c11 c12 S2
 go_wp2_with fail
 go_ret
 exact ⟨_, _, rfl, rd_gap w3 _ _ _ _ _, S3.o.fs.b.alloc S3.o.fs.b.size _, fun a h => by cases h; exact ⟨_, Bk.new w3 _ _⟩⟩
end

section
open Go.RowKit
theorem Dd.gapAlong_snoc (f : Dd.Fd) (c : Dd.Ca) : ∀ (n : Nat) (s : Int), Dd.gapAlong f c (n + 1) s = Dd.gapAlong f c n s ++ [(Dd.pt f c.l (s + n), Dd.pt f c.o (s + n), 0, 0)]
  | 0, s => by simp [Dd.gapAlong]
  | n + 1, s => by
    rw [Dd.gapAlong, Dd.gapAlong_snoc f c n (s + 1), Dd.gapAlong, List.cons_append, show s + 1 + (n : Int) = s + ((n + 1 : Nat) : Int) by omega]
theorem Dd.gapAlong_len (f : Dd.Fd) (c : Dd.Ca) : ∀ (n : Nat) (s : Int), (Dd.gapAlong f c n s).length = n
 | 0, _ => rfl
 | n + 1, s => by rw [Dd.gapAlong, List.length_cons, Dd.gapAlong_len f c n]
theorem Ck.next2 {w W W' : World} {v : Fv} {f : Dd.Fd} {x : Dd.Ca} (h : Ck w v f x W) (hS : Sn w) (hb : Below (w.heap.size + 1 + 1) W W') : Ck w v f x W' :=
 ⟨⟨h.fs.b.trans (hb.mono (by omega)), h.fs.k.below hb (by omega), h.fs.r.below hb (by omega)⟩, h.kC.below hb (by omega), hS.step (h.fs.b.trans (hb.mono (by omega)))⟩
theorem own_ty {w : World} {base e size n m c : Nat} {A : Option Addr} {xs : List Value} (h : w.ownsRow base e size (.slice A n c) m xs) : ∀ a, A = some a → ∃ cs, w.heap[a.block]? = some (.cells cs e (0, 0)) := fun a ha => by
 rcases h.2 with ⟨h1, _⟩ | ⟨g, cap, cur, h1, _, hg, _⟩
 ·cases h1; cases ha
 ·cases h1; cases ha; exact ⟨cur, hg⟩
theorem gcell_one (g : Gp) : ∀ u ∈ gcells [g], u.oneCell' = true := by
 intro u hu
 rw [gcells_one] at hu
 simp only [gcell, List.mem_cons, List.not_mem_nil, or_false] at hu
 obtain rfl | rfl | rfl | rfl := hu <;> rfl
set_option maxHeartbeats 16000000 in
theorem gaps_along (v : Fv) (f : Dd.Fd) (k l o a b s e cb cn cl cy cw cs : Int) (w : World) (hF : FRd w w.heap.size v f) (hS : Sn w) (hg : Rg f ⟨k, l, o, a, b, s, e, ⟨cb, cn, cl, cy, cw, cs⟩⟩) (n1 : ¬ k = 1) (n2 : ¬ k = 2) (n3 : ¬ k = 3) (n5 : ¬ k = 5) :
  Calls Tryz.prog 109 #[fval v f, caval ⟨k, l, o, a, b, s, e, ⟨cb, cn, cl, cy, cw, cs⟩⟩] w fun ee w' => ∃ A c, ee = .returned (.slice A (Dd.gapsF f ⟨k, l, o, a, b, s, e, ⟨cb, cn, cl, cy, cw, cs⟩⟩).length c) ∧ Rd w' w'.heap.size 4 A (Dd.gapsF f ⟨k, l, o, a, b, s, e, ⟨cb, cn, cl, cy, cw, cs⟩⟩).length (gcells (Dd.gapsF f ⟨k, l, o, a, b, s, e, ⟨cb, cn, cl, cy, cw, cs⟩⟩)) ∧ Below w.heap.size w w' ∧ ∀ a, A = some a → ∃ cs, w'.heap[a.block]? = some (.cells cs 143 (0, 0)) := by
 have hd : Dd.gapsF f ⟨k, l, o, a, b, s, e, ⟨cb, cn, cl, cy, cw, cs⟩⟩ = Dd.gapAlong f ⟨k, l, o, a, b, s, e, ⟨cb, cn, cl, cy, cw, cs⟩⟩ (b - a + 1).toNat a := by
  unfold Dd.gapsF
  rw [if_neg n1, if_neg n2, if_neg n3, if_neg n5]
 rw [hd]
 obtain ⟨z0, z1, z2, z3, z4, z5, z6, z7⟩ := hg
 dsimp only at z2 z3 z4 z5 z6 z7
 have g1 : (k == 1) = false := by simpa using n1
 have g2 : (k == 2) = false := by simpa using n2
 have g3 : (k == 3) = false := by simpa using n3
 have g5 : (k == 5) = false := by simpa using n5
 obtain ⟨i0, hi0, hz0, hz1, hz2⟩ := info_parts infoGp
 have B0 := jQ (fun W => pointOf_any v f l a z1 z2.1 z2.2 z4.1 (by omega) W)
 have B1 := jQ (fun (l s : Int) (h0 : 0 ≤ l) (h1 : l ≤ 1000000) (h2 : 0 ≤ s) (h3 : s ≤ 1000000) W => pointOf_any v f l s z1 h0 h1 h2 h3 W)
 have S0 := jQ (Ck.new (x := ⟨k, l, o, a, b, s, e, ⟨cb, cn, cl, cy, cw, cs⟩⟩) hF hS)
 have T0 := jQ (fun V (h : Ck w v f ⟨k, l, o, a, b, s, e, ⟨cb, cn, cl, cy, cw, cs⟩⟩ V) => Ck.tree h)
 have N2 := jQ (fun W W' (h : Ck w v f ⟨k, l, o, a, b, s, e, ⟨cb, cn, cl, cy, cw, cs⟩⟩ W) (hb : Below (w.heap.size + 1 + 1) W W') => h.next2 hS hb)
 obtain ⟨G, hG⟩ : ∃ G : Nat → List Gp, ∀ n, Dd.gapAlong f ⟨k, l, o, a, b, s, e, ⟨cb, cn, cl, cy, cw, cs⟩⟩ n a = G n := ⟨fun n => Dd.gapAlong f ⟨k, l, o, a, b, s, e, ⟨cb, cn, cl, cy, cw, cs⟩⟩ n a, fun _ => rfl⟩
 have G0 : G 0 = [] := by rw [← hG]; rfl
 have GS := jQ (fun n => show G (n + 1) = G n ++ [(Dd.pt f l (a + n), Dd.pt f o (a + n), 0, 0)] by rw [← hG, ← hG, Dd.gapAlong_snoc])
 have GL := jQ (fun n => show (G n).length = n by rw [← hG, Dd.gapAlong_len])
 obtain ⟨M, hM⟩ : ∃ M : Nat, (b - a + 1).toNat = M := ⟨_, rfl⟩
 rw [hG, hM]
 have zb : b < 1000000 := by omega
 simp only [fval_def, caval_def] at B0 B1 S0 T0 ⊢
 clear hF hS z0 z6 z7 hd hG n1 n2 n3 n5
 obtain ⟨⟨⟨⟨f0, f1⟩, ⟨f2, f3⟩⟩, ⟨⟨c0, c1⟩, ⟨c2, c3⟩⟩⟩, ⟨⟨⟨c4, c5⟩, ⟨c6, c7⟩⟩, ⟨⟨c8, c9⟩, ⟨c10, ⟨c11, c12⟩⟩⟩⟩⟩ := T0.o _ S0.o
 go_enter Tryz.func109, Tryz.ntmps109
 go_wp2_with fail
 refine (B0.o _).mono ?_
 rintro ee w1 ⟨rfl, hb1⟩
 have S1 := jQ (S0.o.next hb1)
 clear hb1 f0 f1 f2 f3 c0 c1 c2 c3 c4 c5 c6 c7 c8 c9 c10 c11 c12 S0 B0
 obtain ⟨⟨⟨⟨f0, f1⟩, ⟨f2, f3⟩⟩, ⟨⟨c0, c1⟩, ⟨c2, c3⟩⟩⟩, ⟨⟨⟨c4, c5⟩, ⟨c6, c7⟩⟩, ⟨⟨c8, c9⟩, ⟨c10, ⟨c11, c12⟩⟩⟩⟩⟩ := T0.o _ S1.o
 go_wp2_with fail
 clear f0 f1 f2 f3 c0 c1 c2 c3 c4 c5 c6 c7 c8 c9 c10 c11 c12
 go_loopw [10, 11] (fun V I wr => ∃ j : Nat, j ≤ M ∧ I = .int .i64 (a + j) ∧ wr.ownsRow (w.heap.size + 1 + 1) 143 4 V j (gcells (G j)) ∧ Ck w v f ⟨k, l, o, a, b, s, e, ⟨cb, cn, cl, cy, cw, cs⟩⟩ wr) (fun _ I _ => M - (intOf I - a).toNat)
 case atStart => exact ⟨0, Nat.zero_le _, (by simp), (by rw [G0]; exact World.ownsRow_nil _ _ _ _), S1.o⟩
 case round =>
  clear S1
  obtain ⟨j, hj, rfl, hown, hS⟩ := hrel
  have HO := jQ hown
  have HS := jQ hS
  have HKL := jQ hS.kC.lt
  clear hown hS
  obtain ⟨⟨⟨⟨f0, f1⟩, ⟨f2, f3⟩⟩, ⟨⟨c0, c1⟩, ⟨c2, c3⟩⟩⟩, ⟨⟨⟨c4, c5⟩, ⟨c6, c7⟩⟩, ⟨⟨c8, c9⟩, ⟨c10, ⟨c11, c12⟩⟩⟩⟩⟩ := T0.o _ HS.o
  by_cases hlt : j < M
  ·have hle : decide (a + (j : Int) ≤ b) = true := decide_eq_true (by omega)
   have hwl : IntKind.i64.wrap (a + (j : Int) + 1) = a + (j : Int) + 1 := IntWalk.i64_in _ (by omega)
   go_wp2_with fail
   obtain ⟨X, hX⟩ : ∃ X, gcells (G j) = X := ⟨_, rfl⟩
   have hO := HO.o
   rw [hX] at hO
   have HO1 := jQ hO
   have HX := jQ hX
   have hjm : j ≤ 1000000 := by omega
   have hbD : Below wr.heap.size wr wr.drew := (Below.refl _ _).drew
   have hp0 : 0 ≤ a + (j : Int) := by omega
   have hp1 : a + (j : Int) ≤ 1000000 := by omega
   clear hO hX HO
   go_region_held3 (fun V => ((((V.cell? ⟨w.heap.size, 0, none⟩ = some (.slice v.a1 f.st.length v.c1) ∧ V.cell? ⟨w.heap.size, 1, none⟩ = some (.slice v.a2 f.li.length v.c2)) ∧ (V.cell? ⟨w.heap.size, 2, none⟩ = some (.slice v.a3 f.pa.length v.c3) ∧ V.cell? ⟨w.heap.size, 3, none⟩ = some (.slice v.a4 f.va.length v.c4))) ∧ ((V.cell? ⟨w.heap.size + 1, 0, none⟩ = some (.int .u8 k) ∧ V.cell? ⟨w.heap.size + 1, 1, none⟩ = some (.int .i64 l)) ∧ (V.cell? ⟨w.heap.size + 1, 2, none⟩ = some (.int .i64 o) ∧ V.cell? ⟨w.heap.size + 1, 3, none⟩ = some (.int .i64 a)))) ∧ (((V.cell? ⟨w.heap.size + 1, 4, none⟩ = some (.int .i64 b) ∧ V.cell? ⟨w.heap.size + 1, 5, none⟩ = some (.int .i64 s)) ∧ (V.cell? ⟨w.heap.size + 1, 6, none⟩ = some (.int .i64 e) ∧ V.cell? ⟨w.heap.size + 1, 7, none⟩ = some (.int .i64 cb))) ∧ ((V.cell? ⟨w.heap.size + 1, 8, none⟩ = some (.int .i64 cn) ∧ V.cell? ⟨w.heap.size + 1, 9, none⟩ = some (.int .i64 cl)) ∧ (V.cell? ⟨w.heap.size + 1, 10, none⟩ = some (.int .i64 cy) ∧ (V.cell? ⟨w.heap.size + 1, 11, none⟩ = some (.int .i64 cw) ∧ V.cell? ⟨w.heap.size + 1, 12, none⟩ = some (.int .i64 cs)))))))
    (first
     | ((try dsimp only); first | (with_reducible exact T0.o _ sH) | (with_reducible exact T0.o _ sG) | (with_reducible exact T0.o _ sF) | (with_reducible exact T0.o _ sE))
     | go_keep)
    (first
     | (go_at_call 45; refine (B1.o _ _ (by omega) (by omega) (by omega) (by omega) _).mono ?_; first | (rintro ee w3 ⟨rfl, hb3⟩; have hbF : Below wr.heap.size wr w3 := hbE.trans (hb3.mono hbE.size); have sF : Ck w v f ⟨k, l, o, a, b, s, e, ⟨cb, cn, cl, cy, cw, cs⟩⟩ w3 := sE.next hb3; have hown3 := jQ ((own_belowG HO1.o hbF).alloc (.cells #[.int .i64 (Dd.pt f l (a + (j : Int))), .int .i64 (Dd.pt f o (a + (j : Int))), .int .i64 0, .int .i64 0] 143)); have hrd3 := jQ (rd_gap w3 143 (Dd.pt f l (a + (j : Int))) (Dd.pt f o (a + (j : Int))) 0 0); have sG : Ck w v f ⟨k, l, o, a, b, s, e, ⟨cb, cn, cl, cy, cw, cs⟩⟩ (w3.alloc (.cells #[.int .i64 (Dd.pt f l (a + (j : Int))), .int .i64 (Dd.pt f o (a + (j : Int))), .int .i64 0, .int .i64 0] 143)) := sF.next ((Below.refl _ _).alloc (Nat.le_refl _) _)) | (rintro ee w2 ⟨rfl, hb2⟩; have hbE : Below wr.heap.size wr w2 := hbD.trans (hb2.mono hbD.size); have sE : Ck w v f ⟨k, l, o, a, b, s, e, ⟨cb, cn, cl, cy, cw, cs⟩⟩ w2 := HS.o.next hbE))
     | (refine step_append_rd rfl (.tmp 79) (.tmp 91) 140 rfl (w.heap.size + 1 + 1) 143 i0 _ 4 32 Tryz.underlying140 hi0 hz0 hz1 hz2 rfl (by omega) u10 j X (by rfl) hown3.o (some ⟨w3.heap.size, 0, none⟩) 1 1 _ _ (by rfl) hrd3.o (gcell_one _) (by unfold maxLen; omega) (by omega) (Nat.le_trans HKL.o (Nat.le_trans hbF.size (by simp))) ?_; intro v4 W4 hown4 hg4 hat4; have hb4 : Below (w.heap.size + 1 + 1) wr W4 := below_own ((hbF.mono HKL.o).alloc (Nat.le_trans HKL.o hbF.size) _) (Nat.le_refl _) hg4 (fun r e => (hown3.o.lt r e).1) (Nat.le_trans HKL.o (Nat.le_trans hbF.size (by simp))); have sH := N2.o _ _ HS.o hb4))
   all_goals
    have HS4 := jQ sH
    have HO4 := jQ hown4
    clear f0 f1 f2 f3 c0 c1 c2 c3 c4 c5 c6 c7 c8 c9 c10 c11 c12 sE sF sG sH hb4 hown4 hg4 hat4 hb2 hb3 hbE hbF hrd3 hown3
    go_wp2_with fail
    refine ⟨⟨j + 1, by omega, ?_, ?_, HS4.o⟩, ?_⟩
    ·rw [show a + ((j + 1 : Nat) : Int) = a + (j : Int) + 1 by omega]
    ·rw [GS.o, gcells_append, HX.o]
     exact HO4.o
    ·show M - (a + (j : Int) + 1 - a).toNat < M - (a + (j : Int) - a).toNat
     omega
  ·have hle : decide (a + (j : Int) ≤ b) = false := decide_eq_false (by omega)
   have hje : j = M := by omega
   subst hje
   have hO := HO.o
   obtain ⟨A', c', rfl, hrd, hfar⟩ := ownB_rd hO (by rw [gcells_length, GL.o])
   have HR := jQ hrd
   have HFR := jQ (own_ty hO)
   clear hO hrd hfar HO f0 f1 f2 f3 c0 c1 c2 c3 c5 c6 c7 c8 c9 c10 c11 c12
   go_wp2_with fail
   go_ret
   exact ⟨A', c', by rw [GL.o]; rfl, by rw [GL.o]; exact HR.o, HS.o.fs.b, HFR.o⟩
end
end Go.Proofs.YtccikcpcfdjobaaGreatDoor
