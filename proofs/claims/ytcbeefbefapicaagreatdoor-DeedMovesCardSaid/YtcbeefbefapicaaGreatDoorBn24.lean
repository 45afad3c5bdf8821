/-
  What the claims of layer deed need of the texts DAbo, DGp0, DGp2, DGp5.
-/
import Derived.Test.YtcbeefbefapicaaGreatDoorBn22
import Derived.Test.YtcbeefbefapicaaGreatDoorBn21
set_option linter.unusedVariables false
set_option linter.unusedSimpArgs false
namespace Go.Proofs.YtcbeefbefapicaaGreatDoor
open Go.RowKit
set_option maxRecDepth 100000
theorem results_cell_row1 {P : Program} {fn : Func} {p : Tmp} {ty : TypeId} (h : fn.results = #[.cell p ty]) (tmps : Array Value) (w : World) (g : Nat) (t : TypeId) (cs : Array Value) (fr : Nat × Nat) (d : TypeDesc)
  (hp : tmps.getD p undef = .pointer (some ⟨g, 0, none⟩)) (hg : w.heap[g]? = some (.cells cs t fr))
  (hu : P.underlying ty = some d) (hd : (match d with | .struct _ | .array _ _ => true | _ => false) = true) (hi : (P.info? ty).map (·.size) = some cs.size) :
  (results fn tmps).run P w = .ok (.agg cs) w := by
 have hp' : tmps[p]?.getD undef = .pointer (some ⟨g, 0, none⟩) := by simpa using hp
 simp [results, h, hp', asAddr, run_loadVar_row w g t ty cs fr d hg hu hd hi]
set_option maxHeartbeats 4000000 in
theorem about_any (p q : Int) (x : Dd.Ca) (w : World) (hs : -100000 ≤ x.s ∧ x.s ≤ 100000) (he : 0 ≤ x.e ∧ x.e ≤ 100000) :
  Calls Tryz.prog 116 #[.int .i64 p, .int .i64 q, caval x] w fun e w' => e = .returned (.agg #[.int .i64 p, .int .i64 q, .int .i64 (x.s - x.e), .int .i64 (x.s + x.e)]) ∧ Below w.heap.size w w' := by
 have HB := Lib.hid (fun (a b : Obj) => ((Below.refl w.heap.size w).alloc (Nat.le_refl _) a).alloc (by simp) b)
 have HK := Lib.hid (fun (a : Obj) (cs : Array Value) => (show Bk ((w.alloc a).alloc (.cells cs 129)) (w.heap.size + 1) 129 cs from by
  have := Bk.new (w.alloc a) 129 cs
  rwa [World.size_alloc] at this))
 have h1 : IntKind.i64.wrap (x.s - x.e) = x.s - x.e := IntWalk.i64_in _ (by omega)
 have h2 : IntKind.i64.wrap (x.s + x.e) = x.s + x.e := IntWalk.i64_in _ (by omega)
 simp only [caval_def]
 go_enter Tryz.func116, Tryz.ntmps116
 go_wp2_with fail
 exact bodyPost_ret (results_cell_row1 rfl _ _ (w.heap.size + 1) 129 _ (0, 0) _ rfl (HK.out _ _) Tryz.underlying129 rfl (by kernel_rfl)) rfl ⟨rfl, HB.out _ _⟩
end Go.Proofs.YtcbeefbefapicaaGreatDoor

namespace Go.Proofs.YtcbeefbefapicaaGreatDoor
open Go.RowKit
set_option maxRecDepth 100000
abbrev Gp := Int × Int × Int × Int
def gcell (g : Gp) : List Value := [.int .i64 g.1, .int .i64 g.2.1, .int .i64 g.2.2.1, .int .i64 g.2.2.2]
def gcells (l : List Gp) : List Value := l.flatMap gcell
theorem gcell_len (g : Gp) : (gcell g).length = 4 := rfl
theorem gcells_length (l : List Gp) : (gcells l).length = l.length * 4 := flatl_len gcell_len l
theorem gcells_append (a b : List Gp) : gcells (a ++ b) = gcells a ++ gcells b := List.flatMap_append
theorem gcells_one (g : Gp) : gcells [g] = gcell g := by simp [gcells]
theorem rd_gap (w : World) (t : TypeId) (p q a b : Int) : Rd (w.alloc (.cells #[.int .i64 p, .int .i64 q, .int .i64 a, .int .i64 b] t)) (w.alloc (.cells #[.int .i64 p, .int .i64 q, .int .i64 a, .int .i64 b] t)).heap.size 4 (some ⟨w.heap.size, 0, none⟩) 1 (gcells [(p, q, a, b)]) := by
 rw [gcells_one, World.size_alloc]
 refine ⟨rfl, fun _ => ⟨w.heap.size, 0, rfl, by omega, fun j hj => ?_⟩⟩
 have := (Bk.new w t #[.int .i64 p, .int .i64 q, .int .i64 a, .int .i64 b]).cell (0 + j)
 rw [this]
 rcases (by omega : j = 0 ∨ j = 1 ∨ j = 2 ∨ j = 3) with rfl | rfl | rfl | rfl <;> rfl
theorem Rd.gap {w : World} {B : Nat} {A : Option Addr} {l : List Gp} (h : Rd w B 4 A l.length (gcells l)) {k : Nat} (hk : k < l.length) :
  ∃ b off, A = some ⟨b, off, none⟩ ∧ b < B ∧ w.cell? ⟨b, off + k * 4, none⟩ = some (.int .i64 l[k].1) ∧ w.cell? ⟨b, off + k * 4 + 1, none⟩ = some (.int .i64 l[k].2.1) ∧
   w.cell? ⟨b, off + k * 4 + 2, none⟩ = some (.int .i64 l[k].2.2.1) ∧ w.cell? ⟨b, off + k * 4 + 3, none⟩ = some (.int .i64 l[k].2.2.2) := by
 obtain ⟨b, off, e, hb, hc⟩ := Rd.item (cell := gcell) h gcell_len hk
 exact ⟨b, off, e, hb, hc 0 (by decide), hc 1 (by decide), hc 2 (by decide), hc 3 (by decide)⟩
theorem infoGp : (Tryz.prog.info? 129).map (fun i => (i.zero, i.size, i.bytes)) = some (some (.agg #[.int .i64 0, .int .i64 0, .int .i64 0, .int .i64 0]), 4, 32) := by kernel_rfl
theorem Ck.tree {w W : World} {v : Fv} {f : Dd.Fd} {x : Dd.Ca} (h : Ck w v f x W) : ((((W.cell? ⟨w.heap.size, 0, none⟩ = some (.slice v.a1 f.st.length v.c1) ∧ W.cell? ⟨w.heap.size, 1, none⟩ = some (.slice v.a2 f.li.length v.c2)) ∧ (W.cell? ⟨w.heap.size, 2, none⟩ = some (.slice v.a3 f.pa.length v.c3) ∧ W.cell? ⟨w.heap.size, 3, none⟩ = some (.slice v.a4 f.va.length v.c4))) ∧ ((W.cell? ⟨w.heap.size + 1, 0, none⟩ = some (.int .u8 x.k) ∧ W.cell? ⟨w.heap.size + 1, 1, none⟩ = some (.int .i64 x.l)) ∧ (W.cell? ⟨w.heap.size + 1, 2, none⟩ = some (.int .i64 x.o) ∧ W.cell? ⟨w.heap.size + 1, 3, none⟩ = some (.int .i64 x.a)))) ∧ (((W.cell? ⟨w.heap.size + 1, 4, none⟩ = some (.int .i64 x.b) ∧ W.cell? ⟨w.heap.size + 1, 5, none⟩ = some (.int .i64 x.s)) ∧ (W.cell? ⟨w.heap.size + 1, 6, none⟩ = some (.int .i64 x.e) ∧ W.cell? ⟨w.heap.size + 1, 7, none⟩ = some (.int .i64 x.c.b))) ∧ ((W.cell? ⟨w.heap.size + 1, 8, none⟩ = some (.int .i64 x.c.n) ∧ W.cell? ⟨w.heap.size + 1, 9, none⟩ = some (.int .i64 x.c.l)) ∧ (W.cell? ⟨w.heap.size + 1, 10, none⟩ = some (.int .i64 x.c.y) ∧ (W.cell? ⟨w.heap.size + 1, 11, none⟩ = some (.int .i64 x.c.w) ∧ W.cell? ⟨w.heap.size + 1, 12, none⟩ = some (.int .i64 x.c.s)))))) := by
 obtain ⟨f0, f1, f2, f3, _⟩ := h.fs.cells
 obtain ⟨c0, c1, c2, c3, c4, c5, c6, c7, c8, c9, c10, c11, c12, _⟩ := h.cells
 exact ⟨⟨⟨⟨f0, f1⟩, ⟨f2, f3⟩⟩, ⟨⟨c0, c1⟩, ⟨c2, c3⟩⟩⟩, ⟨⟨⟨c4, c5⟩, ⟨c6, c7⟩⟩, ⟨⟨c8, c9⟩, ⟨c10, ⟨c11, c12⟩⟩⟩⟩⟩
structure Rg (f : Dd.Fd) (x : Dd.Ca) : Prop where
 f0 : Dd.fieldE f = 0
 st : f.st.length ≤ 1000000
 l : 0 ≤ x.l ∧ x.l ≤ 1000000
 o : 0 ≤ x.o ∧ x.o ≤ 1000000
 a : 0 ≤ x.a ∧ x.a < f.st.length
 b : 0 ≤ x.b ∧ x.b < f.st.length
 s : -100000 ≤ x.s ∧ x.s ≤ 100000
 e : 0 ≤ x.e ∧ x.e ≤ 100000
theorem Rg.of {f : Dd.Fd} {x : Dd.Ca} (hl1 : f.st.length ≤ 1000000) (hl2 : f.li.length ≤ 1000000) (h : Dd.callE f x = 0) : Rg f x := by
 have h0 : Dd.fieldE f = 0 := by
  unfold Dd.callE at h
  by_cases h0 : Dd.fieldE f = 0
  ·exact h0
  ·rw [if_pos h0] at h; exact absurd h h0
 have hg : Dd.callG f x = 0 := by
  unfold Dd.callE at h
  rwa [if_neg (by simp [h0])] at h
 have ht := (Dd.callG_zero hg).1
 simp only [Dd.there, Dd.isIx, Bool.and_eq_true, decide_eq_true_eq] at ht
 obtain ⟨⟨⟨⟨⟨t1, t2⟩, t3⟩, t4⟩, t5⟩, t6⟩ := ht
 exact ⟨h0, hl1, ⟨t1.1, by omega⟩, ⟨t2.1, by omega⟩, t3, t4, t5, t6⟩
end Go.Proofs.YtcbeefbefapicaaGreatDoor

namespace Go.Proofs.YtcbeefbefapicaaGreatDoor
open Go.RowKit
set_option maxRecDepth 100000
set_option maxHeartbeats 8000000 in
theorem gaps_width (v : Fv) (f : Dd.Fd) (l o a b s e cb cn cl cy cw cs : Int) (w : World) (hF : FRd w w.heap.size v f) (hS : Sn w) (hg : Rg f ⟨2, l, o, a, b, s, e, ⟨cb, cn, cl, cy, cw, cs⟩⟩) :
  Calls Tryz.prog 72 #[fval v f, caval ⟨2, l, o, a, b, s, e, ⟨cb, cn, cl, cy, cw, cs⟩⟩] w fun ee w' => ∃ A c, ee = .returned (.slice A (Dd.gapsF f ⟨2, l, o, a, b, s, e, ⟨cb, cn, cl, cy, cw, cs⟩⟩).length c) ∧ Rd w' w'.heap.size 4 A (Dd.gapsF f ⟨2, l, o, a, b, s, e, ⟨cb, cn, cl, cy, cw, cs⟩⟩).length (gcells (Dd.gapsF f ⟨2, l, o, a, b, s, e, ⟨cb, cn, cl, cy, cw, cs⟩⟩)) ∧ Below w.heap.size w w' ∧ ∀ a, A = some a → ∃ cs, w'.heap[a.block]? = some (.cells cs 129 (0, 0)) := by
 have hd : Dd.gapsF f ⟨2, l, o, a, b, s, e, ⟨cb, cn, cl, cy, cw, cs⟩⟩ = [(Dd.pt f l a, Dd.pt f o a, s - e, s + e)] := rfl
 rw [hd]
 obtain ⟨z0, z1, z2, z3, z4, z5, z6, z7⟩ := hg
 dsimp only at z2 z3 z4 z5 z6 z7
 have hx := Dd.range_x z0
 have BP := Lib.hid (fun (l s : Int) (h0 : 0 ≤ l) (h1 : l ≤ 1000000) (h2 : 0 ≤ s) (h3 : s ≤ 1000000) W => pointOf_any v f l s z1 h0 h1 h2 h3 W)
 have BA := Lib.hid (fun p q W => about_any p q ⟨2, l, o, a, b, s, e, ⟨cb, cn, cl, cy, cw, cs⟩⟩ W z6 z7)
 have BI := Lib.hid (fun W (h : Ck w v f ⟨2, l, o, a, b, s, e, ⟨cb, cn, cl, cy, cw, cs⟩⟩ W) => dint_any v f ⟨2, l, o, a, b, s, e, ⟨cb, cn, cl, cy, cw, cs⟩⟩ W h.fs.rd h.sn hx z4 z5)
 have S0 := Lib.hid (Ck.new (x := ⟨2, l, o, a, b, s, e, ⟨cb, cn, cl, cy, cw, cs⟩⟩) hF hS)
 have T0 := Lib.hid (fun V (h : Ck w v f ⟨2, l, o, a, b, s, e, ⟨cb, cn, cl, cy, cw, cs⟩⟩ V) => Ck.tree h)
 have za : a ≤ 1000000 := by omega
 have zb : b ≤ 1000000 := by omega
 have B1 := Lib.hid (fun W => (BP.out l a z2.1 z2.2 z4.1 za W))
 have B2 := Lib.hid (fun W => (BP.out o a z3.1 z3.2 z4.1 za W))
 obtain ⟨p, hp⟩ : ∃ p, Dd.pt f l a = p := ⟨_, rfl⟩
 obtain ⟨q, hq⟩ : ∃ q, Dd.pt f o a = q := ⟨_, rfl⟩
 rw [hp] at B1
 rw [hq] at B2
 rw [hp, hq]
 simp only [fval_def, caval_def] at B1 B2 BA S0 T0 ⊢
 clear BP BI hp hq hF hS hx z0 z6 z7 hd
 have P0 := S0.out
 obtain ⟨⟨⟨⟨f0, f1⟩, ⟨f2, f3⟩⟩, ⟨⟨c0, c1⟩, ⟨c2, c3⟩⟩⟩, ⟨⟨⟨c4, c5⟩, ⟨c6, c7⟩⟩, ⟨⟨c8, c9⟩, ⟨c10, ⟨c11, c12⟩⟩⟩⟩⟩ := T0.out _ P0
 clear P0
 go_enter Tryz.func72, Tryz.ntmps72
 go_wp2_with fail
 refine (B1.out _).mono ?_
 rintro ee w1 ⟨rfl, hb1⟩
 have S1 := Lib.hid (S0.out.next hb1)
 clear hb1 f0 f1 f2 f3 c0 c1 c2 c3 c4 c5 c6 c7 c8 c9 c10 c11 c12 S0
 obtain ⟨⟨⟨⟨f0, f1⟩, ⟨f2, f3⟩⟩, ⟨⟨c0, c1⟩, ⟨c2, c3⟩⟩⟩, ⟨⟨⟨c4, c5⟩, ⟨c6, c7⟩⟩, ⟨⟨c8, c9⟩, ⟨c10, ⟨c11, c12⟩⟩⟩⟩⟩ := T0.out _ S1.out
 go_wp2_with fail
 have sZ : Ck w v f ⟨2, l, o, a, b, s, e, ⟨cb, cn, cl, cy, cw, cs⟩⟩ w1.drew := S1.out.next (Below.refl _ _).drew
 go_region_held3 (fun V => ((((V.cell? ⟨w.heap.size, 0, none⟩ = some (.slice v.a1 f.st.length v.c1) ∧ V.cell? ⟨w.heap.size, 1, none⟩ = some (.slice v.a2 f.li.length v.c2)) ∧ (V.cell? ⟨w.heap.size, 2, none⟩ = some (.slice v.a3 f.pa.length v.c3) ∧ V.cell? ⟨w.heap.size, 3, none⟩ = some (.slice v.a4 f.va.length v.c4))) ∧ ((V.cell? ⟨w.heap.size + 1, 0, none⟩ = some (.int .u8 2) ∧ V.cell? ⟨w.heap.size + 1, 1, none⟩ = some (.int .i64 l)) ∧ (V.cell? ⟨w.heap.size + 1, 2, none⟩ = some (.int .i64 o) ∧ V.cell? ⟨w.heap.size + 1, 3, none⟩ = some (.int .i64 a)))) ∧ (((V.cell? ⟨w.heap.size + 1, 4, none⟩ = some (.int .i64 b) ∧ V.cell? ⟨w.heap.size + 1, 5, none⟩ = some (.int .i64 s)) ∧ (V.cell? ⟨w.heap.size + 1, 6, none⟩ = some (.int .i64 e) ∧ V.cell? ⟨w.heap.size + 1, 7, none⟩ = some (.int .i64 cb))) ∧ ((V.cell? ⟨w.heap.size + 1, 8, none⟩ = some (.int .i64 cn) ∧ V.cell? ⟨w.heap.size + 1, 9, none⟩ = some (.int .i64 cl)) ∧ (V.cell? ⟨w.heap.size + 1, 10, none⟩ = some (.int .i64 cy) ∧ (V.cell? ⟨w.heap.size + 1, 11, none⟩ = some (.int .i64 cw) ∧ V.cell? ⟨w.heap.size + 1, 12, none⟩ = some (.int .i64 cs)))))))
  (first
   | ((try dsimp only); first | (with_reducible exact T0.out _ sC) | (with_reducible exact T0.out _ sB) | (with_reducible exact T0.out _ sA) | (with_reducible exact T0.out _ sZ)))
  (first
   | (go_at_call 30; refine (B2.out _).mono ?_; rintro ee w2 ⟨rfl, hb2⟩; have sA : Ck w v f ⟨2, l, o, a, b, s, e, ⟨cb, cn, cl, cy, cw, cs⟩⟩ w2 := sZ.next hb2)
   | (go_at_call 116; refine (BA.out _ _ _).mono ?_; rintro ee w3 ⟨rfl, hb3⟩; have sB : Ck w v f ⟨2, l, o, a, b, s, e, ⟨cb, cn, cl, cy, cw, cs⟩⟩ w3 := sA.next hb3; have sC : Ck w v f ⟨2, l, o, a, b, s, e, ⟨cb, cn, cl, cy, cw, cs⟩⟩ (w3.alloc (.cells #[.int .i64 p, .int .i64 q, .int .i64 (s - e), .int .i64 (s + e)] 129)) := sB.next ((Below.refl _ _).alloc (Nat.le_refl _) _)))
 all_goals
  go_wp2_with fail
  go_ret
  exact ⟨_, _, rfl, rd_gap w3 _ _ _ _ _, sB.fs.b.alloc sB.fs.b.size _, fun a h => by cases h; exact ⟨_, Bk.new w3 _ _⟩⟩
end Go.Proofs.YtcbeefbefapicaaGreatDoor

namespace Go.Proofs.YtcbeefbefapicaaGreatDoor
open Go.RowKit
set_option maxRecDepth 100000
set_option maxHeartbeats 8000000 in
theorem gaps_level (v : Fv) (f : Dd.Fd) (l o a b s e cb cn cl cy cw cs : Int) (w : World) (hF : FRd w w.heap.size v f) (hS : Sn w) (hg : Rg f ⟨5, l, o, a, b, s, e, ⟨cb, cn, cl, cy, cw, cs⟩⟩) :
  Calls Tryz.prog 72 #[fval v f, caval ⟨5, l, o, a, b, s, e, ⟨cb, cn, cl, cy, cw, cs⟩⟩] w fun ee w' => ∃ A c, ee = .returned (.slice A (Dd.gapsF f ⟨5, l, o, a, b, s, e, ⟨cb, cn, cl, cy, cw, cs⟩⟩).length c) ∧ Rd w' w'.heap.size 4 A (Dd.gapsF f ⟨5, l, o, a, b, s, e, ⟨cb, cn, cl, cy, cw, cs⟩⟩).length (gcells (Dd.gapsF f ⟨5, l, o, a, b, s, e, ⟨cb, cn, cl, cy, cw, cs⟩⟩)) ∧ Below w.heap.size w w' ∧ ∀ a, A = some a → ∃ cs, w'.heap[a.block]? = some (.cells cs 129 (0, 0)) := by
 have hd : Dd.gapsF f ⟨5, l, o, a, b, s, e, ⟨cb, cn, cl, cy, cw, cs⟩⟩ = [(Dd.pt f l a, Dd.pt f l b, s - e, s + e)] := rfl
 rw [hd]
 obtain ⟨z0, z1, z2, z3, z4, z5, z6, z7⟩ := hg
 dsimp only at z2 z3 z4 z5 z6 z7
 have hx := Dd.range_x z0
 have BP := Lib.hid (fun (l s : Int) (h0 : 0 ≤ l) (h1 : l ≤ 1000000) (h2 : 0 ≤ s) (h3 : s ≤ 1000000) W => pointOf_any v f l s z1 h0 h1 h2 h3 W)
 have BA := Lib.hid (fun p q W => about_any p q ⟨5, l, o, a, b, s, e, ⟨cb, cn, cl, cy, cw, cs⟩⟩ W z6 z7)
 have BI := Lib.hid (fun W (h : Ck w v f ⟨5, l, o, a, b, s, e, ⟨cb, cn, cl, cy, cw, cs⟩⟩ W) => dint_any v f ⟨5, l, o, a, b, s, e, ⟨cb, cn, cl, cy, cw, cs⟩⟩ W h.fs.rd h.sn hx z4 z5)
 have S0 := Lib.hid (Ck.new (x := ⟨5, l, o, a, b, s, e, ⟨cb, cn, cl, cy, cw, cs⟩⟩) hF hS)
 have T0 := Lib.hid (fun V (h : Ck w v f ⟨5, l, o, a, b, s, e, ⟨cb, cn, cl, cy, cw, cs⟩⟩ V) => Ck.tree h)
 have za : a ≤ 1000000 := by omega
 have zb : b ≤ 1000000 := by omega
 have B1 := Lib.hid (fun W => (BP.out l a z2.1 z2.2 z4.1 za W))
 have B2 := Lib.hid (fun W => (BP.out l b z2.1 z2.2 z5.1 zb W))
 obtain ⟨p, hp⟩ : ∃ p, Dd.pt f l a = p := ⟨_, rfl⟩
 obtain ⟨q, hq⟩ : ∃ q, Dd.pt f l b = q := ⟨_, rfl⟩
 rw [hp] at B1
 rw [hq] at B2
 rw [hp, hq]
 simp only [fval_def, caval_def] at B1 B2 BA S0 T0 ⊢
 clear BP BI hp hq hF hS hx z0 z6 z7 hd
 have P0 := S0.out
 obtain ⟨⟨⟨⟨f0, f1⟩, ⟨f2, f3⟩⟩, ⟨⟨c0, c1⟩, ⟨c2, c3⟩⟩⟩, ⟨⟨⟨c4, c5⟩, ⟨c6, c7⟩⟩, ⟨⟨c8, c9⟩, ⟨c10, ⟨c11, c12⟩⟩⟩⟩⟩ := T0.out _ P0
 clear P0
 go_enter Tryz.func72, Tryz.ntmps72
 go_wp2_with fail
 refine (B1.out _).mono ?_
 rintro ee w1 ⟨rfl, hb1⟩
 have S1 := Lib.hid (S0.out.next hb1)
 clear hb1 f0 f1 f2 f3 c0 c1 c2 c3 c4 c5 c6 c7 c8 c9 c10 c11 c12 S0
 obtain ⟨⟨⟨⟨f0, f1⟩, ⟨f2, f3⟩⟩, ⟨⟨c0, c1⟩, ⟨c2, c3⟩⟩⟩, ⟨⟨⟨c4, c5⟩, ⟨c6, c7⟩⟩, ⟨⟨c8, c9⟩, ⟨c10, ⟨c11, c12⟩⟩⟩⟩⟩ := T0.out _ S1.out
 go_wp2_with fail
 have sZ : Ck w v f ⟨5, l, o, a, b, s, e, ⟨cb, cn, cl, cy, cw, cs⟩⟩ w1.drew := S1.out.next (Below.refl _ _).drew
 go_region_held3 (fun V => ((((V.cell? ⟨w.heap.size, 0, none⟩ = some (.slice v.a1 f.st.length v.c1) ∧ V.cell? ⟨w.heap.size, 1, none⟩ = some (.slice v.a2 f.li.length v.c2)) ∧ (V.cell? ⟨w.heap.size, 2, none⟩ = some (.slice v.a3 f.pa.length v.c3) ∧ V.cell? ⟨w.heap.size, 3, none⟩ = some (.slice v.a4 f.va.length v.c4))) ∧ ((V.cell? ⟨w.heap.size + 1, 0, none⟩ = some (.int .u8 5) ∧ V.cell? ⟨w.heap.size + 1, 1, none⟩ = some (.int .i64 l)) ∧ (V.cell? ⟨w.heap.size + 1, 2, none⟩ = some (.int .i64 o) ∧ V.cell? ⟨w.heap.size + 1, 3, none⟩ = some (.int .i64 a)))) ∧ (((V.cell? ⟨w.heap.size + 1, 4, none⟩ = some (.int .i64 b) ∧ V.cell? ⟨w.heap.size + 1, 5, none⟩ = some (.int .i64 s)) ∧ (V.cell? ⟨w.heap.size + 1, 6, none⟩ = some (.int .i64 e) ∧ V.cell? ⟨w.heap.size + 1, 7, none⟩ = some (.int .i64 cb))) ∧ ((V.cell? ⟨w.heap.size + 1, 8, none⟩ = some (.int .i64 cn) ∧ V.cell? ⟨w.heap.size + 1, 9, none⟩ = some (.int .i64 cl)) ∧ (V.cell? ⟨w.heap.size + 1, 10, none⟩ = some (.int .i64 cy) ∧ (V.cell? ⟨w.heap.size + 1, 11, none⟩ = some (.int .i64 cw) ∧ V.cell? ⟨w.heap.size + 1, 12, none⟩ = some (.int .i64 cs)))))))
  (first
   | ((try dsimp only); first | (with_reducible exact T0.out _ sC) | (with_reducible exact T0.out _ sB) | (with_reducible exact T0.out _ sA) | (with_reducible exact T0.out _ sZ)))
  (first
   | (go_at_call 30; refine (B2.out _).mono ?_; rintro ee w2 ⟨rfl, hb2⟩; have sA : Ck w v f ⟨5, l, o, a, b, s, e, ⟨cb, cn, cl, cy, cw, cs⟩⟩ w2 := sZ.next hb2)
   | (go_at_call 116; refine (BA.out _ _ _).mono ?_; rintro ee w3 ⟨rfl, hb3⟩; have sB : Ck w v f ⟨5, l, o, a, b, s, e, ⟨cb, cn, cl, cy, cw, cs⟩⟩ w3 := sA.next hb3; have sC : Ck w v f ⟨5, l, o, a, b, s, e, ⟨cb, cn, cl, cy, cw, cs⟩⟩ (w3.alloc (.cells #[.int .i64 p, .int .i64 q, .int .i64 (s - e), .int .i64 (s + e)] 129)) := sB.next ((Below.refl _ _).alloc (Nat.le_refl _) _)))
 all_goals
  go_wp2_with fail
  go_ret
  exact ⟨_, _, rfl, rd_gap w3 _ _ _ _ _, sB.fs.b.alloc sB.fs.b.size _, fun a h => by cases h; exact ⟨_, Bk.new w3 _ _⟩⟩
end Go.Proofs.YtcbeefbefapicaaGreatDoor
