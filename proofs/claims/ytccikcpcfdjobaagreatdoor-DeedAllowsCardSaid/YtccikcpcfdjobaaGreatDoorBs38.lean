/-
  What the claim needs: contracts.
-/
import Derived.Test.YtccikcpcfdjobaaGreatDoorBs37
set_option linter.unusedVariables false
set_option linter.unusedSimpArgs false
set_option maxHeartbeats 8000000
set_option maxRecDepth 100000
namespace Go.Proofs.YtccikcpcfdjobaaGreatDoor
section
open Go.RowKit
abbrev Dp : Type := Dd.De × Option Addr × Nat
def dcell (p : Dp) : List Value := [.string ⟨p.1.name.toArray⟩, .int .i64 p.1.year, .int .i64 p.1.rank, .slice p.2.1 p.1.calls.length p.2.2]
def dcells (l : List Dp) : List Value := l.flatMap dcell
theorem y5g (p : Dp) : (dcell p).length = 4 := rfl
theorem Rd.deed {w : World} {B : Nat} {A : Option Addr} {l : List Dp} (h : Rd w B 4 A l.length (dcells l)) {k : Nat} (hk : k < l.length) :
  ∃ b off, A = some ⟨b, off, none⟩ /\ b < B /\ w.cell? ⟨b, off + k * 4, none⟩ = some (.string ⟨l[k].1.name.toArray⟩) /\ w.cell? ⟨b, off + k * 4 + 1, none⟩ = some (.int .i64 l[k].1.year) /\
   w.cell? ⟨b, off + k * 4 + 2, none⟩ = some (.int .i64 l[k].1.rank) /\ w.cell? ⟨b, off + k * 4 + 3, none⟩ = some (.slice l[k].2.1 l[k].1.calls.length l[k].2.2) := by
 obtain ⟨b, off, e, hb, hc⟩ := Rd.item (cell := dcell) h y5g hk;exact ⟨b, off, e, hb, hc 0 (by decide), hc 1 (by decide), hc 2 (by decide), hc 3 (by decide)⟩
theorem yBJ (x : Dp) (w : World) : Calls Tryz.prog 207 #[.agg #[.string ⟨x.1.name.toArray⟩, .int .i64 x.1.year, .int .i64 x.1.rank, .slice x.2.1 x.1.calls.length x.2.2]] w fun e w' => e = .returned (.string ⟨x.1.name.toArray⟩) /\ Below w.heap.size w w' :=
 y5h x.1 x.2.1 x.2.2 w
theorem y9t (g : Nat) (cap : Array Value) (p : Dp -> Bool) (A : Option Addr) (c : Nat) (ys : List (Dp)) (w : World) (hR : Rd w w.heap.size 4 A ys.length (dcells ys)) (hl : ys.length <= 1000000)
  (eg : ∀ args w, (callFunc g args).run Tryz.prog w = .ok (.enter g args) w)
  (hcl : ∀ x ∈ ys, ∀ W, Below w.heap.size w W -> Calls Tryz.prog g (#[.agg #[.string ⟨x.1.name.toArray⟩, .int .i64 x.1.year, .int .i64 x.1.rank, .slice x.2.1 x.1.calls.length x.2.2]] ++ cap) W fun e w' => e = .returned (.bool (p x)) /\ Below W.heap.size W w') :
  Calls Tryz.prog 238 #[.slice A ys.length c, .func (.func g) #[] cap] w fun e w' => e = .returned (.int .i64 (Dd.idxP p ys 0)) /\ Below w.heap.size w w' := by
 have HCL := jQ hcl;have HR := jQ hR;clear hcl hR;go_enter Tryz.func238, Tryz.ntmps238;go_wp2_with fail;go_loopw [8] (fun I wr => ∃ k : Nat, k <= ys.length /\ I = .int .i64 k /\ (∀ j (h : j < ys.length), j < k -> p ys[j] = false) /\ Below w.heap.size w wr) (fun I _ => ys.length - (intOf I).toNat)
 case atStart => exact ⟨0, Nat.zero_le _, rfl, fun j h hj => absurd hj (by omega), Below.refl _ _⟩
 obtain ⟨k, hk, rfl, ha, hB⟩ := hrel;have HA := jQ ha;have HB := jQ hB;clear ha;by_cases hlt : k < ys.length
 ·obtain ⟨b, off, rfl, hb, e0, e1, e2, e3⟩ := (HR.o.below hB (Nat.le_refl _)).deed hlt;have hc := HCL.o _ (List.getElem_mem hlt) wr hB;have hb2 : b < wr.heap.size := Nat.lt_of_lt_of_le hb hB.size;obtain ⟨x, hx⟩ := zE (ys[k]);rw [hx] at e0 e1 e2 e3 hc;have HX := jQ hx;have HC := jQ hc;rcases hp : p x with _ | _
  ·rw [hp] at hc;have HP := jQ hp;have HC := jQ hc;clear hc hp hx hB;go_wp2_with fail;refine HC.o.mono ?_;rintro e w2 ⟨rfl, hb3⟩;have HB2 := jQ (HB.o.trans (hb3.mono HB.o.size));clear hb3;go_wp2_with fail;go_roundw
   case rel =>
    refine ⟨k + 1, by omega, by go_num, fun j h hj => ?_, HB2.o⟩;by_cases e : j = k
    ·subst e;rw [HX.o];exact HP.o
    exact HA.o j h (by omega)
   case measure => simp [intOf]; omega
  rw [hp] at hc;have hres : Dd.idxP p ys 0 = k := Dd.y1h hlt (by rw [hx]; exact hp) (fun j hj => HA.o j (by omega) hj);have HRES := jQ hres;have HC := jQ hc;clear hc hp hx hB hres;go_wp2_with fail;refine HC.o.mono ?_;rintro e w2 ⟨rfl, hb3⟩;have HB2 := jQ (HB.o.trans (hb3.mono HB.o.size));clear hb3;go_wp2_with fail;go_ret;exact ⟨y02 HRES.o.symm, HB2.o⟩
 have hres : Dd.idxP p ys 0 = -1 := Dd.y1i (fun j h => HA.o j h (by omega));have HRES := jQ hres;obtain rfl : k = ys.length := by omega
 clear hres hB;go_wp2_with fail;go_ret;exact ⟨y02 HRES.o.symm, HB.o⟩
theorem y8m (x : Dp) (s : Cs.Bs) (g g2 : Nat) (w : World) (hc : w.cell? ⟨g, 0, none⟩ = some (.func (.func 207) #[] #[])) (hg : g < w.heap.size) (hc2 : w.cell? ⟨g2, 0, none⟩ = some (.string ⟨s.toArray⟩)) (hg2 : g2 < w.heap.size) :
  Calls Tryz.prog 239 #[.agg #[.string ⟨x.1.name.toArray⟩, .int .i64 x.1.year, .int .i64 x.1.rank, .slice x.2.1 x.1.calls.length x.2.2], .pointer (some ⟨g, 0, none⟩), .pointer (some ⟨g2, 0, none⟩)] w fun e w' => e = .returned (.bool (decide (x.1.name = s))) /\ Below w.heap.size w w' := by
 have eg := enters_of Tryz.func207 (by kernel_rfl) rfl;have HO := jQ fun W => yBJ x W;have hcc := fun (W : World) (h : Below w.heap.size w W) => (h.cell (p := ⟨g2, 0, none⟩) hg2).trans hc2;have hcg := fun (W : World) (h : Below w.heap.size w W) => (h.cell (p := ⟨g, 0, none⟩) hg).trans hc;have hB := (Below.refl w.heap.size w).alloc (Nat.le_refl _) (.cells #[.string ⟨x.1.name.toArray⟩, .int .i64 x.1.year, .int .i64 x.1.rank, .slice x.2.1 x.1.calls.length x.2.2] 226);have kx := Bk.new w 226 #[.string ⟨x.1.name.toArray⟩, .int .i64 x.1.year, .int .i64 x.1.rank, .slice x.2.1 x.1.calls.length x.2.2];obtain ⟨W, hW⟩ := zE (w.alloc (.cells #[.string ⟨x.1.name.toArray⟩, .int .i64 x.1.year, .int .i64 x.1.rank, .slice x.2.1 x.1.calls.length x.2.2] 226));obtain ⟨gx, hgx⟩ := zE (w.heap.size);have HSB := jQ (show ∀ V, Below W.heap.size W V -> (V.cell? ⟨g, 0, none⟩ = some (.func (.func 207) #[] #[]) /\ V.cell? ⟨g2, 0, none⟩ = some (.string ⟨s.toArray⟩)) /\ (V.cell? ⟨w.heap.size, 0, none⟩ = some (.string ⟨x.1.name.toArray⟩) /\ V.cell? ⟨w.heap.size, 1, none⟩ = some (.int .i64 x.1.year)) /\ (V.cell? ⟨w.heap.size, 2, none⟩ = some (.int .i64 x.1.rank) /\ V.cell? ⟨w.heap.size, 3, none⟩ = some (.slice x.2.1 x.1.calls.length x.2.2)) from fun V h => by
  subst hW;have h2 : Below w.heap.size w V := hB.trans (h.mono hB.size);exact ⟨⟨hcg V h2, hcc V h2⟩, ⟨((kx.below h kx.lt).cell 0).trans rfl, ((kx.below h kx.lt).cell 1).trans rfl⟩, ((kx.below h kx.lt).cell 2).trans rfl, ((kx.below h kx.lt).cell 3).trans rfl⟩)
 rw [hgx] at HSB;have HB := jQ (hW ▸ hB);have hbZ : Below W.heap.size W W.drew := (Below.refl _ _).drew;clear hcc hcg hB hc hc2 kx;go_enter Tryz.func239, Tryz.ntmps239;go_upto_region 1 with fail
 try rw [hW]
 try rw [hgx]
 go_region_held3 (fun V => (V.cell? ⟨g, 0, none⟩ = some (.func (.func 207) #[] #[]) /\ V.cell? ⟨g2, 0, none⟩ = some (.string ⟨s.toArray⟩)) /\ (V.cell? ⟨gx, 0, none⟩ = some (.string ⟨x.1.name.toArray⟩) /\ V.cell? ⟨gx, 1, none⟩ = some (.int .i64 x.1.year)) /\ (V.cell? ⟨gx, 2, none⟩ = some (.int .i64 x.1.rank) /\ V.cell? ⟨gx, 3, none⟩ = some (.slice x.2.1 x.1.calls.length x.2.2)))
  (first
   | ((try dsimp only); first | (with_reducible exact HSB.o _ hbC) | (with_reducible exact HSB.o _ hbZ)))
  (first
   | (go_at_call 207; refine (HO.o _).mono ?_; rintro e wC ⟨rfl, hbc⟩; have hbC : Below W.heap.size W wC := hbZ.trans (hbc.mono hbZ.size)))
 all_goals
  go_wp2_with fail;go_ret;refine ⟨y00 ?_, HB.o.trans (hbC.mono HB.o.size)⟩;rw [Bool.eq_iff_iff];simp
theorem yAJ (A : Option Addr) (c : Nat) (ys : List (Dp)) (s : Cs.Bs) (w : World) (hR : Rd w w.heap.size 4 A ys.length (dcells ys)) (hl : ys.length <= 1000000) :
  Calls Tryz.prog 206 #[.slice A ys.length c, .string ⟨s.toArray⟩, .func (.func 207) #[] #[]] w fun e w' => e = .returned (.int .i64 (Dd.idx (ys.map (·.1.name)) s)) /\ Below w.heap.size w w' := by
 have hmf := zM;have kn := (Bk.new w 9 #[.string ⟨s.toArray⟩]).alloc (.cells #[.func (.func 207) #[] #[]] 229);have ko := Bk.new (w.alloc (.cells #[.string ⟨s.toArray⟩] 9)) 229 #[.func (.func 207) #[] #[]];rw [World.size_alloc] at ko;have hB := ((Below.refl w.heap.size w).alloc (Nat.le_refl _) (.cells #[.string ⟨s.toArray⟩] 9)).alloc (by simp) (.cells #[.func (.func 207) #[] #[]] 229);have hix := y9t 239 #[.pointer (some ⟨w.heap.size + 1, 0, none⟩), .pointer (some ⟨w.heap.size, 0, none⟩)] (fun x => decide (x.1.name = s)) A c ys _ ((hR.below hB (Nat.le_refl _)).more hB.size) hl (enters_of Tryz.func239 (by kernel_rfl) rfl)
  (fun x hx W hb => y8m x s (w.heap.size + 1) w.heap.size W (((ko.below hb ko.lt).cell 0).trans rfl) (ko.below hb ko.lt).lt (((kn.below hb kn.lt).cell 0).trans rfl) (kn.below hb kn.lt).lt)
 have hres : Dd.idx (ys.map (·.1.name)) s = Dd.idxP (fun x => decide (x.1.name = s)) ys 0 := Dd.y4x _ _ ys 0;rw [hres];obtain ⟨z, hz⟩ := zE (Dd.idxP (fun x : Dp => decide (x.1.name = s)) ys 0);rw [hz] at hix ⊢;have HC := jQ hix;have HB := jQ hB;clear hix kn ko hB hz hres hR hl;go_enter Tryz.func206, Tryz.ntmps206;go_wp2_with fail;refine HC.o.mono ?_;rintro e w1 ⟨rfl, hb⟩;have HB2 := jQ (HB.o.trans (hb.mono HB.o.size));clear hb;go_wp2_with fail;go_ret;exact ⟨rfl, HB2.o⟩
theorem y0S {X : Nat -> Prop} {w w' : World} {base e size n : Nat} {v : Value} {xs : List Value} (h : w.ownsRow base e size v n xs) (hb : But X w w') (hx : ∀ k, v.ownBlock = some k -> ¬ X k) : w'.ownsRow base e size v n xs := by
 obtain ⟨h1, (h2 | ⟨g, cap, cur, rfl, h3, h4, h5⟩)⟩ := h
 ·exact ⟨h1, .inl h2⟩
 exact ⟨h1, .inr ⟨g, cap, cur, rfl, h3, (hb.block g (Array.getElem?_eq_some_iff.1 h4).1 (hx g rfl)).trans h4, h5⟩⟩
theorem But.grown {w w' : World} {row : Option Nat} (h : w.grownBy w' row) : But (fun k => row = some k) w w' :=
 ⟨h.os, h.tape, h.output, h.size, fun k hk hx => h.block k hk (fun e => hx e.symm)⟩
theorem y0t {w : World} {B1 B2 e1 e2 z1 z2 n1 n2 : Nat} {u v : Value} {xs ys : List Value} (hu : w.ownsRow B1 e1 z1 u n1 xs) (hv : w.ownsRow B2 e2 z2 v n2 ys) (hne : e1 ≠ e2) (k : Nat) (h1 : u.ownBlock = some k) : v.ownBlock ≠ some k := by
 intro h2;obtain ⟨_, (⟨rfl, _⟩ | ⟨g, cap, cur, rfl, _, a1, _⟩)⟩ := hu
 ·cases h1
 obtain ⟨_, (⟨rfl, _⟩ | ⟨g', cap', cur', rfl, _, a2, _⟩)⟩ := hv
 ·cases h2
 simp only [Value.ownBlock, Option.some.injEq] at h1 h2;subst h1 h2;rw [a1] at a2;simp only [Option.some.injEq, Obj.cells.injEq] at a2;exact hne a2.2.1
theorem y0E {w : World} {base e size n : Nat} {v : Value} {xs : List Value} (h : w.ownsRow base e size v n xs) (k : Nat) (hk : v.ownBlock = some k) : base <= k /\ k < w.heap.size := by
 obtain ⟨_, (⟨rfl, _⟩ | ⟨g, cap, cur, rfl, h1, h2, _⟩)⟩ := h
 ·cases hk
 simp only [Value.ownBlock, Option.some.injEq] at hk;subst hk;exact ⟨h1, (Array.getElem?_eq_some_iff.1 h2).1⟩
theorem y2G {w : World} {base e size n : Nat} {A : Option Addr} {m c : Nat} {xs : List Value} (h : w.ownsRow base e size (.slice A m c) n xs) : m = n /\ n <= c := by
 obtain ⟨_, (⟨h1, h2⟩ | ⟨g, cap, cur, h1, _, _, h3, _⟩)⟩ := h
 ·cases h1; exact ⟨h2.symm, by omega⟩
 cases h1; exact ⟨rfl, h3⟩
def sl (A : Option Addr) (n c : Nat) : Value := .slice A n c
theorem y6T (A : Option Addr) (n c : Nat) : sl A n c = .slice A n c := rfl
structure Fo (V : World) (B g m : Nat) (f : Dd.Fd) (R : Nat -> Prop) (v : Fv) : Prop where
 k : Bk V g 27 #[.slice v.a1 f.st.length v.c1, .slice v.a2 f.li.length v.c2, .slice v.a3 f.pa.length v.c3, .slice v.a4 f.va.length v.c4]
 o1 : V.ownsRow B 66 2 (sl v.a1 f.st.length v.c1) f.st.length (scells f.st)
 o2 : V.ownsRow B 9 1 (sl v.a2 f.li.length v.c2) f.li.length (wcells f.li)
 o3 : V.ownsRow B 68 4 (sl v.a3 f.pa.length v.c3) f.pa.length (pcells f.pa)
 o4 : V.ownsRow B 116 2 (sl v.a4 f.va.length v.c4) f.va.length (vcells f.va)
 hR : ∀ k, R k ↔ (k = g ∨ (sl v.a1 f.st.length v.c1).ownBlock = some k ∨ (sl v.a2 f.li.length v.c2).ownBlock = some k ∨ (sl v.a3 f.pa.length v.c3).ownBlock = some k ∨ (sl v.a4 f.va.length v.c4).ownBlock = some k)
 gB : 9 <= g /\ g < B
 le : B <= V.heap.size
 l1 : f.st.length <= m
 l2 : f.li.length <= m
 l3 : f.pa.length <= m
 l4 : f.va.length <= m
 n1 : ∀ s ∈ f.st, s.1.length <= 1000000
 n2 : ∀ s ∈ f.li, s.length <= 1000000
 n3 : ∀ p ∈ f.pa, p.name.length <= 1000000
theorem Fo.keep {V V' : World} {B g m : Nat} {f : Dd.Fd} {R X : Nat -> Prop} {v : Fv} (h : Fo V B g m f R v) (hb : But X V V') (hx : ∀ k, X k -> ¬ R k) : Fo V' B g m f R v :=
 have hg : ¬ X g := fun hX => hx g hX ((h.hR g).2 (.inl rfl))
 ⟨hb.bk h.k hg, y0S h.o1 hb (fun k e hX => hx k hX ((h.hR k).2 (.inr (.inl e)))), y0S h.o2 hb (fun k e hX => hx k hX ((h.hR k).2 (.inr (.inr (.inl e))))),
  y0S h.o3 hb (fun k e hX => hx k hX ((h.hR k).2 (.inr (.inr (.inr (.inl e)))))), y0S h.o4 hb (fun k e hX => hx k hX ((h.hR k).2 (.inr (.inr (.inr (.inr e)))))),
  h.hR, h.gB, Nat.le_trans h.le hb.size, h.l1, h.l2, h.l3, h.l4, h.n1, h.n2, h.n3⟩
theorem Fo.low {V : World} {B g m : Nat} {f : Dd.Fd} {R : Nat -> Prop} {v : Fv} (h : Fo V B g m f R v) (k : Nat) (hk : R k) : 9 <= k /\ k < V.heap.size := by
 have hgB := h.gB;have hle := h.le;rcases (h.hR k).1 hk with e | e | e | e | e
 ·exact ⟨by omega, by have := h.k.lt; omega⟩
 ·have := y0E h.o1 k e; omega
 ·have := y0E h.o2 k e; omega
 ·have := y0E h.o3 k e; omega
 have := y0E h.o4 k e; omega
theorem Fo.rd {V : World} {B g m : Nat} {f : Dd.Fd} {R : Nat -> Prop} {v : Fv} (h : Fo V B g m f R v) (hm : m <= 1000000) : FRd V V.heap.size v f := by
 have r1 := y0e h.o1 h.o1.1;have r2 := y0e h.o2 h.o2.1;have r3 := y0e h.o3 h.o3.1;have r4 := y0e h.o4 h.o4.1;obtain ⟨A1, C1, e1, q1, _⟩ := r1;obtain ⟨A2, C2, e2, q2, _⟩ := r2;obtain ⟨A3, C3, e3, q3, _⟩ := r3;obtain ⟨A4, C4, e4, q4, _⟩ := r4;simp only [sl, Value.slice.injEq] at e1 e2 e3 e4;obtain ⟨rfl, _, rfl⟩ := e1;obtain ⟨rfl, _, rfl⟩ := e2;obtain ⟨rfl, _, rfl⟩ := e3;obtain ⟨rfl, _, rfl⟩ := e4;exact ⟨q1, q2, q3, q4, (y2G h.o1).2, (y2G h.o2).2, (y2G h.o3).2, Nat.le_trans h.l1 hm, Nat.le_trans h.l2 hm, Nat.le_trans h.l3 hm, Nat.le_trans h.l4 hm, h.n1, h.n2, h.n3⟩
theorem Fo.more2 {V Vx V' : World} {B g m : Nat} {f : Dd.Fd} {R : Nat -> Prop} {v : Fv} {n : Cs.Bs} {gn cn : Nat} (h : Fo V B g m f R v) (hn : n.length <= 1000000) (hx : Below V.heap.size V Vx)
  (ho : V'.ownsRow B 9 1 (.slice (some ⟨gn, 0, none⟩) (f.li.length + 1) cn) (f.li.length + 1) (wcells f.li ++ [.string ⟨n.toArray⟩])) (hg : Vx.grownBy V' (sl v.a2 f.li.length v.c2).ownBlock)
  (hat : (sl v.a2 f.li.length v.c2).ownBlock = some gn ∨ V.heap.size <= gn) :
  ∃ R' v', Fo (V'.setCell ⟨g, 1, none⟩ (.slice (some ⟨gn, 0, none⟩) (f.li.length + 1) cn)) B g (m + 1) { f with li := f.li ++ [n] } R' v' /\ But R V (V'.setCell ⟨g, 1, none⟩ (.slice (some ⟨gn, 0, none⟩) (f.li.length + 1) cn)) /\ ∀ k, R' k -> R k ∨ V.heap.size <= k := by
 have hgB := h.gB;have hle := h.le;have hgz : g < Vx.heap.size := by have := h.k.lt; have := hx.size; omega
 have hB1 : But (fun k => (sl v.a2 f.li.length v.c2).ownBlock = some k) V V' := (But.of hx).trans (But.grown hg);have hne2 : ¬ (sl v.a2 f.li.length v.c2).ownBlock = some g := fun e => by have := y0E h.o2 g e; omega
 have hB2 : But R V (V'.setCell ⟨g, 1, none⟩ (.slice (some ⟨gn, 0, none⟩) (f.li.length + 1) cn)) :=
  (hB1.mono (fun k e => (h.hR k).2 (.inr (.inr (.inl e))))).set (p := ⟨g, 1, none⟩) ((h.hR g).2 (.inl rfl)) _
 have own' : ∀ {e z n' : Nat} {u : Value} {xs : List Value}, V.ownsRow B e z u n' xs -> e ≠ 9 -> (V'.setCell ⟨g, 1, none⟩ (.slice (some ⟨gn, 0, none⟩) (f.li.length + 1) cn)).ownsRow B e z u n' xs := fun hu hne =>
  y0S (y0S hu hB1 (fun k hk e2 => y0t hu h.o2 hne k hk e2)) (But.set (X := fun k => k = g) (But.refl _ _) (p := ⟨g, 1, none⟩) rfl _) (fun k hk e => by have := y0E hu k hk; omega)
 refine ⟨_, ⟨v.a1, v.c1, some ⟨gn, 0, none⟩, cn, v.a3, v.c3, v.a4, v.c4⟩, ⟨?_, own' h.o1 (by decide), ?_, own' h.o3 (by decide), own' h.o4 (by decide), fun k => Iff.rfl, hgB, Nat.le_trans hle hB2.size, by have := h.l1; simp; omega, by have := h.l2; simp; omega, by have := h.l3; simp; omega, by have := h.l4; simp; omega, h.n1, ?_, h.n3⟩, hB2, ?_⟩
 ·have hk := (hB1.bk h.k hne2).set 1 (.slice (some ⟨gn, 0, none⟩) (f.li.length + 1) cn);simpa using hk
 ·have hw : wcells (f.li ++ [n]) = wcells f.li ++ [.string ⟨n.toArray⟩] := by simp [wcells, sv]
  have hl : (f.li ++ [n]).length = f.li.length + 1 := by simp
  rw [hw, hl];exact y0S ho (But.set (X := fun k => k = g) (But.refl _ _) (p := ⟨g, 1, none⟩) rfl _) (fun k hk e => by
   have := y0E ho k hk; omega)
 ·intro s hs;rcases List.mem_append.1 hs with hs | hs
  ·exact h.n2 s hs
  rw [List.mem_singleton.1 hs]; exact hn
 intro k hk;rcases hk with e | e | e | e | e
 ·exact .inl ((h.hR k).2 (.inl e))
 ·exact .inl ((h.hR k).2 (.inr (.inl e)))
 ·simp only [sl, Value.ownBlock, Option.some.injEq] at e;subst e;rcases hat with e | e
  ·exact .inl ((h.hR _).2 (.inr (.inr (.inl e))))
  exact .inr e
 ·exact .inl ((h.hR k).2 (.inr (.inr (.inr (.inl e)))))
 exact .inl ((h.hR k).2 (.inr (.inr (.inr (.inr e)))))
end

section
open Go.RowKit
def psl (p : Dp) : Value := sl p.2.1 p.1.calls.length p.2.2
theorem y3N (p : Dp) : psl p = .slice p.2.1 p.1.calls.length p.2.2 := rfl
structure Dq (V : World) (F B g : Nat) (v : Fv) (f : Dd.Fd) (ps : List Dp) (A : Option Addr) (c : Nat) (R : Nat -> Prop) : Prop where
 k : Bk V g 135 #[.slice v.a1 f.st.length v.c1, .slice v.a2 f.li.length v.c2, .slice v.a3 f.pa.length v.c3, .slice v.a4 f.va.length v.c4, .slice A ps.length c]
 o : V.ownsRow B 226 4 (sl A ps.length c) ps.length (dcells ps)
 oc : ∀ p ∈ ps, V.ownsRow B 48 13 (psl p) p.1.calls.length (cacells p.1.calls)
 dj : ps.Pairwise (fun p q => ∀ k, (psl p).ownBlock = some k -> (psl q).ownBlock ≠ some k)
 hR : ∀ k, R k ↔ (k = g ∨ (sl A ps.length c).ownBlock = some k ∨ ∃ p ∈ ps, (psl p).ownBlock = some k)
 gB : 9 <= g /\ g < B
 le : B <= V.heap.size
 fr : FRd V F v f
 fg : F <= g
 l1 : ps.length <= 60
 l2 : ∀ p ∈ ps, p.1.calls.length <= 20 /\ p.1.name.length <= 1000000
section
variable {V V' Vx : World} {F B g : Nat} {v : Fv} {f : Dd.Fd} {ps : List Dp} {A : Option Addr} {c : Nat} {R X : Nat -> Prop}
theorem Dq.keep (h : Dq V F B g v f ps A c R) (hb : But X V V') (hx : ∀ k, X k -> ¬ R k /\ F <= k) : Dq V' F B g v f ps A c R :=
 have hg : ¬ X g := fun hX => (hx g hX).1 ((h.hR g).2 (.inl rfl))
 ⟨hb.bk h.k hg, y0S h.o hb (fun k e hX => (hx k hX).1 ((h.hR k).2 (.inr (.inl e)))), fun p hp => y0S (h.oc p hp) hb (fun k e hX => (hx k hX).1 ((h.hR k).2 (.inr (.inr ⟨p, hp, e⟩)))),
  h.dj, h.hR, h.gB, Nat.le_trans h.le hb.size, h.fr.below (hb.below (fun k hX => (hx k hX).2) (Nat.le_trans h.fg (Nat.le_trans (Nat.le_of_lt h.gB.2) h.le))) (Nat.le_refl _), h.fg, h.l1, h.l2⟩
theorem Dq.low (h : Dq V F B g v f ps A c R) (k : Nat) (hk : R k) : (9 <= k /\ F <= k) /\ k < V.heap.size := by
 have hgB := h.gB;have hle := h.le;have hfg := h.fg;rcases (h.hR k).1 hk with e | e | ⟨p, hp, e⟩
 ·exact ⟨by omega, by have := h.k.lt; omega⟩
 ·have := y0E h.o k e; omega
 have := y0E (h.oc p hp) k e; omega
theorem Dq.more {d : Dd.De} {gn cn : Nat} (h : Dq V F B g v f ps A c R) (hd : d.calls = []) (hn : d.name.length <= 1000000) (hl : ps.length < 60) (hx : Below V.heap.size V Vx)
  (ho : V'.ownsRow B 226 4 (.slice (some ⟨gn, 0, none⟩) (ps.length + 1) cn) (ps.length + 1) (dcells ps ++ dcell (d, none, 0))) (hg : Vx.grownBy V' (sl A ps.length c).ownBlock)
  (hat : (sl A ps.length c).ownBlock = some gn ∨ V.heap.size <= gn) :
  ∃ R', Dq (V'.setCell ⟨g, 4, none⟩ (.slice (some ⟨gn, 0, none⟩) (ps.length + 1) cn)) F B g v f (ps ++ [(d, none, 0)]) (some ⟨gn, 0, none⟩) cn R' /\ But R V (V'.setCell ⟨g, 4, none⟩ (.slice (some ⟨gn, 0, none⟩) (ps.length + 1) cn)) /\ ∀ k, R' k -> R k ∨ V.heap.size <= k := by
 have hgB := h.gB;have hle := h.le;have hfg := h.fg;have hgz : g < Vx.heap.size := by have := h.k.lt; have := hx.size; omega
 have hB1 : But (fun k => (sl A ps.length c).ownBlock = some k) V V' := (But.of hx).trans (But.grown hg);have hne2 : ¬ (sl A ps.length c).ownBlock = some g := fun e => by have := y0E h.o g e; omega
 have hB2 : But R V (V'.setCell ⟨g, 4, none⟩ (.slice (some ⟨gn, 0, none⟩) (ps.length + 1) cn)) :=
  (hB1.mono (fun k e => (h.hR k).2 (.inr (.inl e)))).set (p := ⟨g, 4, none⟩) ((h.hR g).2 (.inl rfl)) _
 have own' : ∀ {e z n' : Nat} {u : Value} {xs : List Value}, V.ownsRow B e z u n' xs -> e ≠ 226 -> (V'.setCell ⟨g, 4, none⟩ (.slice (some ⟨gn, 0, none⟩) (ps.length + 1) cn)).ownsRow B e z u n' xs := fun hu hne =>
  y0S (y0S hu hB1 (fun k hk e2 => y0t hu h.o hne k hk e2)) (But.set (X := fun k => k = g) (But.refl _ _) (p := ⟨g, 4, none⟩) rfl _) (fun k hk e => by have := y0E hu k hk; omega)
 have hnew : (psl (d, none, 0)).ownBlock = none := rfl;refine ⟨_, ⟨?_, ?_, ?_, ?_, fun k => Iff.rfl, hgB, Nat.le_trans hle hB2.size, ?_, hfg, by simp; omega, ?_⟩, hB2, ?_⟩
 ·have hk := (hB1.bk h.k hne2).set 4 (.slice (some ⟨gn, 0, none⟩) (ps.length + 1) cn);simpa using hk
 ·have e1 : dcells (ps ++ [((d, none, 0) : Dp)]) = dcells ps ++ dcell (d, none, 0) := by simp [dcells]
  have e2 : (ps ++ [((d, none, 0) : Dp)]).length = ps.length + 1 := by simp
  rw [e1, e2];exact y0S ho (But.set (X := fun k => k = g) (But.refl _ _) (p := ⟨g, 4, none⟩) rfl _) (fun k hk e => by
   have := y0E ho k hk; omega)
 ·intro p hp;rcases List.mem_append.1 hp with hp | hp
  ·exact own' (h.oc p hp) (by decide)
  rw [List.mem_singleton.1 hp];rw [y3N];simp only [hd];exact World.ownsRow_nil _ _ _ _
 ·rw [List.pairwise_append];refine ⟨h.dj, List.pairwise_singleton _ _, fun p _ q hq k _ => ?_⟩;rw [List.mem_singleton.1 hq, hnew];simp
 ·exact h.fr.below (hB2.below (fun k hk => (h.low k hk).1.2) (by omega)) (Nat.le_refl _)
 ·intro p hp;rcases List.mem_append.1 hp with hp | hp
  ·exact h.l2 p hp
  rw [List.mem_singleton.1 hp];exact ⟨by simp [hd], hn⟩
 intro k hk;rcases hk with e | e | ⟨p, hp, e⟩
 ·exact .inl ((h.hR k).2 (.inl e))
 ·simp only [sl, Value.ownBlock, Option.some.injEq] at e;subst e;rcases hat with e | e
  ·exact .inl ((h.hR _).2 (.inr (.inl e)))
  exact .inr e
 rcases List.mem_append.1 hp with hp | hp
 ·exact .inl ((h.hR k).2 (.inr (.inr ⟨p, hp, e⟩)))
 rw [List.mem_singleton.1 hp, hnew] at e;cases e
theorem Dq.call {d : Dd.De} {A1 : Option Addr} {c1 gd gn cn : Nat} {x : Dd.Ca} (h : Dq V F B g v f (ps ++ [(d, A1, c1)]) A c R) (hA : A = some ⟨gd, 0, none⟩) (hl : d.calls.length < 20) (hx : Below V.heap.size V Vx)
  (ho : V'.ownsRow B 48 13 (.slice (some ⟨gn, 0, none⟩) (d.calls.length + 1) cn) (d.calls.length + 1) (cacells d.calls ++ cacell x)) (hg : Vx.grownBy V' (psl (d, A1, c1)).ownBlock)
  (hat : (psl (d, A1, c1)).ownBlock = some gn ∨ V.heap.size <= gn) :
  ∃ R', Dq (V'.setCell ⟨gd, ps.length * 4 + 3, none⟩ (.slice (some ⟨gn, 0, none⟩) (d.calls.length + 1) cn)) F B g v f (ps ++ [({ d with calls := d.calls ++ [x] }, some ⟨gn, 0, none⟩, cn)]) A c R' /\ But R V (V'.setCell ⟨gd, ps.length * 4 + 3, none⟩ (.slice (some ⟨gn, 0, none⟩) (d.calls.length + 1) cn)) /\ ∀ k, R' k -> R k ∨ V.heap.size <= k := by
 subst hA;have hgB := h.gB;have hle := h.le;have hfg := h.fg;have hm : ((d, A1, c1) : Dp) ∈ ps ++ [(d, A1, c1)] := by simp
 have hob := h.oc _ hm;have hdB := y0E h.o gd rfl;have hB1 : But (fun k => (psl (d, A1, c1)).ownBlock = some k) V V' := (But.of hx).trans (But.grown hg);have hneg : ¬ (psl (d, A1, c1)).ownBlock = some g := fun e => by have := y0E hob g e; omega
 have hned : ¬ (psl (d, A1, c1)).ownBlock = some gd := fun e => y0t hob h.o (by decide) gd e rfl;have hB2 : But R V (V'.setCell ⟨gd, ps.length * 4 + 3, none⟩ (.slice (some ⟨gn, 0, none⟩) (d.calls.length + 1) cn)) :=
  (hB1.mono (fun k e => (h.hR k).2 (.inr (.inr ⟨_, hm, e⟩)))).set (p := ⟨gd, ps.length * 4 + 3, none⟩) ((h.hR gd).2 (.inr (.inl rfl))) _
 have ho1 := y0S h.o hB1 (fun k hk e2 => y0t hob h.o (by decide) k e2 hk);have hs1 : ∀ {e z n' : Nat} {u : Value} {xs : List Value}, V'.ownsRow B e z u n' xs -> (¬ u.ownBlock = some gd) -> (V'.setCell ⟨gd, ps.length * 4 + 3, none⟩ (.slice (some ⟨gn, 0, none⟩) (d.calls.length + 1) cn)).ownsRow B e z u n' xs := fun hu hne =>
  y0S hu (But.set (X := fun k => k = gd) (But.refl _ _) (p := ⟨gd, ps.length * 4 + 3, none⟩) rfl _) (fun k hk e => hne (by rw [hk, show k = gd from e]))
 have hlen : (ps ++ [(({ d with calls := d.calls ++ [x] }, some ⟨gn, 0, none⟩, cn) : Dp)]).length = (ps ++ [(d, A1, c1)]).length := by simp
 obtain ⟨dj1, _, dj2⟩ := List.pairwise_append.1 h.dj;refine ⟨_, ⟨?_, ?_, ?_, ?_, fun k => Iff.rfl, hgB, Nat.le_trans hle hB2.size, ?_, hfg, by rw [hlen]; exact h.l1, ?_⟩, hB2, ?_⟩
 ·rw [hlen];exact (hB1.bk h.k hneg).far (p := ⟨gd, ps.length * 4 + 3, none⟩) (by show g ≠ gd; omega) _
 ·rw [hlen];have := (World.ownsRow.stored ho1 (ps.length * 4 + 3) (.slice (some ⟨gn, 0, none⟩) (d.calls.length + 1) cn)).1;rw [show dcells (ps ++ [(({ d with calls := d.calls ++ [x] }, some ⟨gn, 0, none⟩, cn) : Dp)]) = (dcells (ps ++ [(d, A1, c1)])).set (ps.length * 4 + 3) (.slice (some ⟨gn, 0, none⟩) (d.calls.length + 1) cn) by
   have e1 : dcells (ps ++ [(d, A1, c1)]) = dcells ps ++ dcell (d, A1, c1) := by simp [dcells]
   have e2 : dcells (ps ++ [(({ d with calls := d.calls ++ [x] }, some ⟨gn, 0, none⟩, cn) : Dp)]) = dcells ps ++ dcell ({ d with calls := d.calls ++ [x] }, some ⟨gn, 0, none⟩, cn) := by simp [dcells]
   have e3 : (dcells ps).length = ps.length * 4 := y1f y5g ps;rw [e1, e2, List.set_append, if_neg (by omega), e3, Nat.add_sub_cancel_left];simp [dcell]]
  exact this
 ·intro p hp;rcases List.mem_append.1 hp with hp | hp
  ·refine hs1 (y0S (h.oc p (List.mem_append_left _ hp)) hB1 (fun k hk e2 => dj2 p hp _ (List.mem_singleton.2 rfl) k hk e2)) (fun e => y0t (h.oc p (List.mem_append_left _ hp)) h.o (by decide) gd e rfl)
  rw [List.mem_singleton.1 hp];rw [y3N];simp only [List.length_append, List.length_cons, List.length_nil, Nat.zero_add];rw [show cacells (d.calls ++ [x]) = cacells d.calls ++ cacell x by simp [cacells]];exact hs1 ho (fun e => y0t ho ho1 (by decide) gd e rfl)
 ·rw [List.pairwise_append];refine ⟨dj1, List.pairwise_singleton _ _, fun p hp q hq k hk hk2 => ?_⟩;rw [List.mem_singleton.1 hq, y3N] at hk2;simp only [Value.ownBlock, Option.some.injEq] at hk2;subst hk2;rcases hat with e | e
  ·exact dj2 p hp _ (List.mem_singleton.2 rfl) _ hk e
  have := y0E (h.oc p (List.mem_append_left _ hp)) _ hk;omega
 ·exact h.fr.below (hB2.below (fun k hk => (h.low k hk).1.2) (by omega)) (Nat.le_refl _)
 ·intro p hp;rcases List.mem_append.1 hp with hp | hp
  ·exact h.l2 p (List.mem_append_left _ hp)
  rw [List.mem_singleton.1 hp];exact ⟨by simp; omega, (h.l2 _ hm).2⟩
 intro k hk;rcases hk with e | e | ⟨p, hp, e⟩
 ·exact .inl ((h.hR k).2 (.inl e))
 ·exact .inl ((h.hR k).2 (.inr (.inl e)))
 rcases List.mem_append.1 hp with hp | hp
 ·exact .inl ((h.hR k).2 (.inr (.inr ⟨p, List.mem_append_left _ hp, e⟩)))
 rw [List.mem_singleton.1 hp, y3N] at e;simp only [Value.ownBlock, Option.some.injEq] at e;subst e;rcases hat with e | e
 ·exact .inl ((h.hR _).2 (.inr (.inr ⟨_, hm, e⟩)))
 exact .inr e
end
structure DeRd (w : World) (B : Nat) (A : Option Addr) (ps : List Dp) : Prop where
 l : Rd w B 4 A ps.length (dcells ps)
 c : ∀ p ∈ ps, Rd w B 13 p.2.1 p.1.calls.length (cacells p.1.calls) /\ p.1.calls.length <= p.2.2
theorem Dq.rd {V : World} {F B g : Nat} {v : Fv} {f : Dd.Fd} {ps : List Dp} {A : Option Addr} {c : Nat} {R : Nat -> Prop} (h : Dq V F B g v f ps A c R) : DeRd V V.heap.size A ps /\ ps.length <= c := by
 refine ⟨⟨?_, fun p hp => ?_⟩, (y2G h.o).2⟩
 ·obtain ⟨A1, C1, e1, q1, _⟩ := y0e h.o h.o.1;simp only [sl, Value.slice.injEq] at e1;obtain ⟨rfl, _, rfl⟩ := e1;exact q1
 obtain ⟨A1, C1, e1, q1, _⟩ := y0e (h.oc p hp) (h.oc p hp).1;simp only [psl, sl, Value.slice.injEq] at e1;obtain ⟨rfl, _, rfl⟩ := e1;exact ⟨q1, (y2G (h.oc p hp)).2⟩
end

section
open Go.RowKit
def Fs3 (r : Int × List Dd.De) (F B g b : Nat) (v : Fv) (f : Dd.Fd) (R : Nat -> Prop) (V : World) (e : Ending) (V' : World) : Prop :=
 But (fun k => k = b ∨ R k) V V' /\ ((r.1 = 0 /\ e = .returned (.tuple #[]) /\ ∃ ps' A' c' R', ps'.map (fun p : Dp => p.1) = r.2 /\ Dq V' F B g v f ps' A' c' R' /\ ∀ k, R' k -> R k ∨ V.heap.size <= k) ∨ (r.1 ≠ 0 /\ e = .panicked [pan r.1]))
theorem Fs3.no {r : Int × List Dd.De} {F B g b : Nat} {v : Fv} {f : Dd.Fd} {R : Nat -> Prop} {V V' : World} {n : Int} (hr : r.1 = n) (hn : n ≠ 0) (hb : But (fun k => k = b) V V') : Fs3 r F B g b v f R V (.panicked [pan n]) V' :=
 ⟨hb.mono (fun k h => .inl h), .inr ⟨by rw [hr]; exact hn, by rw [hr]⟩⟩
def drw1 (w : World) (d : Dd.Dr) : World := (w.alloc (.cells zero17 130)).setRow w.heap.size (drcells d).toArray
theorem y0V (w : World) (d : Dd.Dr) : Below w.heap.size w (drw1 w d) := Below.rowNew ((Below.refl _ _).alloc (Nat.le_refl _) _) (Nat.le_refl _) _
theorem y6v (w : World) (d : Dd.Dr) : Bk (drw1 w d) w.heap.size 130 (drcells d).toArray := (Bk.new w 130 zero17).row _
theorem y4D (F B g b : Nat) (v : Fv) (f : Dd.Fd) (ps : List Dp) (A : Option Addr) (c : Nat) (R : Nat -> Prop) (ws : List Cs.Bs) (V : World) (hE : Env V) (hz : Wz V b ws) (hn : Dd.draftE ws = none) :
  Calls Tryz.prog 163 #[.pointer (some ⟨g, 0, none⟩), .pointer (some ⟨b, 0, none⟩)] V fun e V' => e = .panicked [pan 4] /\ But (fun k => k = b) V V' := by
 have RD := jQ (y0W b ws V hE hz);have HN := jQ hn;clear hn hE hz;go_enter Tryz.func163, Tryz.ntmps163;go_wp2_with fail;refine RD.o.mono ?_;intro e w1 he;obtain ⟨rfl, hb⟩ := he.none_ HN.o;clear he;go_wp2_with fail;exact ⟨rfl, rfl, hb⟩
theorem y5L (F B g b : Nat) (v : Fv) (f : Dd.Fd) (A : Option Addr) (c : Nat) (R : Nat -> Prop) (ws : List Cs.Bs) (V : World) (hE : Env V) (hz : Wz V b ws) (d : Dd.Dr) (r : List Cs.Bs) (hn : Dd.draftE ws = some (d, r)) (hQ : Dq V F B g v f [] A c R) (hbR : ¬ R b) :
  Calls Tryz.prog 163 #[.pointer (some ⟨g, 0, none⟩), .pointer (some ⟨b, 0, none⟩)] V fun e V' => e = .panicked [pan 4] /\ But (fun k => k = b) V V' := by
 have RD := jQ (y0W b ws V hE hz);have HN := jQ hn;have kg := hQ.k;have hgb : g ≠ b := fun e => hbR ((hQ.hR b).2 (.inl e.symm));have KG := jQ kg;have hdd : drval d = .agg (drcells d).toArray := rfl;clear hn hE hz hQ hbR kg;go_enter Tryz.func163, Tryz.ntmps163;go_wp2_with fail;refine RD.o.mono ?_;intro e w1 he;obtain ⟨rfl, hb, hz1⟩ := he.some_ HN.o;have HB := jQ hb;have hkn := Bk.new w1 130 zero17;have HKN := jQ hkn;have kg1 := hb.bk KG.o hgb;have KG1 := jQ (kg1.below (y0V w1 d) kg1.lt);have hgl := KG1.o.lt;have c4 := (KG1.o.cell 4).trans rfl;have hwd : (w1.alloc (.cells zero17 130)).setRow w1.heap.size (drcells d).toArray = drw1 w1 d := rfl;have HWD := jQ hwd;clear he hb hz1 hkn kg1 hwd;simp only [zero17] at HKN HWD;go_wp2_with (refine wpList_store_row rfl 130 (.tmp 4) (.tmp 7) rfl w1.heap.size (drcells d).toArray rfl rfl 130 _ HKN.o (by kernel_rfl) rfl (by kernel_rfl) ?_; rw [HWD.o]);refine (y0U _ _).mono ?_;rintro e w2 ⟨rfl, hb2⟩;go_wp2_with fail;exact ⟨rfl, rfl, HB.o.trans (But.of ((y0V w1 d).trans (hb2.mono (y0V w1 d).size)))⟩
theorem Dq.last {V : World} {F B g : Nat} {v : Fv} {f : Dd.Fd} {qs : List Dp} {z : Dp} {A : Option Addr} {c : Nat} {R : Nat -> Prop} (h : Dq V F B g v f (qs ++ [z]) A c R) :
  ∃ gd, A = some ⟨gd, 0, none⟩ /\ gd < V.heap.size /\ V.cell? ⟨g, 4, none⟩ = some (.slice (some ⟨gd, 0, none⟩) (qs.length + 1) c) /\ V.cell? ⟨gd, qs.length * 4 + 1, none⟩ = some (.int .i64 z.1.year) /\ V.cell? ⟨gd, qs.length * 4 + 3, none⟩ = some (.slice z.2.1 z.1.calls.length z.2.2) /\ V.frozen? ⟨gd, qs.length * 4 + 3, none⟩ = false /\ qs.length <= 59 := by
 have hl := h.l1;have hlen : (qs ++ [z]).length = qs.length + 1 := by simp
 have c4 := (h.k.cell 4).trans rfl;rcases h.o.2 with ⟨h1, h2⟩ | ⟨gd, cap, cur, h1, hb, hg, hn, hcm, hcs, htake⟩
 ·rw [hlen] at h2; omega
 simp only [sl, Value.slice.injEq] at h1;obtain ⟨rfl, _, rfl⟩ := h1;obtain ⟨b, off, e, hb2, d0, d1, d2, d3⟩ := (Dq.rd h).1.l.deed (k := qs.length) (by rw [hlen]; omega);cases e;rw [Nat.zero_add] at d1 d3;rw [List.getElem_append_right (Nat.le_refl _)] at d1 d3;simp only [Nat.sub_self, List.getElem_cons_zero] at d1 d3;rw [hlen] at c4;exact ⟨gd, rfl, hb2, c4, d1, d3, by simp [World.frozen?, hg], by omega⟩
structure Rq (w1 : World) (F B g : Nat) (v : Fv) (f : Dd.Fd) (qs : List Dp) (z : Dp) (gd c : Nat) (R : Nat -> Prop) (d : Dd.Dr) (W : World) : Prop where
 q : Dq W F B g v f (qs ++ [z]) (some ⟨gd, 0, none⟩) c R
 kd : Bk W w1.heap.size 130 (drcells d).toArray
 b : Below w1.heap.size w1 W
 env : Env W
section
variable {w1 W W' : World} {F B g gd c : Nat} {v : Fv} {f : Dd.Fd} {qs : List Dp} {z : Dp} {R : Nat -> Prop} {d : Dd.Dr}
theorem Rq.next (h : Rq w1 F B g v f qs z gd c R d W) (hb : Below W.heap.size W W') : Rq w1 F B g v f qs z gd c R d W' :=
 ⟨h.q.keep (But.of hb (X := fun _ => False)) (fun k hk => hk.elim), h.kd.below hb h.kd.lt, h.b.trans (hb.mono h.b.size), h.env.step hb⟩
theorem Rq.last (h : Rq w1 F B g v f qs z gd c R d W) : W.cell? ⟨g, 4, none⟩ = some (.slice (some ⟨gd, 0, none⟩) (qs.length + 1) c) /\ W.cell? ⟨gd, qs.length * 4 + 1, none⟩ = some (.int .i64 z.1.year) /\ W.cell? ⟨gd, qs.length * 4 + 3, none⟩ = some (.slice z.2.1 z.1.calls.length z.2.2) /\
  W.frozen? ⟨gd, qs.length * 4 + 3, none⟩ = false /\ g < W.heap.size /\ gd < W.heap.size /\ w1.heap.size < W.heap.size := by
 obtain ⟨gd', e, h1, h2, h3, h4, h5, _⟩ := h.q.last;cases e;exact ⟨h2, h3, h4, h5, h.q.k.lt, h1, h.kd.lt⟩
end
theorem y4B (F B g b : Nat) (v : Fv) (f : Dd.Fd) (qs : List Dp) (z : Dp) (A : Option Addr) (c : Nat) (R : Nat -> Prop) (ws : List Cs.Bs) (V : World) (hE : Env V) (hz : Wz V b ws) (d : Dd.Dr) (r : List Cs.Bs) (hn : Dd.draftE ws = some (d, r)) (hQ : Dq V F B g v f (qs ++ [z]) A c R) (hbR : ¬ R b) (hFb : F <= b) (h9 : 9 <= b) (h20 : 20 <= z.1.calls.length) :
  Calls Tryz.prog 163 #[.pointer (some ⟨g, 0, none⟩), .pointer (some ⟨b, 0, none⟩)] V fun e V' => e = .panicked [pan 2] /\ But (fun k => k = b) V V' := by
 obtain ⟨gd, rfl, _, _, _, _, _, hm⟩ := hQ.last;have RD := jQ (y0W b ws V hE hz);have HN := jQ hn;have HQ := jQ hQ;have HBR := jQ hbR;have HE := jQ hE;have hll := (hQ.l2 z (by simp)).1;have h20' : z.1.calls.length = 20 := by omega
 have H20 := jQ h20';obtain ⟨m, hmm⟩ := zE (qs.length);have HMM := jQ hmm;rw [hmm] at hm;have hwm : IntKind.i64.wrap ((m : Int) + 1 - 1) = (m : Int) := by rw [IntWalk.i64_in _ (by omega)]; omega
 have hm0 : (0 : Int) <= (m : Int) := Int.natCast_nonneg _;have hm1 : (m : Int) < (m : Int) + 1 := by omega
 have hgt : decide ((m : Int) + 1 > 0) = true := decide_eq_true (by omega);clear hn hE hz hQ hbR hmm h20 h20' hll;go_enter Tryz.func163, Tryz.ntmps163;go_wp2_with fail;refine RD.o.mono ?_;intro e w1 he;obtain ⟨rfl, hb, hz1⟩ := he.some_ HN.o;have HB := jQ hb;have HKN := jQ (Bk.new w1 130 zero17);have S0 := jQ (show Rq w1 F B g v f qs z gd c R d (drw1 w1 d) from ⟨(HQ.o.keep hb (fun k hk => by rw [show k = b from hk]; exact ⟨HBR.o, hFb⟩)).keep (But.of (y0V w1 d) (X := fun _ => False)) (fun k hk => hk.elim), y6v w1 d, y0V w1 d, (HE.o.but1 hb h9).step (y0V w1 d)⟩);obtain ⟨c4, d1, d3, _, hgl, hgd, _⟩ := S0.o.last;have HWD := jQ (show (w1.alloc (.cells zero17 130)).setRow w1.heap.size (drcells d).toArray = drw1 w1 d from rfl);rw [HMM.o] at c4 d1 d3;rw [H20.o] at d3;clear he hb hz1;simp only [zero17] at HKN HWD;go_wp2_with (refine wpList_store_row rfl 130 (.tmp 4) (.tmp 7) rfl w1.heap.size (drcells d).toArray rfl rfl 130 _ HKN.o (by kernel_rfl) rfl (by kernel_rfl) ?_; rw [HWD.o]);refine (y0L _ _).mono ?_;rintro e w2 ⟨rfl, hb2⟩;have S2 := jQ (S0.o.next hb2);clear hb2 c4 d1 d3 hgl hgd S0;obtain ⟨c4, d1, d3, _, hgl, hgd, _⟩ := S2.o.last;rw [HMM.o] at c4 d1 d3;rw [H20.o] at d3;go_wp2_with fail;go_quiet (fail);go_wp2_with fail;refine (y0U _ _).mono ?_;rintro e w3 ⟨rfl, hb3⟩;go_wp2_with fail;exact ⟨rfl, rfl, HB.o.trans (But.of (((y05 S2.o.b nq)).trans (hb3.mono (show w1.heap.size <= (w2.drewN nq).heap.size from S2.o.b.size))))⟩
end

section
open Go.RowKit
theorem Fo.more1 {V Vx V' : World} {B g m : Nat} {f : Dd.Fd} {R : Nat -> Prop} {v : Fv} {n : Cs.Bs × Int} {gn cn : Nat} (h : Fo V B g m f R v) (hn : n.1.length <= 1000000) (hx : Below V.heap.size V Vx)
  (ho : V'.ownsRow B 66 2 (.slice (some ⟨gn, 0, none⟩) (f.st.length + 1) cn) (f.st.length + 1) (scells f.st ++ [.string ⟨n.1.toArray⟩, .int .i64 n.2])) (hg : Vx.grownBy V' (sl v.a1 f.st.length v.c1).ownBlock)
  (hat : (sl v.a1 f.st.length v.c1).ownBlock = some gn ∨ V.heap.size <= gn) :
  ∃ R' v', Fo (V'.setCell ⟨g, 0, none⟩ (.slice (some ⟨gn, 0, none⟩) (f.st.length + 1) cn)) B g (m + 1) { f with st := f.st ++ [n] } R' v' /\ But R V (V'.setCell ⟨g, 0, none⟩ (.slice (some ⟨gn, 0, none⟩) (f.st.length + 1) cn)) /\ ∀ k, R' k -> R k ∨ V.heap.size <= k := by
 have hgB := h.gB;have hle := h.le;have hgz : g < Vx.heap.size := by have := h.k.lt; have := hx.size; omega
 have hB1 : But (fun k => (sl v.a1 f.st.length v.c1).ownBlock = some k) V V' := (But.of hx).trans (But.grown hg);have hne2 : ¬ (sl v.a1 f.st.length v.c1).ownBlock = some g := fun e => by have := y0E h.o1 g e; omega
 have hB2 : But R V (V'.setCell ⟨g, 0, none⟩ (.slice (some ⟨gn, 0, none⟩) (f.st.length + 1) cn)) :=
  (hB1.mono (fun k e => (h.hR k).2 (.inr (.inl e)))).set (p := ⟨g, 0, none⟩) ((h.hR g).2 (.inl rfl)) _
 have own' : ∀ {e z n' : Nat} {u : Value} {xs : List Value}, V.ownsRow B e z u n' xs -> e ≠ 66 -> (V'.setCell ⟨g, 0, none⟩ (.slice (some ⟨gn, 0, none⟩) (f.st.length + 1) cn)).ownsRow B e z u n' xs := fun hu hne =>
  y0S (y0S hu hB1 (fun k hk e2 => y0t hu h.o1 hne k hk e2)) (But.set (X := fun k => k = g) (But.refl _ _) (p := ⟨g, 0, none⟩) rfl _) (fun k hk e => by have := y0E hu k hk; omega)
 refine ⟨_, ⟨some ⟨gn, 0, none⟩, cn, v.a2, v.c2, v.a3, v.c3, v.a4, v.c4⟩, ⟨?_, ?_, own' h.o2 (by decide), own' h.o3 (by decide), own' h.o4 (by decide), fun k => Iff.rfl, hgB, Nat.le_trans hle hB2.size, by have := h.l1; simp; omega, by have := h.l2; simp; omega, by have := h.l3; simp; omega, by have := h.l4; simp; omega, ?_, h.n2, h.n3⟩, hB2, ?_⟩
 ·have hk := (hB1.bk h.k hne2).set 0 (.slice (some ⟨gn, 0, none⟩) (f.st.length + 1) cn);simpa using hk
 ·have hw : scells (f.st ++ [n]) = scells f.st ++ [.string ⟨n.1.toArray⟩, .int .i64 n.2] := by simp [scells, scell, sv]
  have hl : (f.st ++ [n]).length = f.st.length + 1 := by simp
  rw [hw, hl];exact y0S ho (But.set (X := fun k => k = g) (But.refl _ _) (p := ⟨g, 0, none⟩) rfl _) (fun k hk e => by
   have := y0E ho k hk; omega)
 ·intro s hs;rcases List.mem_append.1 hs with hs | hs
  ·exact h.n1 s hs
  rw [List.mem_singleton.1 hs]; exact hn
 intro k hk;rcases hk with e | e | e | e | e
 ·exact .inl ((h.hR k).2 (.inl e))
 ·simp only [sl, Value.ownBlock, Option.some.injEq] at e;subst e;rcases hat with e | e
  ·exact .inl ((h.hR _).2 (.inr (.inl e)))
  exact .inr e
 ·exact .inl ((h.hR k).2 (.inr (.inr (.inl e))))
 ·exact .inl ((h.hR k).2 (.inr (.inr (.inr (.inl e)))))
 exact .inl ((h.hR k).2 (.inr (.inr (.inr (.inr e)))))
theorem Fo.more3 {V Vx V' : World} {B g m : Nat} {f : Dd.Fd} {R : Nat -> Prop} {v : Fv} {n : Dd.Pa} {gn cn : Nat} (h : Fo V B g m f R v) (hn : n.name.length <= 1000000) (hx : Below V.heap.size V Vx)
  (ho : V'.ownsRow B 68 4 (.slice (some ⟨gn, 0, none⟩) (f.pa.length + 1) cn) (f.pa.length + 1) (pcells f.pa ++ [.string ⟨n.name.toArray⟩, .int .i64 n.south, .int .i64 n.west, .int .i64 n.east])) (hg : Vx.grownBy V' (sl v.a3 f.pa.length v.c3).ownBlock)
  (hat : (sl v.a3 f.pa.length v.c3).ownBlock = some gn ∨ V.heap.size <= gn) :
  ∃ R' v', Fo (V'.setCell ⟨g, 2, none⟩ (.slice (some ⟨gn, 0, none⟩) (f.pa.length + 1) cn)) B g (m + 1) { f with pa := f.pa ++ [n] } R' v' /\ But R V (V'.setCell ⟨g, 2, none⟩ (.slice (some ⟨gn, 0, none⟩) (f.pa.length + 1) cn)) /\ ∀ k, R' k -> R k ∨ V.heap.size <= k := by
 have hgB := h.gB;have hle := h.le;have hgz : g < Vx.heap.size := by have := h.k.lt; have := hx.size; omega
 have hB1 : But (fun k => (sl v.a3 f.pa.length v.c3).ownBlock = some k) V V' := (But.of hx).trans (But.grown hg);have hne2 : ¬ (sl v.a3 f.pa.length v.c3).ownBlock = some g := fun e => by have := y0E h.o3 g e; omega
 have hB2 : But R V (V'.setCell ⟨g, 2, none⟩ (.slice (some ⟨gn, 0, none⟩) (f.pa.length + 1) cn)) :=
  (hB1.mono (fun k e => (h.hR k).2 (.inr (.inr (.inr (.inl e)))))).set (p := ⟨g, 2, none⟩) ((h.hR g).2 (.inl rfl)) _
 have own' : ∀ {e z n' : Nat} {u : Value} {xs : List Value}, V.ownsRow B e z u n' xs -> e ≠ 68 -> (V'.setCell ⟨g, 2, none⟩ (.slice (some ⟨gn, 0, none⟩) (f.pa.length + 1) cn)).ownsRow B e z u n' xs := fun hu hne =>
  y0S (y0S hu hB1 (fun k hk e2 => y0t hu h.o3 hne k hk e2)) (But.set (X := fun k => k = g) (But.refl _ _) (p := ⟨g, 2, none⟩) rfl _) (fun k hk e => by have := y0E hu k hk; omega)
 refine ⟨_, ⟨v.a1, v.c1, v.a2, v.c2, some ⟨gn, 0, none⟩, cn, v.a4, v.c4⟩, ⟨?_, own' h.o1 (by decide), own' h.o2 (by decide), ?_, own' h.o4 (by decide), fun k => Iff.rfl, hgB, Nat.le_trans hle hB2.size, by have := h.l1; simp; omega, by have := h.l2; simp; omega, by have := h.l3; simp; omega, by have := h.l4; simp; omega, h.n1, h.n2, ?_⟩, hB2, ?_⟩
 ·have hk := (hB1.bk h.k hne2).set 2 (.slice (some ⟨gn, 0, none⟩) (f.pa.length + 1) cn);simpa using hk
 ·have hw : pcells (f.pa ++ [n]) = pcells f.pa ++ [.string ⟨n.name.toArray⟩, .int .i64 n.south, .int .i64 n.west, .int .i64 n.east] := by simp [pcells, pcell, sv]
  have hl : (f.pa ++ [n]).length = f.pa.length + 1 := by simp
  rw [hw, hl];exact y0S ho (But.set (X := fun k => k = g) (But.refl _ _) (p := ⟨g, 2, none⟩) rfl _) (fun k hk e => by
   have := y0E ho k hk; omega)
 ·intro s hs;rcases List.mem_append.1 hs with hs | hs
  ·exact h.n3 s hs
  rw [List.mem_singleton.1 hs]; exact hn
 intro k hk;rcases hk with e | e | e | e | e
 ·exact .inl ((h.hR k).2 (.inl e))
 ·exact .inl ((h.hR k).2 (.inr (.inl e)))
 ·exact .inl ((h.hR k).2 (.inr (.inr (.inl e))))
 ·simp only [sl, Value.ownBlock, Option.some.injEq] at e;subst e;rcases hat with e | e
  ·exact .inl ((h.hR _).2 (.inr (.inr (.inr (.inl e)))))
  exact .inr e
 exact .inl ((h.hR k).2 (.inr (.inr (.inr (.inr e)))))
theorem Fo.more4 {V Vx V' : World} {B g m : Nat} {f : Dd.Fd} {R : Nat -> Prop} {v : Fv} {n : Int × Int} {gn cn : Nat} (h : Fo V B g m f R v) (hx : Below V.heap.size V Vx)
  (ho : V'.ownsRow B 116 2 (.slice (some ⟨gn, 0, none⟩) (f.va.length + 1) cn) (f.va.length + 1) (vcells f.va ++ [.int .i64 n.1, .int .i64 n.2])) (hg : Vx.grownBy V' (sl v.a4 f.va.length v.c4).ownBlock)
  (hat : (sl v.a4 f.va.length v.c4).ownBlock = some gn ∨ V.heap.size <= gn) :
  ∃ R' v', Fo (V'.setCell ⟨g, 3, none⟩ (.slice (some ⟨gn, 0, none⟩) (f.va.length + 1) cn)) B g (m + 1) { f with va := f.va ++ [n] } R' v' /\ But R V (V'.setCell ⟨g, 3, none⟩ (.slice (some ⟨gn, 0, none⟩) (f.va.length + 1) cn)) /\ ∀ k, R' k -> R k ∨ V.heap.size <= k := by
 have hgB := h.gB;have hle := h.le;have hgz : g < Vx.heap.size := by have := h.k.lt; have := hx.size; omega
 have hB1 : But (fun k => (sl v.a4 f.va.length v.c4).ownBlock = some k) V V' := (But.of hx).trans (But.grown hg);have hne2 : ¬ (sl v.a4 f.va.length v.c4).ownBlock = some g := fun e => by have := y0E h.o4 g e; omega
 have hB2 : But R V (V'.setCell ⟨g, 3, none⟩ (.slice (some ⟨gn, 0, none⟩) (f.va.length + 1) cn)) :=
  (hB1.mono (fun k e => (h.hR k).2 (.inr (.inr (.inr (.inr e)))))).set (p := ⟨g, 3, none⟩) ((h.hR g).2 (.inl rfl)) _
 have own' : ∀ {e z n' : Nat} {u : Value} {xs : List Value}, V.ownsRow B e z u n' xs -> e ≠ 116 -> (V'.setCell ⟨g, 3, none⟩ (.slice (some ⟨gn, 0, none⟩) (f.va.length + 1) cn)).ownsRow B e z u n' xs := fun hu hne =>
  y0S (y0S hu hB1 (fun k hk e2 => y0t hu h.o4 hne k hk e2)) (But.set (X := fun k => k = g) (But.refl _ _) (p := ⟨g, 3, none⟩) rfl _) (fun k hk e => by have := y0E hu k hk; omega)
 refine ⟨_, ⟨v.a1, v.c1, v.a2, v.c2, v.a3, v.c3, some ⟨gn, 0, none⟩, cn⟩, ⟨?_, own' h.o1 (by decide), own' h.o2 (by decide), own' h.o3 (by decide), ?_, fun k => Iff.rfl, hgB, Nat.le_trans hle hB2.size, by have := h.l1; simp; omega, by have := h.l2; simp; omega, by have := h.l3; simp; omega, by have := h.l4; simp; omega, h.n1, h.n2, h.n3⟩, hB2, ?_⟩
 ·have hk := (hB1.bk h.k hne2).set 3 (.slice (some ⟨gn, 0, none⟩) (f.va.length + 1) cn);simpa using hk
 ·have hw : vcells (f.va ++ [n]) = vcells f.va ++ [.int .i64 n.1, .int .i64 n.2] := by simp [vcells, vcell]
  have hl : (f.va ++ [n]).length = f.va.length + 1 := by simp
  rw [hw, hl];exact y0S ho (But.set (X := fun k => k = g) (But.refl _ _) (p := ⟨g, 3, none⟩) rfl _) (fun k hk e => by
   have := y0E ho k hk; omega)
 intro k hk;rcases hk with e | e | e | e | e
 ·exact .inl ((h.hR k).2 (.inl e))
 ·exact .inl ((h.hR k).2 (.inr (.inl e)))
 ·exact .inl ((h.hR k).2 (.inr (.inr (.inl e))))
 ·exact .inl ((h.hR k).2 (.inr (.inr (.inr (.inl e)))))
 simp only [sl, Value.ownBlock, Option.some.injEq] at e;subst e;rcases hat with e | e
 ·exact .inl ((h.hR _).2 (.inr (.inr (.inr (.inr e)))))
 exact .inr e
theorem yCK : (Tryz.prog.info? 9).map (fun i => (i.zero, i.size, i.bytes)) = some (some (.string ⟨#[]⟩), 1, 16) := by kernel_rfl
def Fs2 (r : Int × Dd.Fd) (B g m b : Nat) (R : Nat -> Prop) (V : World) (e : Ending) (V' : World) : Prop :=
 But (fun k => k = b ∨ R k) V V' /\ ((r.1 = 0 /\ e = .returned (.tuple #[]) /\ ∃ R' v', Fo V' B g (m + 1) r.2 R' v' /\ ∀ k, R' k -> R k ∨ V.heap.size <= k) ∨ (r.1 ≠ 0 /\ e = .panicked [pan r.1]))
theorem Fs2.no {r : Int × Dd.Fd} {B g m b : Nat} {R : Nat -> Prop} {V V' : World} {n : Int} (hr : r.1 = n) (hn : n ≠ 0) (hb : But (fun k => k = b) V V') : Fs2 r B g m b R V (.panicked [pan n]) V' :=
 ⟨hb.mono (fun k h => .inl h), .inr ⟨by rw [hr]; exact hn, by rw [hr]⟩⟩
theorem Dd.yCr (f : Dd.Fd) (ws : List Cs.Bs) : Dd.limitL f ws = match Dd.nameW ws with | none => (4, f) | some p => match Dd.endW p.2 with | none => (4, f) | some _ => (0, { f with li := f.li ++ [p.1] }) := by
 rcases ws with _ | ⟨n, _ | ⟨y, r⟩⟩
 ·rfl
 ·rcases hn : Dd.nameF n <;> simp [Dd.limitL, Dd.nameW, Dd.endW, hn]
 rcases hn : Dd.nameF n <;> simp [Dd.limitL, Dd.nameW, Dd.endW, hn]
theorem y5M (B g m b : Nat) (f : Dd.Fd) (R : Nat -> Prop) (v : Fv) (ws : List Cs.Bs) (V : World) (hm : m <= 1000000) (hz : Wz V b ws) (hF : Fo V B g m f R v) (hbR : ¬ R b) (hbg : g < b) :
  Calls Tryz.prog 145 #[.pointer (some ⟨b, 0, none⟩), .pointer (some ⟨g, 0, none⟩)] V (Fs2 (Dd.limitL f ws) B g m b R V) := by
 obtain ⟨i0, hi0, hz0, hz1, hz2⟩ := info_parts yCK;have HM := jQ (Dd.yCr f ws);have HZ := jQ hz;have HF := jQ hF;have HB := jQ hbR;obtain ⟨RR, hRR⟩ := zE (Dd.limitL f ws);rw [hRR] at HM ⊢;clear hz hF hbR hRR;go_enter Tryz.func145, Tryz.ntmps145;go_wp2_with fail;rcases hs : Dd.nameW ws with _ | ⟨n, r⟩
 ·have HX := jQ (show RR.1 = 4 by rw [HM.o, hs]);have HS := jQ hs;clear hs;refine (y04 b ws _ HZ.o).mono ?_;intro e w1 he;obtain ⟨rfl, hb⟩ := he.none_ HS.o;clear he;go_wp2_with fail;exact ⟨rfl, Fs2.no HX.o (by decide) hb⟩
 have hnl : n.length <= 1000000 := by
  rcases ws with _ | ⟨x, r'⟩
  ·cases hs
  rw [Dd.nameW] at hs;split at hs
  ·simp only [Option.some.injEq, Prod.mk.injEq] at hs;rw [<- hs.1];exact HZ.o.hl x List.mem_cons_self
  cases hs
 have HS := jQ hs;have HNL := jQ hnl;clear hs hnl;refine (y04 b ws _ HZ.o).mono ?_;intro e w1 he;obtain ⟨rfl, hb, hz1'⟩ := he.some_ HS.o;have HB1 := jQ hb;have HZ1 := jQ hz1';have HF1 := jQ (HF.o.keep hb (fun k hk => by rw [show k = b from hk]; exact HB.o));clear he hb hz1';simp only [y06];go_wp2_with fail;rcases hs : Dd.endW r with _ | ⟨u, r3⟩
 ·have HX := jQ (show RR.1 = 4 by rw [HM.o, HS.o]; simp only []; rw [hs]);have HS2 := jQ hs;clear hs;refine (y0o b r _ HZ1.o).mono ?_;intro e w2 he;obtain ⟨rfl, hb⟩ := he.none_ HS2.o;clear he;go_wp2_with fail;exact ⟨rfl, Fs2.no HX.o (by decide) (HB1.o.trans hb)⟩
 have HX := jQ (show RR = (0, { f with li := f.li ++ [n] }) by rw [HM.o, HS.o]; simp only []; rw [hs]);have HS2 := jQ hs;clear hs;refine (y0o b r _ HZ1.o).mono ?_;intro e w2 he;obtain ⟨rfl, hb, _⟩ := he.some_ HS2.o;have HB2 := jQ (HB1.o.trans hb);have hF2 := HF1.o.keep hb (fun k hk => by rw [show k = b from hk]; exact HB.o);have HF2 := jQ hF2;have c1 := (hF2.k.cell 1).trans rfl;have hl2 := hF2.l2;have hle := hF2.le;have ho := hF2.o2;have hlt := hF2.k.lt;have hgB := hF2.gB;have HK2 := jQ hF2.k;have HNG := jQ (show ¬ (Value.slice v.a2 f.li.length v.c2).ownBlock = some g from fun e => by have := y0E hF2.o2 g e; omega);clear he hb hF2;simp only [uv, y6T] at ho ⊢;go_wp2_with (refine wpList_append_lies _ rfl (.tmp 13) (.tmp 15) 23 rfl B 9 i0 _ 1 16 Tryz.underlying23 hi0 hz0 hz1 hz2 rfl (by omega) (.slice v.a2 f.li.length v.c2) f.li.length (wcells f.li) rfl (ho.alloc _) ⟨w2.heap.size, 0, none⟩ 1 1 [.string ⟨n.toArray⟩] rfl rfl (World.news_of_block (cs := #[.string ⟨n.toArray⟩]) (t := 9) (fr := (0, 0)) (World.alloc_heap_new w2 _)) (by simp [Value.oneCell']) (by omega) (by unfold maxLen; omega) (by omega) (by simp; omega) (w2.heap.size + 1) (by simp) ?_; intro gn cn w4 hown hgrow hat hlt4; have hk4 := (But.grown hgrow).bk (HK2.o.alloc _) HNG.o; have q1 := (hk4.cell 1).trans rfl; have q2 := hk4.frozen 1; have q3 := hk4.lt);obtain ⟨R', v', h1, h2, h3⟩ := HF2.o.more2 HNL.o ((Below.refl _ _).alloc (Nat.le_refl _) _) hown hgrow (by rcases hat with e | e; exact .inl e; exact .inr (by omega))
 go_end0
 have hb2 := HB2.o;refine ⟨(hb2.mono (fun k h => .inl h)).trans (h2.mono (fun k h => .inr h)), .inl ⟨by rw [HX.o], rfl, R', v', by rw [HX.o]; exact h1, fun k hk => ?_⟩⟩;rcases h3 k hk with e | e
 ·exact .inl e
 exact .inr (Nat.le_trans hb2.size e)
theorem Bk.drewB' {w : World} {g : Nat} {t : TypeId} {cs : Array Value} (h : Bk w g t cs) : Bk w.drew g t cs := h
theorem Dd.yBZ (f : Dd.Fd) (ws : List Cs.Bs) : Dd.stationL f ws = match Dd.nameW ws with | none => (4, f) | some p => match Dd.nnW p.2 with | none => (4, f) | some q => match Dd.endW q.2 with | none => (4, f) | some _ => (0, { f with st := f.st ++ [(p.1, q.1)] }) := by
 rcases ws with _ | ⟨n, _ | ⟨y, _ | ⟨z, r⟩⟩⟩
 ·rfl
 ·rcases hn : Dd.nameF n <;> simp [Dd.stationL, Dd.nameW, Dd.nnW, hn]
 ·rcases hn : Dd.nameF n <;> rcases hy : Dd.nnF y <;> simp [Dd.stationL, Dd.nameW, Dd.nnW, Dd.endW, hn, hy]
 rcases hn : Dd.nameF n <;> rcases hy : Dd.nnF y <;> simp [Dd.stationL, Dd.nameW, Dd.nnW, Dd.endW, hn, hy]
theorem Dd.y99 (f : Dd.Fd) (ws : List Cs.Bs) : Dd.variationL f ws = match Dd.nnW ws with | none => (4, f) | some p => match Dd.sgnW p.2 with | none => (4, f) | some q => match Dd.endW q.2 with | none => (4, f) | some _ => (0, { f with va := f.va ++ [(p.1, q.1)] }) := by
 rcases ws with _ | ⟨n, _ | ⟨y, _ | ⟨z, r⟩⟩⟩
 ·rfl
 ·rcases hn : Dd.nnF n <;> simp [Dd.variationL, Dd.sgnW, Dd.nnW, hn]
 ·rcases hn : Dd.nnF n <;> rcases hy : Dd.sgnF y <;> simp [Dd.variationL, Dd.sgnW, Dd.nnW, Dd.endW, hn, hy]
 rcases hn : Dd.nnF n <;> rcases hy : Dd.sgnF y <;> simp [Dd.variationL, Dd.sgnW, Dd.nnW, Dd.endW, hn, hy]
theorem yCo : (Tryz.prog.info? 66).map (fun i => (i.zero, i.size, i.bytes)) = some (some (.agg #[.string ⟨#[]⟩, .int .i64 0]), 2, 24) := by kernel_rfl
theorem yCp : (Tryz.prog.info? 116).map (fun i => (i.zero, i.size, i.bytes)) = some (some (.agg #[.int .i64 0, .int .i64 0]), 2, 16) := by kernel_rfl
theorem y3T (B g m b : Nat) (f : Dd.Fd) (R : Nat -> Prop) (v : Fv) (ws : List Cs.Bs) (V : World) (hm : m <= 1000000) (hE : Env V) (hz : Wz V b ws) (hF : Fo V B g m f R v) (hbR : ¬ R b) (hbg : g < b) :
  Calls Tryz.prog 144 #[.pointer (some ⟨b, 0, none⟩), .pointer (some ⟨g, 0, none⟩)] V (Fs2 (Dd.stationL f ws) B g m b R V) := by
 obtain ⟨i0, hi0, hz0, hz1, hz2⟩ := info_parts yCo;have h9 := hz.g9;have HM := jQ (Dd.yBZ f ws);have HZ := jQ hz;have HF := jQ hF;have HE := jQ hE;have HB := jQ hbR;obtain ⟨RR, hRR⟩ := zE (Dd.stationL f ws);rw [hRR] at HM ⊢;clear hz hF hbR hRR hE;go_enter Tryz.func144, Tryz.ntmps144;go_wp2_with fail;rcases hs : Dd.nameW ws with _ | ⟨x1, r1⟩
 ·have HX := jQ (show RR.1 = 4 by rw [HM.o, hs]);have HS := jQ hs;clear hs;refine (y04 b ws _ HZ.o).mono ?_;intro e w1 he;obtain ⟨rfl, hb⟩ := he.none_ HS.o;clear he;go_wp2_with fail;exact ⟨rfl, Fs2.no HX.o (by decide) hb⟩
 have hnl : x1.length <= 1000000 := by
  rcases ws with _ | ⟨x, r'⟩
  ·cases hs
  rw [Dd.nameW] at hs;split at hs
  ·simp only [Option.some.injEq, Prod.mk.injEq] at hs;rw [<- hs.1];exact HZ.o.hl x List.mem_cons_self
  cases hs
 have HNL := jQ hnl;clear hnl;have HS := jQ hs;clear hs;refine (y04 b ws _ HZ.o).mono ?_;intro e w1 he;obtain ⟨rfl, hb, hz1'⟩ := he.some_ HS.o;have HB1 := jQ hb;have HZ1 := jQ hz1';have HE1 := jQ (HE.o.but1 hb h9);have HF1 := jQ (HF.o.keep hb (fun k hk => by rw [show k = b from hk]; exact HB.o));clear he hb hz1';simp only [y06];go_wp2_with fail;rcases hs : Dd.nnW r1 with _ | ⟨x2, r2⟩
 ·have HX := jQ (show RR.1 = 4 by rw [HM.o, HS.o]; simp only []; rw [hs]);have HS2 := jQ hs;clear hs;refine (y0C b r1 _ HE1.o HZ1.o).mono ?_;intro e w2 he;obtain ⟨rfl, hb⟩ := he.none_ HS2.o;clear he;go_wp2_with fail;exact ⟨rfl, Fs2.no HX.o (by decide) (HB1.o.trans hb)⟩
 have HS2 := jQ hs;clear hs;refine (y0C b r1 _ HE1.o HZ1.o).mono ?_;intro e w2 he;obtain ⟨rfl, hb, hz2'⟩ := he.some_ HS2.o;have hbl := hz2'.lt;have hbn := (Below.refl w2.heap.size w2).alloc (Nat.le_refl _) (.cells #[.string ⟨x1.toArray⟩, .int .i64 x2] 66);have HB2 := jQ ((HB1.o.trans hb).trans (But.of hbn));have HZ2 := jQ (hz2'.below hbn);have HF2 := jQ ((HF1.o.keep hb (fun k hk => by rw [show k = b from hk]; exact HB.o)).keep (X := fun _ => False) (But.of hbn) (fun k hk => hk.elim));have HK2 := jQ (Bk.new w2 66 #[.string ⟨x1.toArray⟩, .int .i64 x2]);have hnb : ¬ w2.heap.size = b := by omega
 clear he hb hz2' hbl hbn;simp only [zv];go_wp2_with fail;rcases hs : Dd.endW r2 with _ | ⟨u, r3⟩
 ·have HX := jQ (show RR.1 = 4 by rw [HM.o, HS.o]; simp only []; rw [HS2.o]; simp only []; rw [hs]);have HS3 := jQ hs;clear hs;refine (y0o b r2 _ HZ2.o).mono ?_;intro e w3 he;obtain ⟨rfl, hb⟩ := he.none_ HS3.o;clear he;go_wp2_with fail;exact ⟨rfl, Fs2.no HX.o (by decide) (HB2.o.trans hb)⟩
 have HX := jQ (show RR = (0, { f with st := f.st ++ [(x1, x2)] }) by rw [HM.o, HS.o]; simp only []; rw [HS2.o]; simp only []; rw [hs]);have HS3 := jQ hs;clear hs;refine (y0o b r2 _ HZ2.o).mono ?_;intro e w3 he;obtain ⟨rfl, hb, _⟩ := he.some_ HS3.o;have HB3 := jQ (HB2.o.trans hb);have hF3 := HF2.o.keep hb (fun k hk => by rw [show k = b from hk]; exact HB.o);have hk3 := hb.bk HK2.o hnb;have HF3 := jQ hF3;have c1 := (hF3.k.cell 0).trans rfl;have y0 := (hk3.cell 0).trans rfl;have y1 := (hk3.cell 1).trans rfl;have hl2 := hF3.l1;have hle := hF3.le;have ho := hF3.o1;have hlt := hF3.k.lt;have hgB := hF3.gB;have HK3 := jQ hF3.k;have hcw : ∀ o, (w3.alloc o).cell? ⟨g, 0, none⟩ = some (.slice v.a1 f.st.length v.c1) := fun o => (World.cell?_of_block (Below.heap_alloc _ _ _ hlt)).trans c1;have HNG := jQ (show ¬ (Value.slice v.a1 f.st.length v.c1).ownBlock = some g from fun e => by have := y0E hF3.o1 g e; omega);clear he hb hF3 hk3;simp only [uv, y6T] at ho ⊢;go_upto_region 2 with fail
 go_region_law (refine step_append_lies _ (by rfl) _ _ _ (by rfl) B 66 i0 _ 2 24 Tryz.underlying22 hi0 hz0 hz1 hz2 rfl (by omega) (.slice v.a1 f.st.length v.c1) f.st.length (scells f.st) (by rfl) ((ho.alloc _).drew) ⟨w3.heap.size, 0, none⟩ 1 1 [.string ⟨x1.toArray⟩, .int .i64 x2] (by rfl) (by rfl) (World.news_of_block (cs := #[.string ⟨x1.toArray⟩, .int .i64 x2]) (t := 66) (fr := (0, 0)) (World.alloc_heap_new w3 _)) (by simp [Value.oneCell']) (by omega) (by unfold maxLen; omega) (by omega) (by simp; omega) (w3.heap.size + 1) (by simp) ?_; intro gn cn w4 hown hgrow hat hlt4; have hk4 := (But.grown hgrow).bk ((HK3.o.alloc (.cells #[.string ⟨x1.toArray⟩, .int .i64 x2] 66)).drewB') HNG.o; have q1 := (hk4.cell 0).trans rfl; have q2 := hk4.frozen 0; have q3 := hk4.lt)
 all_goals
  obtain ⟨R', v', h1, h2, h3⟩ := HF3.o.more1 (n := (x1, x2)) HNL.o (((Below.refl w3.heap.size w3).alloc (Nat.le_refl _) (.cells #[.string ⟨x1.toArray⟩, .int .i64 x2] 66)).drew) hown hgrow (by rcases hat with e | e; exact .inl e; exact .inr (by omega));have H1 := jQ h1;have H2 := jQ h2;have H3 := jQ h3;clear h1 h2 h3 hk4 hown hgrow hat hlt4;go_wp2_with fail
  go_end0
  have hb3 := HB3.o;refine ⟨(hb3.mono (fun k h => .inl h)).trans (H2.o.mono (fun k h => .inr h)), .inl ⟨by rw [HX.o], rfl, R', v', by rw [HX.o]; exact H1.o, fun k hk => ?_⟩⟩;rcases H3.o k hk with e | e
  ·exact .inl e
  exact .inr (Nat.le_trans hb3.size e)
theorem y2b (B g m b : Nat) (f : Dd.Fd) (R : Nat -> Prop) (v : Fv) (ws : List Cs.Bs) (V : World) (hm : m <= 1000000) (hE : Env V) (hz : Wz V b ws) (hF : Fo V B g m f R v) (hbR : ¬ R b) (hbg : g < b) :
  Calls Tryz.prog 147 #[.pointer (some ⟨b, 0, none⟩), .pointer (some ⟨g, 0, none⟩)] V (Fs2 (Dd.variationL f ws) B g m b R V) := by
 obtain ⟨i0, hi0, hz0, hz1, hz2⟩ := info_parts yCp;have h9 := hz.g9;have HM := jQ (Dd.y99 f ws);have HZ := jQ hz;have HF := jQ hF;have HE := jQ hE;have HB := jQ hbR;obtain ⟨RR, hRR⟩ := zE (Dd.variationL f ws);rw [hRR] at HM ⊢;clear hz hF hbR hRR hE;go_enter Tryz.func147, Tryz.ntmps147;go_wp2_with fail;rcases hs : Dd.nnW ws with _ | ⟨x1, r1⟩
 ·have HX := jQ (show RR.1 = 4 by rw [HM.o, hs]);have HS := jQ hs;clear hs;refine (y0C b ws _ HE.o HZ.o).mono ?_;intro e w1 he;obtain ⟨rfl, hb⟩ := he.none_ HS.o;clear he;go_wp2_with fail;exact ⟨rfl, Fs2.no HX.o (by decide) hb⟩
 have HS := jQ hs;clear hs;refine (y0C b ws _ HE.o HZ.o).mono ?_;intro e w1 he;obtain ⟨rfl, hb, hz1'⟩ := he.some_ HS.o;have HB1 := jQ hb;have HZ1 := jQ hz1';have HE1 := jQ (HE.o.but1 hb h9);have HF1 := jQ (HF.o.keep hb (fun k hk => by rw [show k = b from hk]; exact HB.o));clear he hb hz1';simp only [zv];go_wp2_with fail;rcases hs : Dd.sgnW r1 with _ | ⟨x2, r2⟩
 ·have HX := jQ (show RR.1 = 4 by rw [HM.o, HS.o]; simp only []; rw [hs]);have HS2 := jQ hs;clear hs;refine (y0q b r1 _ HE1.o HZ1.o).mono ?_;intro e w2 he;obtain ⟨rfl, hb⟩ := he.none_ HS2.o;clear he;go_wp2_with fail;exact ⟨rfl, Fs2.no HX.o (by decide) (HB1.o.trans hb)⟩
 have HS2 := jQ hs;clear hs;refine (y0q b r1 _ HE1.o HZ1.o).mono ?_;intro e w2 he;obtain ⟨rfl, hb, hz2'⟩ := he.some_ HS2.o;have hbl := hz2'.lt;have hbn := (Below.refl w2.heap.size w2).alloc (Nat.le_refl _) (.cells #[.int .i64 x1, .int .i64 x2] 116);have HB2 := jQ ((HB1.o.trans hb).trans (But.of hbn));have HZ2 := jQ (hz2'.below hbn);have HF2 := jQ ((HF1.o.keep hb (fun k hk => by rw [show k = b from hk]; exact HB.o)).keep (X := fun _ => False) (But.of hbn) (fun k hk => hk.elim));have HK2 := jQ (Bk.new w2 116 #[.int .i64 x1, .int .i64 x2]);have hnb : ¬ w2.heap.size = b := by omega
 clear he hb hz2' hbl hbn;simp only [zv];go_wp2_with fail;rcases hs : Dd.endW r2 with _ | ⟨u, r3⟩
 ·have HX := jQ (show RR.1 = 4 by rw [HM.o, HS.o]; simp only []; rw [HS2.o]; simp only []; rw [hs]);have HS3 := jQ hs;clear hs;refine (y0o b r2 _ HZ2.o).mono ?_;intro e w3 he;obtain ⟨rfl, hb⟩ := he.none_ HS3.o;clear he;go_wp2_with fail;exact ⟨rfl, Fs2.no HX.o (by decide) (HB2.o.trans hb)⟩
 have HX := jQ (show RR = (0, { f with va := f.va ++ [(x1, x2)] }) by rw [HM.o, HS.o]; simp only []; rw [HS2.o]; simp only []; rw [hs]);have HS3 := jQ hs;clear hs;refine (y0o b r2 _ HZ2.o).mono ?_;intro e w3 he;obtain ⟨rfl, hb, _⟩ := he.some_ HS3.o;have HB3 := jQ (HB2.o.trans hb);have hF3 := HF2.o.keep hb (fun k hk => by rw [show k = b from hk]; exact HB.o);have hk3 := hb.bk HK2.o hnb;have HF3 := jQ hF3;have c1 := (hF3.k.cell 3).trans rfl;have y0 := (hk3.cell 0).trans rfl;have y1 := (hk3.cell 1).trans rfl;have hl2 := hF3.l4;have hle := hF3.le;have ho := hF3.o4;have hlt := hF3.k.lt;have hgB := hF3.gB;have HK3 := jQ hF3.k;have hcw : ∀ o, (w3.alloc o).cell? ⟨g, 3, none⟩ = some (.slice v.a4 f.va.length v.c4) := fun o => (World.cell?_of_block (Below.heap_alloc _ _ _ hlt)).trans c1;have HNG := jQ (show ¬ (Value.slice v.a4 f.va.length v.c4).ownBlock = some g from fun e => by have := y0E hF3.o4 g e; omega);clear he hb hF3 hk3;simp only [uv, y6T] at ho ⊢;go_upto_region 2 with fail
 go_region_law (refine step_append_lies _ (by rfl) _ _ _ (by rfl) B 116 i0 _ 2 16 Tryz.underlying25 hi0 hz0 hz1 hz2 rfl (by omega) (.slice v.a4 f.va.length v.c4) f.va.length (vcells f.va) (by rfl) ((ho.alloc _).drew) ⟨w3.heap.size, 0, none⟩ 1 1 [.int .i64 x1, .int .i64 x2] (by rfl) (by rfl) (World.news_of_block (cs := #[.int .i64 x1, .int .i64 x2]) (t := 116) (fr := (0, 0)) (World.alloc_heap_new w3 _)) (by simp [Value.oneCell']) (by omega) (by unfold maxLen; omega) (by omega) (by simp; omega) (w3.heap.size + 1) (by simp) ?_; intro gn cn w4 hown hgrow hat hlt4; have hk4 := (But.grown hgrow).bk ((HK3.o.alloc (.cells #[.int .i64 x1, .int .i64 x2] 116)).drewB') HNG.o; have q1 := (hk4.cell 3).trans rfl; have q2 := hk4.frozen 3; have q3 := hk4.lt)
 all_goals
  obtain ⟨R', v', h1, h2, h3⟩ := HF3.o.more4 (n := (x1, x2)) (((Below.refl w3.heap.size w3).alloc (Nat.le_refl _) (.cells #[.int .i64 x1, .int .i64 x2] 116)).drew) hown hgrow (by rcases hat with e | e; exact .inl e; exact .inr (by omega));have H1 := jQ h1;have H2 := jQ h2;have H3 := jQ h3;clear h1 h2 h3 hk4 hown hgrow hat hlt4;go_wp2_with fail
  go_end0
  have hb3 := HB3.o;refine ⟨(hb3.mono (fun k h => .inl h)).trans (H2.o.mono (fun k h => .inr h)), .inl ⟨by rw [HX.o], rfl, R', v', by rw [HX.o]; exact H1.o, fun k hk => ?_⟩⟩;rcases H3.o k hk with e | e
  ·exact .inl e
  exact .inr (Nat.le_trans hb3.size e)
end
end Go.Proofs.YtccikcpcfdjobaaGreatDoor
