/-
  What the claims of layer deed need of the texts DSme.
-/
import Derived.Great.BuildSlice
import Derived.Great.FillDense
import Derived.Test.YtcbeefbefapicaaGreatDoorBn30
import Derived.Test.YtcbeefbefapicaaGreatDoorBn42
import Derived.Test.YtcbeefbefapicaaGreatDoorBn16
import Derived.Test.YtcbeefbefapicaaGreatDoorBn37
set_option linter.unusedVariables false
set_option linter.unusedSimpArgs false
namespace Go.Proofs.YtcbeefbefapicaaGreatDoor
open Go.RowKit
set_option maxRecDepth 100000
theorem wpList_build13 {P : Program} {w : World} {ops : Array Oper} {rest : List Oper} {o : Oper} {a : Act} {Q : Exit → Act → World → Prop} (hg : o.guard = none) (t e : TypeId) (x y : Operand) (ho : o.op = .buildSlice t 2 #[(0, x), (1, y)])
  (ie : TypeInfo) (z : Value) (hu : P.underlying t = some (.slice e)) (hie : P.info? e = some ie) (hz : ie.zero = some z) (hs : ie.size = 13) (c d : List Value) (hc : c.length = 13) (hd : d.length = 13) (hx : a.eval x = .agg c.toArray) (hy : a.eval y = .agg d.toArray)
  (h : wpList P ops Q rest (a.put o.dst (.slice (some ⟨w.heap.size, 0, none⟩) 2 2)) (w.alloc (.cells (c ++ d).toArray e))) : wpList P ops Q (o :: rest) a w := by
 refine Go.wpList_buildSlice hg t e 2 #[(0, x), (1, y)] ho (c ++ d).toArray ie z hu hie hz (by rw [hs]; decide) (by rw [hs]; decide) ?_ h
 have h1 : (Value.agg c.toArray).cells.size = 13 := by show c.toArray.size = 13; simpa using hc
 have h2 : (Value.agg d.toArray).cells.size = 13 := by show d.toArray.size = 13; simpa using hd
 have := Go.Great.fill_whole (s := 13) (by decide) [Value.agg c.toArray, Value.agg d.toArray] ((Array.range (2 * ie.size)).map (z.cells[· % z.cells.size]!)) (fun v hv => by
  simp only [List.mem_cons, List.not_mem_nil, or_false] at hv
  rcases hv with rfl | rfl
  ·exact h1
  ·exact h2) (by simp [hs])
 simp only [hs] at this ⊢
 simp only [List.map_toArray, List.map_cons, List.map_nil, hx, hy]
 rw [show ([(0, Value.agg c.toArray), (1, Value.agg d.toArray)] : List (Nat × Value)) = (([Value.agg c.toArray, Value.agg d.toArray].zipIdx 0).map fun x => (x.2, x.1)) from rfl, this]
 simp [Value.cells]
theorem wpAnyH_cutW {P : Program} {md : Region.Mode} {ops : Array Oper} {Q : Exit → Act → World → Prop} {S : World → Prop} {fuel : Nat} {listed : Array Bool} {a : Act} {W : World} (S' : World → Prop) (h : S' W) (k : ∀ W', S' W' → wpAnyH P md ops Q S fuel listed a W') : wpAnyH P md ops Q S fuel listed a W := k W h
structure Sm (w : World) (v : Fv) (f : Dd.Fd) (a b : Dd.Ca) (W : World) : Prop where
 bl : Below w.heap.size w W
 kF : Bk W w.heap.size 27 #[.slice v.a1 f.st.length v.c1, .slice v.a2 f.li.length v.c2, .slice v.a3 f.pa.length v.c3, .slice v.a4 f.va.length v.c4]
 kA : Bk W (w.heap.size + 1) 42 #[.int .u8 a.k, .int .i64 a.l, .int .i64 a.o, .int .i64 a.a, .int .i64 a.b, .int .i64 a.s, .int .i64 a.e, .int .i64 a.c.b, .int .i64 a.c.n, .int .i64 a.c.l, .int .i64 a.c.y, .int .i64 a.c.w, .int .i64 a.c.s]
 kB : Bk W (w.heap.size + 1 + 1) 42 #[.int .u8 b.k, .int .i64 b.l, .int .i64 b.o, .int .i64 b.a, .int .i64 b.b, .int .i64 b.s, .int .i64 b.e, .int .i64 b.c.b, .int .i64 b.c.n, .int .i64 b.c.l, .int .i64 b.c.y, .int .i64 b.c.w, .int .i64 b.c.s]
 r : FRd W w.heap.size v f
 sn : Sn W
 g0 : 5 < w.heap.size
section
variable {w W W' : World} {v : Fv} {f : Dd.Fd} {a b : Dd.Ca}
theorem Sm.next (h : Sm w v f a b W) (hb : Below W.heap.size W W') : Sm w v f a b W' :=
 ⟨h.bl.trans (hb.mono h.bl.size), h.kF.below hb h.kF.lt, h.kA.below hb h.kA.lt, h.kB.below hb h.kB.lt, h.r.below hb h.bl.size, h.sn.step hb, h.g0⟩
theorem Sm.far (h : Sm w v f a b W) {g : Nat} (hg : w.heap.size + 1 + 1 < g) (u : Value) : Sm w v f a b (W.setCell ⟨g, 0, none⟩ u) :=
 have hb : Below w.heap.size W (W.setCell ⟨g, 0, none⟩ u) := (Below.refl _ _).setCell (p := ⟨g, 0, none⟩) (by simp; omega) u
 ⟨h.bl.trans hb, h.kF.far (show w.heap.size ≠ g by omega) u, h.kA.far (show w.heap.size + 1 ≠ g by omega) u, h.kB.far (show w.heap.size + 1 + 1 ≠ g by omega) u, h.r.below hb (Nat.le_refl _), h.sn.below hb h.g0, h.g0⟩
theorem Sm.rd (h : Sm w v f a b W) : FRd W W.heap.size v f := h.r.more h.bl.size
theorem Sm.new (hF : FRd w w.heap.size v f) (hS : Sn w) : Sm w v f a b (((w.alloc (.cells #[.slice v.a1 f.st.length v.c1, .slice v.a2 f.li.length v.c2, .slice v.a3 f.pa.length v.c3, .slice v.a4 f.va.length v.c4] 27)).alloc (.cells #[.int .u8 a.k, .int .i64 a.l, .int .i64 a.o, .int .i64 a.a, .int .i64 a.b, .int .i64 a.s, .int .i64 a.e, .int .i64 a.c.b, .int .i64 a.c.n, .int .i64 a.c.l, .int .i64 a.c.y, .int .i64 a.c.w, .int .i64 a.c.s] 42)).alloc (.cells #[.int .u8 b.k, .int .i64 b.l, .int .i64 b.o, .int .i64 b.a, .int .i64 b.b, .int .i64 b.s, .int .i64 b.e, .int .i64 b.c.b, .int .i64 b.c.n, .int .i64 b.c.l, .int .i64 b.c.y, .int .i64 b.c.w, .int .i64 b.c.s] 42)) := by
 have h := Ck.new (x := a) hF hS
 obtain ⟨w1, h1⟩ : ∃ w1, ((w.alloc (.cells #[.slice v.a1 f.st.length v.c1, .slice v.a2 f.li.length v.c2, .slice v.a3 f.pa.length v.c3, .slice v.a4 f.va.length v.c4] 27)).alloc (.cells #[.int .u8 a.k, .int .i64 a.l, .int .i64 a.o, .int .i64 a.a, .int .i64 a.b, .int .i64 a.s, .int .i64 a.e, .int .i64 a.c.b, .int .i64 a.c.n, .int .i64 a.c.l, .int .i64 a.c.y, .int .i64 a.c.w, .int .i64 a.c.s] 42)) = w1 := ⟨_, rfl⟩
 have z1 : w1.heap.size = w.heap.size + 1 + 1 := by rw [← h1]; simp
 rw [h1] at h ⊢
 clear h1
 have b1 := (Below.refl w1.heap.size w1).alloc (Nat.le_refl _) (.cells #[.int .u8 b.k, .int .i64 b.l, .int .i64 b.o, .int .i64 b.a, .int .i64 b.b, .int .i64 b.s, .int .i64 b.e, .int .i64 b.c.b, .int .i64 b.c.n, .int .i64 b.c.l, .int .i64 b.c.y, .int .i64 b.c.w, .int .i64 b.c.s] 42)
 have k1 := Bk.new w1 42 #[.int .u8 b.k, .int .i64 b.l, .int .i64 b.o, .int .i64 b.a, .int .i64 b.b, .int .i64 b.s, .int .i64 b.e, .int .i64 b.c.b, .int .i64 b.c.n, .int .i64 b.c.l, .int .i64 b.c.y, .int .i64 b.c.w, .int .i64 b.c.s]
 rw [z1] at k1
 have h2 := h.next b1
 exact ⟨h2.fs.b, h2.fs.k, h2.kC, k1, h2.fs.r, h2.sn, hS.1⟩
theorem Sm.treeF (h : Sm w v f a b W) : ((W.cell? ⟨w.heap.size, 0, none⟩ = some (.slice v.a1 f.st.length v.c1) ∧ W.cell? ⟨w.heap.size, 1, none⟩ = some (.slice v.a2 f.li.length v.c2)) ∧
  W.cell? ⟨w.heap.size, 2, none⟩ = some (.slice v.a3 f.pa.length v.c3) ∧ W.cell? ⟨w.heap.size, 3, none⟩ = some (.slice v.a4 f.va.length v.c4)) ∧ w.heap.size < W.heap.size :=
 ⟨⟨⟨(h.kF.cell 0).trans rfl, (h.kF.cell 1).trans rfl⟩, (h.kF.cell 2).trans rfl, (h.kF.cell 3).trans rfl⟩, h.kF.lt⟩
def Sm2 (w : World) (v : Fv) (f : Dd.Fd) (a b : Dd.Ca) (g : Nat) (W : World) : Prop := Sm w v f a b W ∧ Bk W g 42 #[.int .u8 a.k, .int .i64 a.l, .int .i64 a.o, .int .i64 a.a, .int .i64 a.b, .int .i64 a.s, .int .i64 a.e, .int .i64 a.c.b, .int .i64 a.c.n, .int .i64 a.c.l, .int .i64 a.c.y, .int .i64 a.c.w, .int .i64 a.c.s, .int .u8 b.k, .int .i64 b.l, .int .i64 b.o, .int .i64 b.a, .int .i64 b.b, .int .i64 b.s, .int .i64 b.e, .int .i64 b.c.b, .int .i64 b.c.n, .int .i64 b.c.l, .int .i64 b.c.y, .int .i64 b.c.w, .int .i64 b.c.s]
theorem Sm2.next {g : Nat} (h : Sm2 w v f a b g W) (hb : Below W.heap.size W W') : Sm2 w v f a b g W' := ⟨h.1.next hb, h.2.below hb h.2.lt⟩
theorem Sm2.treeA {g : Nat} (h : Sm2 w v f a b g W) : (((W.cell? ⟨g, 0, none⟩ = some (.int .u8 a.k) ∧ W.cell? ⟨g, 1, none⟩ = some (.int .i64 a.l) ∧ W.cell? ⟨g, 2, none⟩ = some (.int .i64 a.o)) ∧ (W.cell? ⟨g, 3, none⟩ = some (.int .i64 a.a) ∧ W.cell? ⟨g, 4, none⟩ = some (.int .i64 a.b) ∧ W.cell? ⟨g, 5, none⟩ = some (.int .i64 a.s))) ∧ (W.cell? ⟨g, 6, none⟩ = some (.int .i64 a.e) ∧ W.cell? ⟨g, 7, none⟩ = some (.int .i64 a.c.b) ∧ W.cell? ⟨g, 8, none⟩ = some (.int .i64 a.c.n)) ∧ (W.cell? ⟨g, 9, none⟩ = some (.int .i64 a.c.l) ∧ W.cell? ⟨g, 10, none⟩ = some (.int .i64 a.c.y) ∧ W.cell? ⟨g, 11, none⟩ = some (.int .i64 a.c.w) ∧ W.cell? ⟨g, 12, none⟩ = some (.int .i64 a.c.s))) ∧ g < W.heap.size :=
 ⟨⟨⟨⟨(h.2.cell 0).trans rfl, (h.2.cell 1).trans rfl, (h.2.cell 2).trans rfl⟩, (h.2.cell 3).trans rfl, (h.2.cell 4).trans rfl, (h.2.cell 5).trans rfl⟩, ⟨(h.2.cell 6).trans rfl, (h.2.cell 7).trans rfl, (h.2.cell 8).trans rfl⟩, (h.2.cell 9).trans rfl, (h.2.cell 10).trans rfl, (h.2.cell 11).trans rfl, (h.2.cell 12).trans rfl⟩, h.2.lt⟩
theorem Sm2.treeB {g : Nat} (h : Sm2 w v f a b g W) : (((W.cell? ⟨g, 13, none⟩ = some (.int .u8 b.k) ∧ W.cell? ⟨g, 14, none⟩ = some (.int .i64 b.l) ∧ W.cell? ⟨g, 15, none⟩ = some (.int .i64 b.o)) ∧ (W.cell? ⟨g, 16, none⟩ = some (.int .i64 b.a) ∧ W.cell? ⟨g, 17, none⟩ = some (.int .i64 b.b) ∧ W.cell? ⟨g, 18, none⟩ = some (.int .i64 b.s))) ∧ (W.cell? ⟨g, 19, none⟩ = some (.int .i64 b.e) ∧ W.cell? ⟨g, 20, none⟩ = some (.int .i64 b.c.b) ∧ W.cell? ⟨g, 21, none⟩ = some (.int .i64 b.c.n)) ∧ (W.cell? ⟨g, 22, none⟩ = some (.int .i64 b.c.l) ∧ W.cell? ⟨g, 23, none⟩ = some (.int .i64 b.c.y) ∧ W.cell? ⟨g, 24, none⟩ = some (.int .i64 b.c.w) ∧ W.cell? ⟨g, 25, none⟩ = some (.int .i64 b.c.s))) ∧ g < W.heap.size :=
 ⟨⟨⟨⟨(h.2.cell 13).trans rfl, (h.2.cell 14).trans rfl, (h.2.cell 15).trans rfl⟩, (h.2.cell 16).trans rfl, (h.2.cell 17).trans rfl, (h.2.cell 18).trans rfl⟩, ⟨(h.2.cell 19).trans rfl, (h.2.cell 20).trans rfl, (h.2.cell 21).trans rfl⟩, (h.2.cell 22).trans rfl, (h.2.cell 23).trans rfl, (h.2.cell 24).trans rfl, (h.2.cell 25).trans rfl⟩, h.2.lt⟩
end
theorem Rd.offS {W : World} {g : Nat} {A : Option Addr} {l : List Dd.Bd} {t : TypeId} (h : Rd W W.heap.size 4 A l.length (bcells l)) (hk : Bk W g t #[.slice none 0 0]) (u : Value) : Rd (W.setCell ⟨g, 0, none⟩ u) (W.setCell ⟨g, 0, none⟩ u).heap.size 4 A l.length (bcells l) := by
 refine ⟨h.1, fun hn => ?_⟩
 obtain ⟨b, off, e, hb, hc⟩ := h.2 hn
 have hne : g ≠ b := by
  rintro rfl
  have h0 := hc 0 (by omega)
  rw [Nat.add_zero, hk.cell off] at h0
  obtain ⟨x, r, rfl⟩ : ∃ x r, l = x :: r := by
   cases l with
   | nil => simp at hn
   | cons x r => exact ⟨x, r, rfl⟩
  rw [show (bcells (x :: r))[0]? = some (.int .i64 x.f) from rfl] at h0
  cases off with
  | zero => simp at h0
  | succ o => simp at h0
 exact ⟨b, off, e, by simpa using hb, fun j hj => (World.cell?_setCell_far W ⟨g, 0, none⟩ ⟨b, off + j, none⟩ u hne).trans (hc j hj)⟩
set_option maxHeartbeats 8000000 in
theorem same_a (v : Fv) (f : Dd.Fd) (a b : Dd.Ca) (w : World) (hF : FRd w w.heap.size v f) (hS : Sn w) (ha : ¬ Dd.callE f a = 0) :
  Calls Tryz.prog 22 #[fval v f, caval a, caval b] w fun e w' => e = .returned (.tuple #[.bool false, .int .i64 (Dd.callE f a)]) ∧ Below w.heap.size w w' := by
 have CA := Lib.hid (fun W (h : Sm w v f a b W) => dCheckCall_any v f a W h.rd h.sn)
 have CB := Lib.hid (fun W (h : Sm w v f a b W) => dCheckCall_any v f b W h.rd h.sn)
 obtain ⟨E, hE⟩ : ∃ E, Dd.callE f a = E := ⟨_, rfl⟩
 rw [hE] at ha CA ⊢
 have ea : (E != 0) = true := by simp [ha]
 clear hE ha
 have S0 := Lib.hid (Sm.new (a := a) (b := b) hF hS)
 obtain ⟨ib, hib, hyb0, hyb1, hyb2⟩ := info_parts infoCa
 have HI := Lib.hid hib
 have HI1 := Lib.hid hyb0
 have HI2 := Lib.hid hyb1
 simp only [fval_def, caval_def] at CA CB S0 ⊢
 clear hF hS hib hyb0 hyb1 hyb2
 obtain ⟨⟨⟨f0, f1⟩, f2, f3⟩, fl⟩ := S0.out.treeF
 obtain ⟨⟨⟨⟨c0, c1, c2⟩, c3, c4, c5⟩, ⟨c6, c7, c8⟩, c9, c10, c11, c12⟩, cl⟩ := ca_tree S0.out.kA
 obtain ⟨⟨⟨⟨d0, d1, d2⟩, d3, d4, d5⟩, ⟨d6, d7, d8⟩, d9, d10, d11, d12⟩, dl⟩ := ca_tree S0.out.kB
 go_enter Tryz.func22, Tryz.ntmps22
 go_upto_region 1 with fail
 refine wp_cutW (fun V => Sm w v f a b V ∧ V.heap.size = w.heap.size + 1 + 1 + 1) ⟨S0.out, by simp⟩ ?_
 rintro W0 ⟨hs, hz0⟩
 have S1 := Lib.hid hs
 have HZ0 := Lib.hid hz0
 clear f0 f1 f2 f3 fl c0 c1 c2 c3 c4 c5 c6 c7 c8 c9 c10 c11 c12 cl d0 d1 d2 d3 d4 d5 d6 d7 d8 d9 d10 d11 d12 dl S0 hs hz0
 obtain ⟨⟨⟨f0, f1⟩, f2, f3⟩, fl⟩ := S1.out.treeF
 obtain ⟨⟨⟨⟨c0, c1, c2⟩, c3, c4, c5⟩, ⟨c6, c7, c8⟩, c9, c10, c11, c12⟩, cl⟩ := ca_tree S1.out.kA
 obtain ⟨⟨⟨⟨d0, d1, d2⟩, d3, d4, d5⟩, ⟨d6, d7, d8⟩, d9, d10, d11, d12⟩, dl⟩ := ca_tree S1.out.kB
 have hb2 := (Below.refl W0.heap.size W0).alloc (Nat.le_refl _) (.cells #[.int .u8 a.k, .int .i64 a.l, .int .i64 a.o, .int .i64 a.a, .int .i64 a.b, .int .i64 a.s, .int .i64 a.e, .int .i64 a.c.b, .int .i64 a.c.n, .int .i64 a.c.l, .int .i64 a.c.y, .int .i64 a.c.w, .int .i64 a.c.s, .int .u8 b.k, .int .i64 b.l, .int .i64 b.o, .int .i64 b.a, .int .i64 b.b, .int .i64 b.s, .int .i64 b.e, .int .i64 b.c.b, .int .i64 b.c.n, .int .i64 b.c.l, .int .i64 b.c.y, .int .i64 b.c.w, .int .i64 b.c.s] 42)
 have hk2 := Bk.new W0 42 #[.int .u8 a.k, .int .i64 a.l, .int .i64 a.o, .int .i64 a.a, .int .i64 a.b, .int .i64 a.s, .int .i64 a.e, .int .i64 a.c.b, .int .i64 a.c.n, .int .i64 a.c.l, .int .i64 a.c.y, .int .i64 a.c.w, .int .i64 a.c.s, .int .u8 b.k, .int .i64 b.l, .int .i64 b.o, .int .i64 b.a, .int .i64 b.b, .int .i64 b.s, .int .i64 b.e, .int .i64 b.c.b, .int .i64 b.c.n, .int .i64 b.c.l, .int .i64 b.c.y, .int .i64 b.c.w, .int .i64 b.c.s]
 have S2 := Lib.hid (show Sm2 w v f a b W0.heap.size (W0.alloc (.cells #[.int .u8 a.k, .int .i64 a.l, .int .i64 a.o, .int .i64 a.a, .int .i64 a.b, .int .i64 a.s, .int .i64 a.e, .int .i64 a.c.b, .int .i64 a.c.n, .int .i64 a.c.l, .int .i64 a.c.y, .int .i64 a.c.w, .int .i64 a.c.s, .int .u8 b.k, .int .i64 b.l, .int .i64 b.o, .int .i64 b.a, .int .i64 b.b, .int .i64 b.s, .int .i64 b.e, .int .i64 b.c.b, .int .i64 b.c.n, .int .i64 b.c.l, .int .i64 b.c.y, .int .i64 b.c.w, .int .i64 b.c.s] 42)) from ⟨S1.out.next hb2, hk2⟩)
 clear hb2 hk2 S1
 go_upto_region 2 with (refine wpList_build13 rfl 90 42 (.tmp 13) (.tmp 14) rfl ib _ Tryz.underlying90 HI.out HI1.out HI2.out [.int .u8 a.k, .int .i64 a.l, .int .i64 a.o, .int .i64 a.a, .int .i64 a.b, .int .i64 a.s, .int .i64 a.e, .int .i64 a.c.b, .int .i64 a.c.n, .int .i64 a.c.l, .int .i64 a.c.y, .int .i64 a.c.w, .int .i64 a.c.s] [.int .u8 b.k, .int .i64 b.l, .int .i64 b.o, .int .i64 b.a, .int .i64 b.b, .int .i64 b.s, .int .i64 b.e, .int .i64 b.c.b, .int .i64 b.c.n, .int .i64 b.c.l, .int .i64 b.c.y, .int .i64 b.c.w, .int .i64 b.c.s] rfl rfl rfl rfl ?_)
 go_loopw [17] (fun i wr => i = .int .i64 0 ∧ Sm2 w v f a b W0.heap.size wr) (fun i _ => 2 - (intOf i).toNat)
 case atStart => exact ⟨rfl, S2.out⟩
 case round =>
  obtain ⟨rfl, hs⟩ := hrel
  have S3 := Lib.hid hs
  clear hs
  obtain ⟨⟨⟨f0, f1⟩, f2, f3⟩, fl⟩ := S3.out.1.treeF
  obtain ⟨⟨⟨⟨c0, c1, c2⟩, c3, c4, c5⟩, ⟨c6, c7, c8⟩, c9, c10, c11, c12⟩, cl⟩ := S3.out.treeA
  have hbn := Below.rowNew ((Below.refl wr.heap.size wr).alloc (Nat.le_refl _) (.cells #[.int .u8 0, .int .i64 0, .int .i64 0, .int .i64 0, .int .i64 0, .int .i64 0, .int .i64 0, .int .i64 0, .int .i64 0, .int .i64 0, .int .i64 0, .int .i64 0, .int .i64 0] 42)) (Nat.le_refl _) #[.int .u8 a.k, .int .i64 a.l, .int .i64 a.o, .int .i64 a.a, .int .i64 a.b, .int .i64 a.s, .int .i64 a.e, .int .i64 a.c.b, .int .i64 a.c.n, .int .i64 a.c.l, .int .i64 a.c.y, .int .i64 a.c.w, .int .i64 a.c.s]
  have S4n := Lib.hid (S3.out.next hbn)
  have KD := Lib.hid ((Bk.new wr 42 #[.int .u8 0, .int .i64 0, .int .i64 0, .int .i64 0, .int .i64 0, .int .i64 0, .int .i64 0, .int .i64 0, .int .i64 0, .int .i64 0, .int .i64 0, .int .i64 0, .int .i64 0]).row #[.int .u8 a.k, .int .i64 a.l, .int .i64 a.o, .int .i64 a.a, .int .i64 a.b, .int .i64 a.s, .int .i64 a.e, .int .i64 a.c.b, .int .i64 a.c.n, .int .i64 a.c.l, .int .i64 a.c.y, .int .i64 a.c.w, .int .i64 a.c.s])
  clear hbn
  go_upto_region 4 with (refine wpList_store_row rfl 42 (.tmp 9) (.tmp 20) rfl wr.heap.size _ rfl rfl 42 _ (Bk.new wr 42 #[.int .u8 0, .int .i64 0, .int .i64 0, .int .i64 0, .int .i64 0, .int .i64 0, .int .i64 0, .int .i64 0, .int .i64 0, .int .i64 0, .int .i64 0, .int .i64 0, .int .i64 0]) (by kernel_rfl) rfl (by kernel_rfl) ?_)
  refine wp_cutW (fun V => Sm2 w v f a b W0.heap.size V ∧ Bk V wr.heap.size 42 #[.int .u8 a.k, .int .i64 a.l, .int .i64 a.o, .int .i64 a.a, .int .i64 a.b, .int .i64 a.s, .int .i64 a.e, .int .i64 a.c.b, .int .i64 a.c.n, .int .i64 a.c.l, .int .i64 a.c.y, .int .i64 a.c.w, .int .i64 a.c.s]) ⟨S4n.out, KD.out⟩ ?_
  rintro W4 ⟨hs, hkd⟩
  have S4 := Lib.hid hs
  clear f0 f1 f2 f3 fl c0 c1 c2 c3 c4 c5 c6 c7 c8 c9 c10 c11 c12 cl KD S3 S4n hs
  obtain ⟨⟨⟨⟨c0, c1, c2⟩, c3, c4, c5⟩, ⟨c6, c7, c8⟩, c9, c10, c11, c12⟩, cl⟩ := ca_tree hkd
  obtain ⟨⟨⟨f0, f1⟩, f2, f3⟩, fl⟩ := S4.out.1.treeF
  clear hkd
  go_wp2_with fail
  refine (CA.out _ S4.out.1).mono ?_
  rintro e w5 ⟨rfl, hb⟩
  have S5 := Lib.hid (S4.out.next hb)
  clear f0 f1 f2 f3 fl c0 c1 c2 c3 c4 c5 c6 c7 c8 c9 c10 c11 c12 cl hb S4
  go_wp2_with fail
  go_ret2
  exact ⟨rfl, S5.out.1.bl⟩
set_option maxHeartbeats 8000000 in
theorem same_b (v : Fv) (f : Dd.Fd) (a b : Dd.Ca) (w : World) (hF : FRd w w.heap.size v f) (hS : Sn w) (ha : Dd.callE f a = 0) (hb : ¬ Dd.callE f b = 0) :
  Calls Tryz.prog 22 #[fval v f, caval a, caval b] w fun e w' => e = .returned (.tuple #[.bool false, .int .i64 (Dd.callE f b)]) ∧ Below w.heap.size w w' := by
 have CA := Lib.hid (fun W (h : Sm w v f a b W) => dCheckCall_any v f a W h.rd h.sn)
 have CB := Lib.hid (fun W (h : Sm w v f a b W) => dCheckCall_any v f b W h.rd h.sn)
 rw [ha] at CA
 clear ha
 obtain ⟨E, hE⟩ : ∃ E, Dd.callE f b = E := ⟨_, rfl⟩
 rw [hE] at hb CB ⊢
 have eb : (E != 0) = true := by simp [hb]
 clear hE hb
 have S0 := Lib.hid (Sm.new (a := a) (b := b) hF hS)
 obtain ⟨ib, hib, hyb0, hyb1, hyb2⟩ := info_parts infoCa
 have HI := Lib.hid hib
 have HI1 := Lib.hid hyb0
 have HI2 := Lib.hid hyb1
 simp only [fval_def, caval_def] at CA CB S0 ⊢
 clear hF hS hib hyb0 hyb1 hyb2
 obtain ⟨⟨⟨f0, f1⟩, f2, f3⟩, fl⟩ := S0.out.treeF
 obtain ⟨⟨⟨⟨c0, c1, c2⟩, c3, c4, c5⟩, ⟨c6, c7, c8⟩, c9, c10, c11, c12⟩, cl⟩ := ca_tree S0.out.kA
 obtain ⟨⟨⟨⟨d0, d1, d2⟩, d3, d4, d5⟩, ⟨d6, d7, d8⟩, d9, d10, d11, d12⟩, dl⟩ := ca_tree S0.out.kB
 go_enter Tryz.func22, Tryz.ntmps22
 go_upto_region 1 with fail
 refine wp_cutW (fun V => Sm w v f a b V ∧ V.heap.size = w.heap.size + 1 + 1 + 1) ⟨S0.out, by simp⟩ ?_
 rintro W0 ⟨hs, hz0⟩
 have S1 := Lib.hid hs
 have HZ0 := Lib.hid hz0
 clear f0 f1 f2 f3 fl c0 c1 c2 c3 c4 c5 c6 c7 c8 c9 c10 c11 c12 cl d0 d1 d2 d3 d4 d5 d6 d7 d8 d9 d10 d11 d12 dl S0 hs hz0
 obtain ⟨⟨⟨f0, f1⟩, f2, f3⟩, fl⟩ := S1.out.treeF
 obtain ⟨⟨⟨⟨c0, c1, c2⟩, c3, c4, c5⟩, ⟨c6, c7, c8⟩, c9, c10, c11, c12⟩, cl⟩ := ca_tree S1.out.kA
 obtain ⟨⟨⟨⟨d0, d1, d2⟩, d3, d4, d5⟩, ⟨d6, d7, d8⟩, d9, d10, d11, d12⟩, dl⟩ := ca_tree S1.out.kB
 have hb2 := (Below.refl W0.heap.size W0).alloc (Nat.le_refl _) (.cells #[.int .u8 a.k, .int .i64 a.l, .int .i64 a.o, .int .i64 a.a, .int .i64 a.b, .int .i64 a.s, .int .i64 a.e, .int .i64 a.c.b, .int .i64 a.c.n, .int .i64 a.c.l, .int .i64 a.c.y, .int .i64 a.c.w, .int .i64 a.c.s, .int .u8 b.k, .int .i64 b.l, .int .i64 b.o, .int .i64 b.a, .int .i64 b.b, .int .i64 b.s, .int .i64 b.e, .int .i64 b.c.b, .int .i64 b.c.n, .int .i64 b.c.l, .int .i64 b.c.y, .int .i64 b.c.w, .int .i64 b.c.s] 42)
 have hk2 := Bk.new W0 42 #[.int .u8 a.k, .int .i64 a.l, .int .i64 a.o, .int .i64 a.a, .int .i64 a.b, .int .i64 a.s, .int .i64 a.e, .int .i64 a.c.b, .int .i64 a.c.n, .int .i64 a.c.l, .int .i64 a.c.y, .int .i64 a.c.w, .int .i64 a.c.s, .int .u8 b.k, .int .i64 b.l, .int .i64 b.o, .int .i64 b.a, .int .i64 b.b, .int .i64 b.s, .int .i64 b.e, .int .i64 b.c.b, .int .i64 b.c.n, .int .i64 b.c.l, .int .i64 b.c.y, .int .i64 b.c.w, .int .i64 b.c.s]
 have S2 := Lib.hid (show Sm2 w v f a b W0.heap.size (W0.alloc (.cells #[.int .u8 a.k, .int .i64 a.l, .int .i64 a.o, .int .i64 a.a, .int .i64 a.b, .int .i64 a.s, .int .i64 a.e, .int .i64 a.c.b, .int .i64 a.c.n, .int .i64 a.c.l, .int .i64 a.c.y, .int .i64 a.c.w, .int .i64 a.c.s, .int .u8 b.k, .int .i64 b.l, .int .i64 b.o, .int .i64 b.a, .int .i64 b.b, .int .i64 b.s, .int .i64 b.e, .int .i64 b.c.b, .int .i64 b.c.n, .int .i64 b.c.l, .int .i64 b.c.y, .int .i64 b.c.w, .int .i64 b.c.s] 42)) from ⟨S1.out.next hb2, hk2⟩)
 clear hb2 hk2 S1
 go_upto_region 2 with (refine wpList_build13 rfl 90 42 (.tmp 13) (.tmp 14) rfl ib _ Tryz.underlying90 HI.out HI1.out HI2.out [.int .u8 a.k, .int .i64 a.l, .int .i64 a.o, .int .i64 a.a, .int .i64 a.b, .int .i64 a.s, .int .i64 a.e, .int .i64 a.c.b, .int .i64 a.c.n, .int .i64 a.c.l, .int .i64 a.c.y, .int .i64 a.c.w, .int .i64 a.c.s] [.int .u8 b.k, .int .i64 b.l, .int .i64 b.o, .int .i64 b.a, .int .i64 b.b, .int .i64 b.s, .int .i64 b.e, .int .i64 b.c.b, .int .i64 b.c.n, .int .i64 b.c.l, .int .i64 b.c.y, .int .i64 b.c.w, .int .i64 b.c.s] rfl rfl rfl rfl ?_)
 go_loopw [17] (fun i wr => (i = .int .i64 0 ∨ i = .int .i64 1) ∧ Sm2 w v f a b W0.heap.size wr) (fun i _ => 2 - (intOf i).toNat)
 case atStart => exact ⟨Or.inl rfl, S2.out⟩
 case round =>
  obtain ⟨rfl | rfl, hs⟩ := hrel
  ·have S3 := Lib.hid hs
   clear hs
   obtain ⟨⟨⟨f0, f1⟩, f2, f3⟩, fl⟩ := S3.out.1.treeF
   obtain ⟨⟨⟨⟨c0, c1, c2⟩, c3, c4, c5⟩, ⟨c6, c7, c8⟩, c9, c10, c11, c12⟩, cl⟩ := S3.out.treeA
   have hbn := Below.rowNew ((Below.refl wr.heap.size wr).alloc (Nat.le_refl _) (.cells #[.int .u8 0, .int .i64 0, .int .i64 0, .int .i64 0, .int .i64 0, .int .i64 0, .int .i64 0, .int .i64 0, .int .i64 0, .int .i64 0, .int .i64 0, .int .i64 0, .int .i64 0] 42)) (Nat.le_refl _) #[.int .u8 a.k, .int .i64 a.l, .int .i64 a.o, .int .i64 a.a, .int .i64 a.b, .int .i64 a.s, .int .i64 a.e, .int .i64 a.c.b, .int .i64 a.c.n, .int .i64 a.c.l, .int .i64 a.c.y, .int .i64 a.c.w, .int .i64 a.c.s]
   have S4n := Lib.hid (S3.out.next hbn)
   have KD := Lib.hid ((Bk.new wr 42 #[.int .u8 0, .int .i64 0, .int .i64 0, .int .i64 0, .int .i64 0, .int .i64 0, .int .i64 0, .int .i64 0, .int .i64 0, .int .i64 0, .int .i64 0, .int .i64 0, .int .i64 0]).row #[.int .u8 a.k, .int .i64 a.l, .int .i64 a.o, .int .i64 a.a, .int .i64 a.b, .int .i64 a.s, .int .i64 a.e, .int .i64 a.c.b, .int .i64 a.c.n, .int .i64 a.c.l, .int .i64 a.c.y, .int .i64 a.c.w, .int .i64 a.c.s])
   clear hbn
   go_upto_region 4 with (refine wpList_store_row rfl 42 (.tmp 9) (.tmp 20) rfl wr.heap.size _ rfl rfl 42 _ (Bk.new wr 42 #[.int .u8 0, .int .i64 0, .int .i64 0, .int .i64 0, .int .i64 0, .int .i64 0, .int .i64 0, .int .i64 0, .int .i64 0, .int .i64 0, .int .i64 0, .int .i64 0, .int .i64 0]) (by kernel_rfl) rfl (by kernel_rfl) ?_)
   refine wp_cutW (fun V => Sm2 w v f a b W0.heap.size V ∧ Bk V wr.heap.size 42 #[.int .u8 a.k, .int .i64 a.l, .int .i64 a.o, .int .i64 a.a, .int .i64 a.b, .int .i64 a.s, .int .i64 a.e, .int .i64 a.c.b, .int .i64 a.c.n, .int .i64 a.c.l, .int .i64 a.c.y, .int .i64 a.c.w, .int .i64 a.c.s]) ⟨S4n.out, KD.out⟩ ?_
   rintro W4 ⟨hs, hkd⟩
   have S4 := Lib.hid hs
   clear f0 f1 f2 f3 fl c0 c1 c2 c3 c4 c5 c6 c7 c8 c9 c10 c11 c12 cl KD S3 S4n hs
   obtain ⟨⟨⟨⟨c0, c1, c2⟩, c3, c4, c5⟩, ⟨c6, c7, c8⟩, c9, c10, c11, c12⟩, cl⟩ := ca_tree hkd
   obtain ⟨⟨⟨f0, f1⟩, f2, f3⟩, fl⟩ := S4.out.1.treeF
   clear hkd
   go_wp2_with fail
   refine (CA.out _ S4.out.1).mono ?_
   rintro e w5 ⟨rfl, hb⟩
   have S5 := Lib.hid (S4.out.next hb)
   clear f0 f1 f2 f3 fl c0 c1 c2 c3 c4 c5 c6 c7 c8 c9 c10 c11 c12 cl hb S4
   go_wp2_with fail
   go_roundw
   case rel => exact ⟨Or.inr rfl, S5.out⟩
   case measure => simp [intOf]
  ·have S3 := Lib.hid hs
   clear hs
   obtain ⟨⟨⟨f0, f1⟩, f2, f3⟩, fl⟩ := S3.out.1.treeF
   obtain ⟨⟨⟨⟨c0, c1, c2⟩, c3, c4, c5⟩, ⟨c6, c7, c8⟩, c9, c10, c11, c12⟩, cl⟩ := S3.out.treeB
   have hbn := Below.rowNew ((Below.refl wr.heap.size wr).alloc (Nat.le_refl _) (.cells #[.int .u8 0, .int .i64 0, .int .i64 0, .int .i64 0, .int .i64 0, .int .i64 0, .int .i64 0, .int .i64 0, .int .i64 0, .int .i64 0, .int .i64 0, .int .i64 0, .int .i64 0] 42)) (Nat.le_refl _) #[.int .u8 b.k, .int .i64 b.l, .int .i64 b.o, .int .i64 b.a, .int .i64 b.b, .int .i64 b.s, .int .i64 b.e, .int .i64 b.c.b, .int .i64 b.c.n, .int .i64 b.c.l, .int .i64 b.c.y, .int .i64 b.c.w, .int .i64 b.c.s]
   have S4n := Lib.hid (S3.out.next hbn)
   have KD := Lib.hid ((Bk.new wr 42 #[.int .u8 0, .int .i64 0, .int .i64 0, .int .i64 0, .int .i64 0, .int .i64 0, .int .i64 0, .int .i64 0, .int .i64 0, .int .i64 0, .int .i64 0, .int .i64 0, .int .i64 0]).row #[.int .u8 b.k, .int .i64 b.l, .int .i64 b.o, .int .i64 b.a, .int .i64 b.b, .int .i64 b.s, .int .i64 b.e, .int .i64 b.c.b, .int .i64 b.c.n, .int .i64 b.c.l, .int .i64 b.c.y, .int .i64 b.c.w, .int .i64 b.c.s])
   clear hbn
   go_upto_region 4 with (refine wpList_store_row rfl 42 (.tmp 9) (.tmp 20) rfl wr.heap.size _ rfl rfl 42 _ (Bk.new wr 42 #[.int .u8 0, .int .i64 0, .int .i64 0, .int .i64 0, .int .i64 0, .int .i64 0, .int .i64 0, .int .i64 0, .int .i64 0, .int .i64 0, .int .i64 0, .int .i64 0, .int .i64 0]) (by kernel_rfl) rfl (by kernel_rfl) ?_)
   refine wp_cutW (fun V => Sm2 w v f a b W0.heap.size V ∧ Bk V wr.heap.size 42 #[.int .u8 b.k, .int .i64 b.l, .int .i64 b.o, .int .i64 b.a, .int .i64 b.b, .int .i64 b.s, .int .i64 b.e, .int .i64 b.c.b, .int .i64 b.c.n, .int .i64 b.c.l, .int .i64 b.c.y, .int .i64 b.c.w, .int .i64 b.c.s]) ⟨S4n.out, KD.out⟩ ?_
   rintro W4 ⟨hs, hkd⟩
   have S4 := Lib.hid hs
   clear f0 f1 f2 f3 fl c0 c1 c2 c3 c4 c5 c6 c7 c8 c9 c10 c11 c12 cl KD S3 S4n hs
   obtain ⟨⟨⟨⟨c0, c1, c2⟩, c3, c4, c5⟩, ⟨c6, c7, c8⟩, c9, c10, c11, c12⟩, cl⟩ := ca_tree hkd
   obtain ⟨⟨⟨f0, f1⟩, f2, f3⟩, fl⟩ := S4.out.1.treeF
   clear hkd
   go_wp2_with fail
   refine (CB.out _ S4.out.1).mono ?_
   rintro e w5 ⟨rfl, hb⟩
   have S5 := Lib.hid (S4.out.next hb)
   clear f0 f1 f2 f3 fl c0 c1 c2 c3 c4 c5 c6 c7 c8 c9 c10 c11 c12 cl hb S4
   go_wp2_with fail
   go_ret2
   exact ⟨rfl, S5.out.1.bl⟩
set_option maxHeartbeats 8000000 in
theorem same_ok (v : Fv) (f : Dd.Fd) (a b : Dd.Ca) (w : World) (hF : FRd w w.heap.size v f) (hS : Sn w) (ha : Dd.callE f a = 0) (hb : Dd.callE f b = 0) :
  Calls Tryz.prog 22 #[fval v f, caval a, caval b] w fun e w' => e = .returned (.tuple #[.bool (decide ((Dd.bnds f a 0).length = (Dd.bnds f b 0).length) && Dd.sub (Dd.bnds f a 0) (Dd.bnds f b 0)), .int .i64 0]) ∧ Below w.heap.size w w' := by
 have CA := Lib.hid (fun W (h : Sm w v f a b W) => dCheckCall_any v f a W h.rd h.sn)
 have CB := Lib.hid (fun W (h : Sm w v f a b W) => dCheckCall_any v f b W h.rd h.sn)
 have BA := Lib.hid (fun W (h : Sm w v f a b W) => bounds_made v f a 0 W h.rd h.sn)
 have BB := Lib.hid (fun W (h : Sm w v f a b W) => bounds_made v f b 0 W h.rd h.sn)
 have EA := Lib.hid ha
 have EB := Lib.hid hb
 rw [ha] at CA
 rw [hb] at CB
 have hn1 : (Dd.bnds f a 0).length ≤ 1000000 := by rw [Dd.bnds_len]; have h1 := Dd.gaps_len ha; have h2 := (Dd.field_facts (Dd.callE_zero ha).1).2.2.1; omega
 have hn2 : (Dd.bnds f b 0).length ≤ 1000000 := by rw [Dd.bnds_len]; have h1 := Dd.gaps_len hb; have h2 := (Dd.field_facts (Dd.callE_zero ha).1).2.2.1; omega
 obtain ⟨l1, hl1⟩ : ∃ l, Dd.bnds f a 0 = l := ⟨_, rfl⟩
 obtain ⟨l2, hl2⟩ : ∃ l, Dd.bnds f b 0 = l := ⟨_, rfl⟩
 rw [hl1] at hn1 ⊢
 rw [hl2] at hn2 ⊢
 have L1 := Lib.hid hl1
 have L2 := Lib.hid hl2
 have HN1 := Lib.hid hn1
 have HN2 := Lib.hid hn2
 clear hl1 hl2 ha hb hn1 hn2
 simp only [fval_def, caval_def] at BA BB
 have S0 := Lib.hid (Sm.new (a := a) (b := b) hF hS)
 obtain ⟨ib, hib, hyb0, hyb1, hyb2⟩ := info_parts infoCa
 have HI := Lib.hid hib
 have HI1 := Lib.hid hyb0
 have HI2 := Lib.hid hyb1
 simp only [fval_def, caval_def] at CA CB S0 ⊢
 clear hF hS hib hyb0 hyb1 hyb2
 obtain ⟨⟨⟨f0, f1⟩, f2, f3⟩, fl⟩ := S0.out.treeF
 obtain ⟨⟨⟨⟨c0, c1, c2⟩, c3, c4, c5⟩, ⟨c6, c7, c8⟩, c9, c10, c11, c12⟩, cl⟩ := ca_tree S0.out.kA
 obtain ⟨⟨⟨⟨d0, d1, d2⟩, d3, d4, d5⟩, ⟨d6, d7, d8⟩, d9, d10, d11, d12⟩, dl⟩ := ca_tree S0.out.kB
 go_enter Tryz.func22, Tryz.ntmps22
 go_upto_region 1 with fail
 refine wp_cutW (fun V => Sm w v f a b V ∧ V.heap.size = w.heap.size + 1 + 1 + 1) ⟨S0.out, by simp⟩ ?_
 rintro W0 ⟨hs, hz0⟩
 have S1 := Lib.hid hs
 have HZ0 := Lib.hid hz0
 clear f0 f1 f2 f3 fl c0 c1 c2 c3 c4 c5 c6 c7 c8 c9 c10 c11 c12 cl d0 d1 d2 d3 d4 d5 d6 d7 d8 d9 d10 d11 d12 dl S0 hs hz0
 obtain ⟨⟨⟨f0, f1⟩, f2, f3⟩, fl⟩ := S1.out.treeF
 obtain ⟨⟨⟨⟨c0, c1, c2⟩, c3, c4, c5⟩, ⟨c6, c7, c8⟩, c9, c10, c11, c12⟩, cl⟩ := ca_tree S1.out.kA
 obtain ⟨⟨⟨⟨d0, d1, d2⟩, d3, d4, d5⟩, ⟨d6, d7, d8⟩, d9, d10, d11, d12⟩, dl⟩ := ca_tree S1.out.kB
 have hb2 := (Below.refl W0.heap.size W0).alloc (Nat.le_refl _) (.cells #[.int .u8 a.k, .int .i64 a.l, .int .i64 a.o, .int .i64 a.a, .int .i64 a.b, .int .i64 a.s, .int .i64 a.e, .int .i64 a.c.b, .int .i64 a.c.n, .int .i64 a.c.l, .int .i64 a.c.y, .int .i64 a.c.w, .int .i64 a.c.s, .int .u8 b.k, .int .i64 b.l, .int .i64 b.o, .int .i64 b.a, .int .i64 b.b, .int .i64 b.s, .int .i64 b.e, .int .i64 b.c.b, .int .i64 b.c.n, .int .i64 b.c.l, .int .i64 b.c.y, .int .i64 b.c.w, .int .i64 b.c.s] 42)
 have hk2 := Bk.new W0 42 #[.int .u8 a.k, .int .i64 a.l, .int .i64 a.o, .int .i64 a.a, .int .i64 a.b, .int .i64 a.s, .int .i64 a.e, .int .i64 a.c.b, .int .i64 a.c.n, .int .i64 a.c.l, .int .i64 a.c.y, .int .i64 a.c.w, .int .i64 a.c.s, .int .u8 b.k, .int .i64 b.l, .int .i64 b.o, .int .i64 b.a, .int .i64 b.b, .int .i64 b.s, .int .i64 b.e, .int .i64 b.c.b, .int .i64 b.c.n, .int .i64 b.c.l, .int .i64 b.c.y, .int .i64 b.c.w, .int .i64 b.c.s]
 have S2 := Lib.hid (show Sm2 w v f a b W0.heap.size (W0.alloc (.cells #[.int .u8 a.k, .int .i64 a.l, .int .i64 a.o, .int .i64 a.a, .int .i64 a.b, .int .i64 a.s, .int .i64 a.e, .int .i64 a.c.b, .int .i64 a.c.n, .int .i64 a.c.l, .int .i64 a.c.y, .int .i64 a.c.w, .int .i64 a.c.s, .int .u8 b.k, .int .i64 b.l, .int .i64 b.o, .int .i64 b.a, .int .i64 b.b, .int .i64 b.s, .int .i64 b.e, .int .i64 b.c.b, .int .i64 b.c.n, .int .i64 b.c.l, .int .i64 b.c.y, .int .i64 b.c.w, .int .i64 b.c.s] 42)) from ⟨S1.out.next hb2, hk2⟩)
 clear hb2 hk2 S1
 go_upto_region 2 with (refine wpList_build13 rfl 90 42 (.tmp 13) (.tmp 14) rfl ib _ Tryz.underlying90 HI.out HI1.out HI2.out [.int .u8 a.k, .int .i64 a.l, .int .i64 a.o, .int .i64 a.a, .int .i64 a.b, .int .i64 a.s, .int .i64 a.e, .int .i64 a.c.b, .int .i64 a.c.n, .int .i64 a.c.l, .int .i64 a.c.y, .int .i64 a.c.w, .int .i64 a.c.s] [.int .u8 b.k, .int .i64 b.l, .int .i64 b.o, .int .i64 b.a, .int .i64 b.b, .int .i64 b.s, .int .i64 b.e, .int .i64 b.c.b, .int .i64 b.c.n, .int .i64 b.c.l, .int .i64 b.c.y, .int .i64 b.c.w, .int .i64 b.c.s] rfl rfl rfl rfl ?_)
 go_loopw [17] (fun i wr => (i = .int .i64 0 ∨ i = .int .i64 1 ∨ i = .int .i64 2) ∧ Sm2 w v f a b W0.heap.size wr) (fun i _ => 2 - (intOf i).toNat)
 case atStart => exact ⟨Or.inl rfl, S2.out⟩
 case round =>
  obtain ⟨rfl | rfl | rfl, hs⟩ := hrel
  ·have S3 := Lib.hid hs
   clear hs
   obtain ⟨⟨⟨f0, f1⟩, f2, f3⟩, fl⟩ := S3.out.1.treeF
   obtain ⟨⟨⟨⟨c0, c1, c2⟩, c3, c4, c5⟩, ⟨c6, c7, c8⟩, c9, c10, c11, c12⟩, cl⟩ := S3.out.treeA
   have hbn := Below.rowNew ((Below.refl wr.heap.size wr).alloc (Nat.le_refl _) (.cells #[.int .u8 0, .int .i64 0, .int .i64 0, .int .i64 0, .int .i64 0, .int .i64 0, .int .i64 0, .int .i64 0, .int .i64 0, .int .i64 0, .int .i64 0, .int .i64 0, .int .i64 0] 42)) (Nat.le_refl _) #[.int .u8 a.k, .int .i64 a.l, .int .i64 a.o, .int .i64 a.a, .int .i64 a.b, .int .i64 a.s, .int .i64 a.e, .int .i64 a.c.b, .int .i64 a.c.n, .int .i64 a.c.l, .int .i64 a.c.y, .int .i64 a.c.w, .int .i64 a.c.s]
   have S4n := Lib.hid (S3.out.next hbn)
   have KD := Lib.hid ((Bk.new wr 42 #[.int .u8 0, .int .i64 0, .int .i64 0, .int .i64 0, .int .i64 0, .int .i64 0, .int .i64 0, .int .i64 0, .int .i64 0, .int .i64 0, .int .i64 0, .int .i64 0, .int .i64 0]).row #[.int .u8 a.k, .int .i64 a.l, .int .i64 a.o, .int .i64 a.a, .int .i64 a.b, .int .i64 a.s, .int .i64 a.e, .int .i64 a.c.b, .int .i64 a.c.n, .int .i64 a.c.l, .int .i64 a.c.y, .int .i64 a.c.w, .int .i64 a.c.s])
   clear hbn
   go_upto_region 4 with (refine wpList_store_row rfl 42 (.tmp 9) (.tmp 20) rfl wr.heap.size _ rfl rfl 42 _ (Bk.new wr 42 #[.int .u8 0, .int .i64 0, .int .i64 0, .int .i64 0, .int .i64 0, .int .i64 0, .int .i64 0, .int .i64 0, .int .i64 0, .int .i64 0, .int .i64 0, .int .i64 0, .int .i64 0]) (by kernel_rfl) rfl (by kernel_rfl) ?_)
   refine wp_cutW (fun V => Sm2 w v f a b W0.heap.size V ∧ Bk V wr.heap.size 42 #[.int .u8 a.k, .int .i64 a.l, .int .i64 a.o, .int .i64 a.a, .int .i64 a.b, .int .i64 a.s, .int .i64 a.e, .int .i64 a.c.b, .int .i64 a.c.n, .int .i64 a.c.l, .int .i64 a.c.y, .int .i64 a.c.w, .int .i64 a.c.s]) ⟨S4n.out, KD.out⟩ ?_
   rintro W4 ⟨hs, hkd⟩
   have S4 := Lib.hid hs
   clear f0 f1 f2 f3 fl c0 c1 c2 c3 c4 c5 c6 c7 c8 c9 c10 c11 c12 cl KD S3 S4n hs
   obtain ⟨⟨⟨⟨c0, c1, c2⟩, c3, c4, c5⟩, ⟨c6, c7, c8⟩, c9, c10, c11, c12⟩, cl⟩ := ca_tree hkd
   obtain ⟨⟨⟨f0, f1⟩, f2, f3⟩, fl⟩ := S4.out.1.treeF
   clear hkd
   go_wp2_with fail
   refine (CA.out _ S4.out.1).mono ?_
   rintro e w5 ⟨rfl, hb⟩
   have S5 := Lib.hid (S4.out.next hb)
   clear f0 f1 f2 f3 fl c0 c1 c2 c3 c4 c5 c6 c7 c8 c9 c10 c11 c12 cl hb S4
   go_wp2_with fail
   go_roundw
   case rel => exact ⟨Or.inr (Or.inl rfl), S5.out⟩
   case measure => simp [intOf]
  ·have S3 := Lib.hid hs
   clear hs
   obtain ⟨⟨⟨f0, f1⟩, f2, f3⟩, fl⟩ := S3.out.1.treeF
   obtain ⟨⟨⟨⟨c0, c1, c2⟩, c3, c4, c5⟩, ⟨c6, c7, c8⟩, c9, c10, c11, c12⟩, cl⟩ := S3.out.treeB
   have hbn := Below.rowNew ((Below.refl wr.heap.size wr).alloc (Nat.le_refl _) (.cells #[.int .u8 0, .int .i64 0, .int .i64 0, .int .i64 0, .int .i64 0, .int .i64 0, .int .i64 0, .int .i64 0, .int .i64 0, .int .i64 0, .int .i64 0, .int .i64 0, .int .i64 0] 42)) (Nat.le_refl _) #[.int .u8 b.k, .int .i64 b.l, .int .i64 b.o, .int .i64 b.a, .int .i64 b.b, .int .i64 b.s, .int .i64 b.e, .int .i64 b.c.b, .int .i64 b.c.n, .int .i64 b.c.l, .int .i64 b.c.y, .int .i64 b.c.w, .int .i64 b.c.s]
   have S4n := Lib.hid (S3.out.next hbn)
   have KD := Lib.hid ((Bk.new wr 42 #[.int .u8 0, .int .i64 0, .int .i64 0, .int .i64 0, .int .i64 0, .int .i64 0, .int .i64 0, .int .i64 0, .int .i64 0, .int .i64 0, .int .i64 0, .int .i64 0, .int .i64 0]).row #[.int .u8 b.k, .int .i64 b.l, .int .i64 b.o, .int .i64 b.a, .int .i64 b.b, .int .i64 b.s, .int .i64 b.e, .int .i64 b.c.b, .int .i64 b.c.n, .int .i64 b.c.l, .int .i64 b.c.y, .int .i64 b.c.w, .int .i64 b.c.s])
   clear hbn
   go_upto_region 4 with (refine wpList_store_row rfl 42 (.tmp 9) (.tmp 20) rfl wr.heap.size _ rfl rfl 42 _ (Bk.new wr 42 #[.int .u8 0, .int .i64 0, .int .i64 0, .int .i64 0, .int .i64 0, .int .i64 0, .int .i64 0, .int .i64 0, .int .i64 0, .int .i64 0, .int .i64 0, .int .i64 0, .int .i64 0]) (by kernel_rfl) rfl (by kernel_rfl) ?_)
   refine wp_cutW (fun V => Sm2 w v f a b W0.heap.size V ∧ Bk V wr.heap.size 42 #[.int .u8 b.k, .int .i64 b.l, .int .i64 b.o, .int .i64 b.a, .int .i64 b.b, .int .i64 b.s, .int .i64 b.e, .int .i64 b.c.b, .int .i64 b.c.n, .int .i64 b.c.l, .int .i64 b.c.y, .int .i64 b.c.w, .int .i64 b.c.s]) ⟨S4n.out, KD.out⟩ ?_
   rintro W4 ⟨hs, hkd⟩
   have S4 := Lib.hid hs
   clear f0 f1 f2 f3 fl c0 c1 c2 c3 c4 c5 c6 c7 c8 c9 c10 c11 c12 cl KD S3 S4n hs
   obtain ⟨⟨⟨⟨c0, c1, c2⟩, c3, c4, c5⟩, ⟨c6, c7, c8⟩, c9, c10, c11, c12⟩, cl⟩ := ca_tree hkd
   obtain ⟨⟨⟨f0, f1⟩, f2, f3⟩, fl⟩ := S4.out.1.treeF
   clear hkd
   go_wp2_with fail
   refine (CB.out _ S4.out.1).mono ?_
   rintro e w5 ⟨rfl, hb⟩
   have S5 := Lib.hid (S4.out.next hb)
   clear f0 f1 f2 f3 fl c0 c1 c2 c3 c4 c5 c6 c7 c8 c9 c10 c11 c12 cl hb S4
   go_wp2_with fail
   go_roundw
   case rel => exact ⟨Or.inr (Or.inr rfl), S5.out⟩
   case measure => simp [intOf]
  ·have Hs0 := Lib.hid hs.1
   clear hs S2
   go_wp2_with fail
   go_cut [11, 12] (fun s11 s12 wx => ∃ A1 c1 A2 c2 g, s11 = .slice A1 l1.length c1 ∧ s12 = .pointer (some ⟨g, 0, none⟩) ∧ Bk wx g 45 #[.slice A2 l2.length c2] ∧ Rd wx wx.heap.size 4 A1 l1.length (bcells l1) ∧ Rd wx wx.heap.size 4 A2 l2.length (bcells l2) ∧ Below w.heap.size w wx)
   case first =>
    refine wp_region_held_drew (S := fun V : World => Sm w v f a b V) (by kernel_rfl) (Hs0.out.next (Below.refl _ _).drew) (fun hHeld => ?_)
    simp only [List.size_toArray, List.length_cons, List.length_nil, Nat.reduceAdd, Array.replicate_succ, Array.replicate_zero, List.push_toArray, List.append_toArray, List.nil_append, List.cons_append]
    refine wpAnyH_take (i := 0) (v := .agg #[.slice v.a1 f.st.length v.c1, .slice v.a2 f.li.length v.c2, .slice v.a3 f.pa.length v.c3, .slice v.a4 f.va.length v.c4]) rfl (by kernel_rfl) (by kernel_rfl) (by kernel_rfl) (fun _ _ _ h => h) (Or.inl ⟨by rfl, ?_⟩) (by assumption) ?_
    ·(intro w9 hSw; exact exec_load_row 27 (.tmp 3) rfl w.heap.size rfl 27 _ (0, 0) _ hSw.kF Tryz.underlying27 rfl (by kernel_rfl))
    (try simp only [Act.put, List.getElem_toArray, List.getElem_cons_succ, List.getElem_cons_zero, List.setIfInBounds_toArray, List.set_cons_zero, List.set_cons_succ])
    refine wpAnyH_take (i := 1) (v := .agg #[.int .u8 a.k, .int .i64 a.l, .int .i64 a.o, .int .i64 a.a, .int .i64 a.b, .int .i64 a.s, .int .i64 a.e, .int .i64 a.c.b, .int .i64 a.c.n, .int .i64 a.c.l, .int .i64 a.c.y, .int .i64 a.c.w, .int .i64 a.c.s]) rfl (by kernel_rfl) (by kernel_rfl) (by kernel_rfl) (fun _ _ _ h => h) (Or.inl ⟨by rfl, ?_⟩) (by assumption) ?_
    ·(intro w9 hSw; exact exec_load_row 42 (.tmp 4) rfl (w.heap.size + 1) rfl 42 _ (0, 0) _ hSw.kA Tryz.underlying42 rfl (by kernel_rfl))
    (try simp only [Act.put, List.getElem_toArray, List.getElem_cons_succ, List.getElem_cons_zero, List.setIfInBounds_toArray, List.set_cons_zero, List.set_cons_succ])
    refine wpAnyH_take (i := 4) (v := .agg #[.slice v.a1 f.st.length v.c1, .slice v.a2 f.li.length v.c2, .slice v.a3 f.pa.length v.c3, .slice v.a4 f.va.length v.c4]) rfl (by kernel_rfl) (by kernel_rfl) (by kernel_rfl) (fun _ _ _ h => h) (Or.inl ⟨by rfl, ?_⟩) (by assumption) ?_
    ·(intro w9 hSw; exact exec_load_row 27 (.tmp 3) rfl w.heap.size rfl 27 _ (0, 0) _ hSw.kF Tryz.underlying27 rfl (by kernel_rfl))
    (try simp only [Act.put, List.getElem_toArray, List.getElem_cons_succ, List.getElem_cons_zero, List.setIfInBounds_toArray, List.set_cons_zero, List.set_cons_succ])
    refine wpAnyH_take (i := 5) (v := .agg #[.int .u8 b.k, .int .i64 b.l, .int .i64 b.o, .int .i64 b.a, .int .i64 b.b, .int .i64 b.s, .int .i64 b.e, .int .i64 b.c.b, .int .i64 b.c.n, .int .i64 b.c.l, .int .i64 b.c.y, .int .i64 b.c.w, .int .i64 b.c.s]) rfl (by kernel_rfl) (by kernel_rfl) (by kernel_rfl) (fun _ _ _ h => h) (Or.inl ⟨by rfl, ?_⟩) (by assumption) ?_
    ·(intro w9 hSw; exact exec_load_row 42 (.tmp 5) rfl (w.heap.size + 1 + 1) rfl 42 _ (0, 0) _ hSw.kB Tryz.underlying42 rfl (by kernel_rfl))
    (try simp only [Act.put, List.getElem_toArray, List.getElem_cons_succ, List.getElem_cons_zero, List.setIfInBounds_toArray, List.set_cons_zero, List.set_cons_succ])
    refine wpAnyH_cutW (fun V => Sm w v f a b V) hHeld ?_
    rintro V0 nS
    clear Hs0
    have Hs := Lib.hid nS
    clear nS
    refine wpAnyH_ready (rs := [2, 8]) (by kernel_rfl) (by simp) ?_
    refine AllReadyH.cons rfl (fun K hK => ?_) ?_
    ·skip
     go_simp
     go_at_call 36
     refine (BA.out _ Hs.out).mono ?_
     rintro e V ⟨rfl, hy, hb, hz⟩
     (try go_wp2_with fail)
     refine hK.out _ _ (Hs.out.next hb) (fun hHeld => ?_)
     have HSN := Lib.hid Hs.out.sn.1
     clear hK K
     (try simp only [Act.put, List.getElem_toArray, List.getElem_cons_succ, List.getElem_cons_zero, List.setIfInBounds_toArray, List.set_cons_zero, List.set_cons_succ])
     refine wpAnyH_cutW (fun V => (Sm w v f a b V) ∧ (Yc V0.heap.size V0.heap.size (V0.heap.size + 1) (V0.heap.size + 1 + 1) v f a 0 V ∧ V0.heap.size + 1 + 1 + 1 ≤ V.heap.size)) ⟨Hs.out.next hb, ⟨hy, hz⟩⟩ ?_
     rintro V1 ⟨ns, ny⟩
     clear Hs hy hz V hb hHeld
     have Hs := Lib.hid ns
     have Hy := Lib.hid ny
     clear ns ny
     refine wpAnyH_ready (rs := [3, 8]) (by kernel_rfl) (by simp) ?_
     refine AllReadyH.cons rfl (fun K hK => ?_) ?_
     ·skip
      go_simp
      go_at_call 35
      have hco := collect_any V0.heap.size (V0.heap.size + 1) (V0.heap.size + 1 + 1) V0.heap.size v f a 0 EA.out _ Hy.out.1 (by have := Hy.out.2; omega) HSN.out
      rw [L1.out] at hco
      refine hco.mono ?_
      clear hco
      rintro e V ⟨A2, C2, rfl, hr, -, hb⟩
      (try go_wp2_with fail)
      refine hK.out _ _ (Hs.out.next hb) (fun hHeld => ?_)
      clear hK K
      (try simp only [Act.put, List.getElem_toArray, List.getElem_cons_succ, List.getElem_cons_zero, List.setIfInBounds_toArray, List.set_cons_zero, List.set_cons_succ])
      refine wpAnyH_cutW (fun V => (Sm w v f a b V) ∧ (Rd V V.heap.size 4 A2 l1.length (bcells l1))) ⟨Hs.out.next hb, hr⟩ ?_
      rintro V2 ⟨ns, nr1⟩
      clear Hs Hy hr V hb hHeld
      have Hs := Lib.hid ns
      have Hr1 := Lib.hid nr1
      clear ns nr1
      refine wpAnyH_ready (rs := [6, 8]) (by kernel_rfl) (by simp) ?_
      refine AllReadyH.cons rfl (fun K hK => ?_) ?_
      ·skip
       go_simp
       go_at_call 36
       refine (BB.out _ Hs.out).mono ?_
       rintro e V ⟨rfl, hy, hb, hz⟩
       (try go_wp2_with fail)
       refine hK.out _ _ (Hs.out.next hb) (fun hHeld => ?_)
       have HSN := Lib.hid Hs.out.sn.1
       clear hK K
       (try simp only [Act.put, List.getElem_toArray, List.getElem_cons_succ, List.getElem_cons_zero, List.setIfInBounds_toArray, List.set_cons_zero, List.set_cons_succ])
       refine wpAnyH_cutW (fun V => (Sm w v f a b V) ∧ (Rd V V.heap.size 4 A2 l1.length (bcells l1)) ∧ (Yc V2.heap.size V2.heap.size (V2.heap.size + 1) (V2.heap.size + 1 + 1) v f b 0 V ∧ V2.heap.size + 1 + 1 + 1 ≤ V.heap.size)) ⟨Hs.out.next hb, (Hr1.out.below hb (Nat.le_refl _)).more hb.size, ⟨hy, hz⟩⟩ ?_
       rintro V3 ⟨ns, nr1, ny⟩
       clear Hs Hr1 hy hz V hb hHeld
       have Hs := Lib.hid ns
       have Hr1 := Lib.hid nr1
       have Hy := Lib.hid ny
       clear ns nr1 ny
       refine wpAnyH_ready (rs := [7, 8]) (by kernel_rfl) (by simp) ?_
       refine AllReadyH.cons rfl (fun K hK => ?_) ?_
       ·skip
        go_simp
        go_at_call 35
        have hco := collect_any V2.heap.size (V2.heap.size + 1) (V2.heap.size + 1 + 1) V2.heap.size v f b 0 EB.out _ Hy.out.1 (by have := Hy.out.2; omega) HSN.out
        rw [L2.out] at hco
        refine hco.mono ?_
        clear hco
        rintro e V ⟨A4, C4, rfl, hr, -, hb⟩
        (try go_wp2_with fail)
        refine hK.out _ _ (Hs.out.next hb) (fun hHeld => ?_)
        clear hK K
        (try simp only [Act.put, List.getElem_toArray, List.getElem_cons_succ, List.getElem_cons_zero, List.setIfInBounds_toArray, List.set_cons_zero, List.set_cons_succ])
        refine wpAnyH_cutW (fun V => (Sm w v f a b V) ∧ (Rd V V.heap.size 4 A2 l1.length (bcells l1)) ∧ (Rd V V.heap.size 4 A4 l2.length (bcells l2))) ⟨Hs.out.next hb, (Hr1.out.below hb (Nat.le_refl _)).more hb.size, hr⟩ ?_
        rintro V4 ⟨ns, nr1, nr2⟩
        clear Hs Hr1 Hy hr V hb hHeld
        have Hs := Lib.hid ns
        have Hr1 := Lib.hid nr1
        have Hr2 := Lib.hid nr2
        clear ns nr1 nr2
        refine wpAnyH_ready (rs := [8]) (by kernel_rfl) (by simp) ?_
        refine AllReadyH.cons rfl (fun K hK => ?_) AllReadyH.nil
        go_simp
        have hb := (Below.refl V4.heap.size V4).alloc (Nat.le_refl _) (.cells #[.slice none 0 0] 45)
        refine hK.out _ _ (Hs.out.next hb) (fun hHeld => ?_)
        have HG := Lib.hid (show w.heap.size + 1 + 1 < V4.heap.size from Hs.out.kB.lt)
        clear hK K
        (try simp only [Act.put, List.getElem_toArray, List.getElem_cons_succ, List.getElem_cons_zero, List.setIfInBounds_toArray, List.set_cons_zero, List.set_cons_succ])
        refine wpAnyH_cutW (fun V => (Sm w v f a b V) ∧ (Rd V V.heap.size 4 A2 l1.length (bcells l1)) ∧ (Rd V V.heap.size 4 A4 l2.length (bcells l2)) ∧ (Bk V V4.heap.size 45 #[.slice none 0 0])) ⟨Hs.out.next hb, (Hr1.out.below hb (Nat.le_refl _)).more hb.size, (Hr2.out.below hb (Nat.le_refl _)).more hb.size, Bk.new V4 45 #[.slice none 0 0]⟩ ?_
        rintro V5 ⟨ns, nr1, nr2, ng⟩
        clear Hs Hr1 Hr2 hb hHeld
        have Hs := Lib.hid ns
        have Hr1 := Lib.hid nr1
        have Hr2 := Lib.hid nr2
        have Hg := Lib.hid ng
        clear ns nr1 nr2 ng
        refine wpAnyH_ready (rs := [9]) (by kernel_rfl) (by simp) ?_
        refine AllReadyH.cons rfl (fun K hK => ?_) AllReadyH.nil
        go_simp
        refine hK.out _ _ Hs.out (fun hHeld => ?_)
        clear hK K
        (try simp only [Act.put, List.getElem_toArray, List.getElem_cons_succ, List.getElem_cons_zero, List.setIfInBounds_toArray, List.set_cons_zero, List.set_cons_succ])
        refine wpAnyH_ready (rs := [10]) (by kernel_rfl) (by simp) ?_
        refine AllReadyH.cons rfl (fun K hK => ?_) AllReadyH.nil
        have gc := (Hg.out.cell 0).trans rfl
        have gf := Hg.out.frozen 0
        have hgz := Hg.out.lt
        have hgg : w.heap.size + 1 + 1 < V4.heap.size := HG.out
        go_simp
        refine hK.out _ _ (Hs.out.far hgg _) (fun hHeld => ?_)
        clear hK K
        refine wpAnyH_done (by kernel_rfl) ?_ _
        (try simp only [Act.put, List.getElem_toArray, List.getElem_cons_succ, List.getElem_cons_zero, List.setIfInBounds_toArray, List.set_cons_zero, List.set_cons_succ])
        go_wp2_with fail
        go_meet
        exact ⟨A2, C2, A4, C4, V4.heap.size, rfl, rfl, (Hg.out.set 0 _), (Hr1.out.offS Hg.out _), (Hr2.out.offS Hg.out _), (Hs.out.far hgg _).bl⟩
       refine AllReadyH.cons rfl (fun K hK => ?_) AllReadyH.nil
       go_simp
       have hb := (Below.refl V3.heap.size V3).alloc (Nat.le_refl _) (.cells #[.slice none 0 0] 45)
       refine hK.out _ _ (Hs.out.next hb) (fun hHeld => ?_)
       have HG := Lib.hid (show w.heap.size + 1 + 1 < V3.heap.size from Hs.out.kB.lt)
       clear hK K
       (try simp only [Act.put, List.getElem_toArray, List.getElem_cons_succ, List.getElem_cons_zero, List.setIfInBounds_toArray, List.set_cons_zero, List.set_cons_succ])
       refine wpAnyH_cutW (fun V => (Sm w v f a b V) ∧ (Rd V V.heap.size 4 A2 l1.length (bcells l1)) ∧ (Yc V2.heap.size V2.heap.size (V2.heap.size + 1) (V2.heap.size + 1 + 1) v f b 0 V ∧ V2.heap.size + 1 + 1 + 1 ≤ V.heap.size) ∧ (Bk V V3.heap.size 45 #[.slice none 0 0])) ⟨Hs.out.next hb, (Hr1.out.below hb (Nat.le_refl _)).more hb.size, ⟨Hy.out.1.below hb (by have := Hy.out.2; omega) (by have := Hy.out.2; omega) (by have := Hy.out.2; omega) (by have := Hy.out.2; omega) (by have := Hy.out.2; have := Hs.out.g0; have := Hs.out.bl.size; omega), Nat.le_trans Hy.out.2 hb.size⟩, Bk.new V3 45 #[.slice none 0 0]⟩ ?_
       rintro V6 ⟨ns, nr1, ny, ng⟩
       clear Hs Hr1 Hy hb hHeld
       have Hs := Lib.hid ns
       have Hr1 := Lib.hid nr1
       have Hy := Lib.hid ny
       have Hg := Lib.hid ng
       clear ns nr1 ny ng
       refine wpAnyH_ready (rs := [7]) (by kernel_rfl) (by simp) ?_
       refine AllReadyH.cons rfl (fun K hK => ?_) AllReadyH.nil
       go_simp
       go_at_call 35
       have hco := collect_any V2.heap.size (V2.heap.size + 1) (V2.heap.size + 1 + 1) V2.heap.size v f b 0 EB.out _ Hy.out.1 (by have := Hy.out.2; omega) HSN.out
       rw [L2.out] at hco
       refine hco.mono ?_
       clear hco
       rintro e V ⟨A7, C7, rfl, hr, -, hb⟩
       (try go_wp2_with fail)
       refine hK.out _ _ (Hs.out.next hb) (fun hHeld => ?_)
       clear hK K
       (try simp only [Act.put, List.getElem_toArray, List.getElem_cons_succ, List.getElem_cons_zero, List.setIfInBounds_toArray, List.set_cons_zero, List.set_cons_succ])
       refine wpAnyH_cutW (fun V => (Sm w v f a b V) ∧ (Rd V V.heap.size 4 A2 l1.length (bcells l1)) ∧ (Rd V V.heap.size 4 A7 l2.length (bcells l2)) ∧ (Bk V V3.heap.size 45 #[.slice none 0 0])) ⟨Hs.out.next hb, (Hr1.out.below hb (Nat.le_refl _)).more hb.size, hr, Hg.out.below hb Hg.out.lt⟩ ?_
       rintro V7 ⟨ns, nr1, nr2, ng⟩
       clear Hs Hr1 Hy Hg hr V hb hHeld
       have Hs := Lib.hid ns
       have Hr1 := Lib.hid nr1
       have Hr2 := Lib.hid nr2
       have Hg := Lib.hid ng
       clear ns nr1 nr2 ng
       refine wpAnyH_ready (rs := [9]) (by kernel_rfl) (by simp) ?_
       refine AllReadyH.cons rfl (fun K hK => ?_) AllReadyH.nil
       go_simp
       refine hK.out _ _ Hs.out (fun hHeld => ?_)
       clear hK K
       (try simp only [Act.put, List.getElem_toArray, List.getElem_cons_succ, List.getElem_cons_zero, List.setIfInBounds_toArray, List.set_cons_zero, List.set_cons_succ])
       refine wpAnyH_ready (rs := [10]) (by kernel_rfl) (by simp) ?_
       refine AllReadyH.cons rfl (fun K hK => ?_) AllReadyH.nil
       have gc := (Hg.out.cell 0).trans rfl
       have gf := Hg.out.frozen 0
       have hgz := Hg.out.lt
       have hgg : w.heap.size + 1 + 1 < V3.heap.size := HG.out
       go_simp
       refine hK.out _ _ (Hs.out.far hgg _) (fun hHeld => ?_)
       clear hK K
       refine wpAnyH_done (by kernel_rfl) ?_ _
       (try simp only [Act.put, List.getElem_toArray, List.getElem_cons_succ, List.getElem_cons_zero, List.setIfInBounds_toArray, List.set_cons_zero, List.set_cons_succ])
       go_wp2_with fail
       go_meet
       exact ⟨A2, C2, A7, C7, V3.heap.size, rfl, rfl, (Hg.out.set 0 _), (Hr1.out.offS Hg.out _), (Hr2.out.offS Hg.out _), (Hs.out.far hgg _).bl⟩
      refine AllReadyH.cons rfl (fun K hK => ?_) AllReadyH.nil
      go_simp
      have hb := (Below.refl V2.heap.size V2).alloc (Nat.le_refl _) (.cells #[.slice none 0 0] 45)
      refine hK.out _ _ (Hs.out.next hb) (fun hHeld => ?_)
      have HG := Lib.hid (show w.heap.size + 1 + 1 < V2.heap.size from Hs.out.kB.lt)
      clear hK K
      (try simp only [Act.put, List.getElem_toArray, List.getElem_cons_succ, List.getElem_cons_zero, List.setIfInBounds_toArray, List.set_cons_zero, List.set_cons_succ])
      refine wpAnyH_cutW (fun V => (Sm w v f a b V) ∧ (Rd V V.heap.size 4 A2 l1.length (bcells l1)) ∧ (Bk V V2.heap.size 45 #[.slice none 0 0])) ⟨Hs.out.next hb, (Hr1.out.below hb (Nat.le_refl _)).more hb.size, Bk.new V2 45 #[.slice none 0 0]⟩ ?_
      rintro V8 ⟨ns, nr1, ng⟩
      clear Hs Hr1 hb hHeld
      have Hs := Lib.hid ns
      have Hr1 := Lib.hid nr1
      have Hg := Lib.hid ng
      clear ns nr1 ng
      refine wpAnyH_ready (rs := [6]) (by kernel_rfl) (by simp) ?_
      refine AllReadyH.cons rfl (fun K hK => ?_) AllReadyH.nil
      go_simp
      go_at_call 36
      refine (BB.out _ Hs.out).mono ?_
      rintro e V ⟨rfl, hy, hb, hz⟩
      (try go_wp2_with fail)
      refine hK.out _ _ (Hs.out.next hb) (fun hHeld => ?_)
      have HSN := Lib.hid Hs.out.sn.1
      clear hK K
      (try simp only [Act.put, List.getElem_toArray, List.getElem_cons_succ, List.getElem_cons_zero, List.setIfInBounds_toArray, List.set_cons_zero, List.set_cons_succ])
      refine wpAnyH_cutW (fun V => (Sm w v f a b V) ∧ (Rd V V.heap.size 4 A2 l1.length (bcells l1)) ∧ (Yc V8.heap.size V8.heap.size (V8.heap.size + 1) (V8.heap.size + 1 + 1) v f b 0 V ∧ V8.heap.size + 1 + 1 + 1 ≤ V.heap.size) ∧ (Bk V V2.heap.size 45 #[.slice none 0 0])) ⟨Hs.out.next hb, (Hr1.out.below hb (Nat.le_refl _)).more hb.size, ⟨hy, hz⟩, Hg.out.below hb Hg.out.lt⟩ ?_
      rintro V9 ⟨ns, nr1, ny, ng⟩
      clear Hs Hr1 Hg hy hz V hb hHeld
      have Hs := Lib.hid ns
      have Hr1 := Lib.hid nr1
      have Hy := Lib.hid ny
      have Hg := Lib.hid ng
      clear ns nr1 ny ng
      refine wpAnyH_ready (rs := [7]) (by kernel_rfl) (by simp) ?_
      refine AllReadyH.cons rfl (fun K hK => ?_) AllReadyH.nil
      go_simp
      go_at_call 35
      have hco := collect_any V8.heap.size (V8.heap.size + 1) (V8.heap.size + 1 + 1) V8.heap.size v f b 0 EB.out _ Hy.out.1 (by have := Hy.out.2; omega) HSN.out
      rw [L2.out] at hco
      refine hco.mono ?_
      clear hco
      rintro e V ⟨A10, C10, rfl, hr, -, hb⟩
      (try go_wp2_with fail)
      refine hK.out _ _ (Hs.out.next hb) (fun hHeld => ?_)
      clear hK K
      (try simp only [Act.put, List.getElem_toArray, List.getElem_cons_succ, List.getElem_cons_zero, List.setIfInBounds_toArray, List.set_cons_zero, List.set_cons_succ])
      refine wpAnyH_cutW (fun V => (Sm w v f a b V) ∧ (Rd V V.heap.size 4 A2 l1.length (bcells l1)) ∧ (Rd V V.heap.size 4 A10 l2.length (bcells l2)) ∧ (Bk V V2.heap.size 45 #[.slice none 0 0])) ⟨Hs.out.next hb, (Hr1.out.below hb (Nat.le_refl _)).more hb.size, hr, Hg.out.below hb Hg.out.lt⟩ ?_
      rintro V10 ⟨ns, nr1, nr2, ng⟩
      clear Hs Hr1 Hy Hg hr V hb hHeld
      have Hs := Lib.hid ns
      have Hr1 := Lib.hid nr1
      have Hr2 := Lib.hid nr2
      have Hg := Lib.hid ng
      clear ns nr1 nr2 ng
      refine wpAnyH_ready (rs := [9]) (by kernel_rfl) (by simp) ?_
      refine AllReadyH.cons rfl (fun K hK => ?_) AllReadyH.nil
      go_simp
      refine hK.out _ _ Hs.out (fun hHeld => ?_)
      clear hK K
      (try simp only [Act.put, List.getElem_toArray, List.getElem_cons_succ, List.getElem_cons_zero, List.setIfInBounds_toArray, List.set_cons_zero, List.set_cons_succ])
      refine wpAnyH_ready (rs := [10]) (by kernel_rfl) (by simp) ?_
      refine AllReadyH.cons rfl (fun K hK => ?_) AllReadyH.nil
      have gc := (Hg.out.cell 0).trans rfl
      have gf := Hg.out.frozen 0
      have hgz := Hg.out.lt
      have hgg : w.heap.size + 1 + 1 < V2.heap.size := HG.out
      go_simp
      refine hK.out _ _ (Hs.out.far hgg _) (fun hHeld => ?_)
      clear hK K
      refine wpAnyH_done (by kernel_rfl) ?_ _
      (try simp only [Act.put, List.getElem_toArray, List.getElem_cons_succ, List.getElem_cons_zero, List.setIfInBounds_toArray, List.set_cons_zero, List.set_cons_succ])
      go_wp2_with fail
      go_meet
      exact ⟨A2, C2, A10, C10, V2.heap.size, rfl, rfl, (Hg.out.set 0 _), (Hr1.out.offS Hg.out _), (Hr2.out.offS Hg.out _), (Hs.out.far hgg _).bl⟩
     refine AllReadyH.cons rfl (fun K hK => ?_) AllReadyH.nil
     go_simp
     have hb := (Below.refl V1.heap.size V1).alloc (Nat.le_refl _) (.cells #[.slice none 0 0] 45)
     refine hK.out _ _ (Hs.out.next hb) (fun hHeld => ?_)
     have HG := Lib.hid (show w.heap.size + 1 + 1 < V1.heap.size from Hs.out.kB.lt)
     clear hK K
     (try simp only [Act.put, List.getElem_toArray, List.getElem_cons_succ, List.getElem_cons_zero, List.setIfInBounds_toArray, List.set_cons_zero, List.set_cons_succ])
     refine wpAnyH_cutW (fun V => (Sm w v f a b V) ∧ (Yc V0.heap.size V0.heap.size (V0.heap.size + 1) (V0.heap.size + 1 + 1) v f a 0 V ∧ V0.heap.size + 1 + 1 + 1 ≤ V.heap.size) ∧ (Bk V V1.heap.size 45 #[.slice none 0 0])) ⟨Hs.out.next hb, ⟨Hy.out.1.below hb (by have := Hy.out.2; omega) (by have := Hy.out.2; omega) (by have := Hy.out.2; omega) (by have := Hy.out.2; omega) (by have := Hy.out.2; have := Hs.out.g0; have := Hs.out.bl.size; omega), Nat.le_trans Hy.out.2 hb.size⟩, Bk.new V1 45 #[.slice none 0 0]⟩ ?_
     rintro V11 ⟨ns, ny, ng⟩
     clear Hs Hy hb hHeld
     have Hs := Lib.hid ns
     have Hy := Lib.hid ny
     have Hg := Lib.hid ng
     clear ns ny ng
     refine wpAnyH_ready (rs := [3]) (by kernel_rfl) (by simp) ?_
     refine AllReadyH.cons rfl (fun K hK => ?_) AllReadyH.nil
     go_simp
     go_at_call 35
     have hco := collect_any V0.heap.size (V0.heap.size + 1) (V0.heap.size + 1 + 1) V0.heap.size v f a 0 EA.out _ Hy.out.1 (by have := Hy.out.2; omega) HSN.out
     rw [L1.out] at hco
     refine hco.mono ?_
     clear hco
     rintro e V ⟨A12, C12, rfl, hr, -, hb⟩
     (try go_wp2_with fail)
     refine hK.out _ _ (Hs.out.next hb) (fun hHeld => ?_)
     clear hK K
     (try simp only [Act.put, List.getElem_toArray, List.getElem_cons_succ, List.getElem_cons_zero, List.setIfInBounds_toArray, List.set_cons_zero, List.set_cons_succ])
     refine wpAnyH_cutW (fun V => (Sm w v f a b V) ∧ (Rd V V.heap.size 4 A12 l1.length (bcells l1)) ∧ (Bk V V1.heap.size 45 #[.slice none 0 0])) ⟨Hs.out.next hb, hr, Hg.out.below hb Hg.out.lt⟩ ?_
     rintro V12 ⟨ns, nr1, ng⟩
     clear Hs Hy Hg hr V hb hHeld
     have Hs := Lib.hid ns
     have Hr1 := Lib.hid nr1
     have Hg := Lib.hid ng
     clear ns nr1 ng
     refine wpAnyH_ready (rs := [6]) (by kernel_rfl) (by simp) ?_
     refine AllReadyH.cons rfl (fun K hK => ?_) AllReadyH.nil
     go_simp
     go_at_call 36
     refine (BB.out _ Hs.out).mono ?_
     rintro e V ⟨rfl, hy, hb, hz⟩
     (try go_wp2_with fail)
     refine hK.out _ _ (Hs.out.next hb) (fun hHeld => ?_)
     have HSN := Lib.hid Hs.out.sn.1
     clear hK K
     (try simp only [Act.put, List.getElem_toArray, List.getElem_cons_succ, List.getElem_cons_zero, List.setIfInBounds_toArray, List.set_cons_zero, List.set_cons_succ])
     refine wpAnyH_cutW (fun V => (Sm w v f a b V) ∧ (Rd V V.heap.size 4 A12 l1.length (bcells l1)) ∧ (Yc V12.heap.size V12.heap.size (V12.heap.size + 1) (V12.heap.size + 1 + 1) v f b 0 V ∧ V12.heap.size + 1 + 1 + 1 ≤ V.heap.size) ∧ (Bk V V1.heap.size 45 #[.slice none 0 0])) ⟨Hs.out.next hb, (Hr1.out.below hb (Nat.le_refl _)).more hb.size, ⟨hy, hz⟩, Hg.out.below hb Hg.out.lt⟩ ?_
     rintro V13 ⟨ns, nr1, ny, ng⟩
     clear Hs Hr1 Hg hy hz V hb hHeld
     have Hs := Lib.hid ns
     have Hr1 := Lib.hid nr1
     have Hy := Lib.hid ny
     have Hg := Lib.hid ng
     clear ns nr1 ny ng
     refine wpAnyH_ready (rs := [7]) (by kernel_rfl) (by simp) ?_
     refine AllReadyH.cons rfl (fun K hK => ?_) AllReadyH.nil
     go_simp
     go_at_call 35
     have hco := collect_any V12.heap.size (V12.heap.size + 1) (V12.heap.size + 1 + 1) V12.heap.size v f b 0 EB.out _ Hy.out.1 (by have := Hy.out.2; omega) HSN.out
     rw [L2.out] at hco
     refine hco.mono ?_
     clear hco
     rintro e V ⟨A14, C14, rfl, hr, -, hb⟩
     (try go_wp2_with fail)
     refine hK.out _ _ (Hs.out.next hb) (fun hHeld => ?_)
     clear hK K
     (try simp only [Act.put, List.getElem_toArray, List.getElem_cons_succ, List.getElem_cons_zero, List.setIfInBounds_toArray, List.set_cons_zero, List.set_cons_succ])
     refine wpAnyH_cutW (fun V => (Sm w v f a b V) ∧ (Rd V V.heap.size 4 A12 l1.length (bcells l1)) ∧ (Rd V V.heap.size 4 A14 l2.length (bcells l2)) ∧ (Bk V V1.heap.size 45 #[.slice none 0 0])) ⟨Hs.out.next hb, (Hr1.out.below hb (Nat.le_refl _)).more hb.size, hr, Hg.out.below hb Hg.out.lt⟩ ?_
     rintro V14 ⟨ns, nr1, nr2, ng⟩
     clear Hs Hr1 Hy Hg hr V hb hHeld
     have Hs := Lib.hid ns
     have Hr1 := Lib.hid nr1
     have Hr2 := Lib.hid nr2
     have Hg := Lib.hid ng
     clear ns nr1 nr2 ng
     refine wpAnyH_ready (rs := [9]) (by kernel_rfl) (by simp) ?_
     refine AllReadyH.cons rfl (fun K hK => ?_) AllReadyH.nil
     go_simp
     refine hK.out _ _ Hs.out (fun hHeld => ?_)
     clear hK K
     (try simp only [Act.put, List.getElem_toArray, List.getElem_cons_succ, List.getElem_cons_zero, List.setIfInBounds_toArray, List.set_cons_zero, List.set_cons_succ])
     refine wpAnyH_ready (rs := [10]) (by kernel_rfl) (by simp) ?_
     refine AllReadyH.cons rfl (fun K hK => ?_) AllReadyH.nil
     have gc := (Hg.out.cell 0).trans rfl
     have gf := Hg.out.frozen 0
     have hgz := Hg.out.lt
     have hgg : w.heap.size + 1 + 1 < V1.heap.size := HG.out
     go_simp
     refine hK.out _ _ (Hs.out.far hgg _) (fun hHeld => ?_)
     clear hK K
     refine wpAnyH_done (by kernel_rfl) ?_ _
     (try simp only [Act.put, List.getElem_toArray, List.getElem_cons_succ, List.getElem_cons_zero, List.setIfInBounds_toArray, List.set_cons_zero, List.set_cons_succ])
     go_wp2_with fail
     go_meet
     exact ⟨A12, C12, A14, C14, V1.heap.size, rfl, rfl, (Hg.out.set 0 _), (Hr1.out.offS Hg.out _), (Hr2.out.offS Hg.out _), (Hs.out.far hgg _).bl⟩
    refine AllReadyH.cons rfl (fun K hK => ?_) AllReadyH.nil
    go_simp
    have hb := (Below.refl V0.heap.size V0).alloc (Nat.le_refl _) (.cells #[.slice none 0 0] 45)
    refine hK.out _ _ (Hs.out.next hb) (fun hHeld => ?_)
    have HG := Lib.hid (show w.heap.size + 1 + 1 < V0.heap.size from Hs.out.kB.lt)
    clear hK K
    (try simp only [Act.put, List.getElem_toArray, List.getElem_cons_succ, List.getElem_cons_zero, List.setIfInBounds_toArray, List.set_cons_zero, List.set_cons_succ])
    refine wpAnyH_cutW (fun V => (Sm w v f a b V) ∧ (Bk V V0.heap.size 45 #[.slice none 0 0])) ⟨Hs.out.next hb, Bk.new V0 45 #[.slice none 0 0]⟩ ?_
    rintro V15 ⟨ns, ng⟩
    clear Hs hb hHeld
    have Hs := Lib.hid ns
    have Hg := Lib.hid ng
    clear ns ng
    refine wpAnyH_ready (rs := [2]) (by kernel_rfl) (by simp) ?_
    refine AllReadyH.cons rfl (fun K hK => ?_) AllReadyH.nil
    go_simp
    go_at_call 36
    refine (BA.out _ Hs.out).mono ?_
    rintro e V ⟨rfl, hy, hb, hz⟩
    (try go_wp2_with fail)
    refine hK.out _ _ (Hs.out.next hb) (fun hHeld => ?_)
    have HSN := Lib.hid Hs.out.sn.1
    clear hK K
    (try simp only [Act.put, List.getElem_toArray, List.getElem_cons_succ, List.getElem_cons_zero, List.setIfInBounds_toArray, List.set_cons_zero, List.set_cons_succ])
    refine wpAnyH_cutW (fun V => (Sm w v f a b V) ∧ (Yc V15.heap.size V15.heap.size (V15.heap.size + 1) (V15.heap.size + 1 + 1) v f a 0 V ∧ V15.heap.size + 1 + 1 + 1 ≤ V.heap.size) ∧ (Bk V V0.heap.size 45 #[.slice none 0 0])) ⟨Hs.out.next hb, ⟨hy, hz⟩, Hg.out.below hb Hg.out.lt⟩ ?_
    rintro V16 ⟨ns, ny, ng⟩
    clear Hs Hg hy hz V hb hHeld
    have Hs := Lib.hid ns
    have Hy := Lib.hid ny
    have Hg := Lib.hid ng
    clear ns ny ng
    refine wpAnyH_ready (rs := [3]) (by kernel_rfl) (by simp) ?_
    refine AllReadyH.cons rfl (fun K hK => ?_) AllReadyH.nil
    go_simp
    go_at_call 35
    have hco := collect_any V15.heap.size (V15.heap.size + 1) (V15.heap.size + 1 + 1) V15.heap.size v f a 0 EA.out _ Hy.out.1 (by have := Hy.out.2; omega) HSN.out
    rw [L1.out] at hco
    refine hco.mono ?_
    clear hco
    rintro e V ⟨A17, C17, rfl, hr, -, hb⟩
    (try go_wp2_with fail)
    refine hK.out _ _ (Hs.out.next hb) (fun hHeld => ?_)
    clear hK K
    (try simp only [Act.put, List.getElem_toArray, List.getElem_cons_succ, List.getElem_cons_zero, List.setIfInBounds_toArray, List.set_cons_zero, List.set_cons_succ])
    refine wpAnyH_cutW (fun V => (Sm w v f a b V) ∧ (Rd V V.heap.size 4 A17 l1.length (bcells l1)) ∧ (Bk V V0.heap.size 45 #[.slice none 0 0])) ⟨Hs.out.next hb, hr, Hg.out.below hb Hg.out.lt⟩ ?_
    rintro V17 ⟨ns, nr1, ng⟩
    clear Hs Hy Hg hr V hb hHeld
    have Hs := Lib.hid ns
    have Hr1 := Lib.hid nr1
    have Hg := Lib.hid ng
    clear ns nr1 ng
    refine wpAnyH_ready (rs := [6]) (by kernel_rfl) (by simp) ?_
    refine AllReadyH.cons rfl (fun K hK => ?_) AllReadyH.nil
    go_simp
    go_at_call 36
    refine (BB.out _ Hs.out).mono ?_
    rintro e V ⟨rfl, hy, hb, hz⟩
    (try go_wp2_with fail)
    refine hK.out _ _ (Hs.out.next hb) (fun hHeld => ?_)
    have HSN := Lib.hid Hs.out.sn.1
    clear hK K
    (try simp only [Act.put, List.getElem_toArray, List.getElem_cons_succ, List.getElem_cons_zero, List.setIfInBounds_toArray, List.set_cons_zero, List.set_cons_succ])
    refine wpAnyH_cutW (fun V => (Sm w v f a b V) ∧ (Rd V V.heap.size 4 A17 l1.length (bcells l1)) ∧ (Yc V17.heap.size V17.heap.size (V17.heap.size + 1) (V17.heap.size + 1 + 1) v f b 0 V ∧ V17.heap.size + 1 + 1 + 1 ≤ V.heap.size) ∧ (Bk V V0.heap.size 45 #[.slice none 0 0])) ⟨Hs.out.next hb, (Hr1.out.below hb (Nat.le_refl _)).more hb.size, ⟨hy, hz⟩, Hg.out.below hb Hg.out.lt⟩ ?_
    rintro V18 ⟨ns, nr1, ny, ng⟩
    clear Hs Hr1 Hg hy hz V hb hHeld
    have Hs := Lib.hid ns
    have Hr1 := Lib.hid nr1
    have Hy := Lib.hid ny
    have Hg := Lib.hid ng
    clear ns nr1 ny ng
    refine wpAnyH_ready (rs := [7]) (by kernel_rfl) (by simp) ?_
    refine AllReadyH.cons rfl (fun K hK => ?_) AllReadyH.nil
    go_simp
    go_at_call 35
    have hco := collect_any V17.heap.size (V17.heap.size + 1) (V17.heap.size + 1 + 1) V17.heap.size v f b 0 EB.out _ Hy.out.1 (by have := Hy.out.2; omega) HSN.out
    rw [L2.out] at hco
    refine hco.mono ?_
    clear hco
    rintro e V ⟨A19, C19, rfl, hr, -, hb⟩
    (try go_wp2_with fail)
    refine hK.out _ _ (Hs.out.next hb) (fun hHeld => ?_)
    clear hK K
    (try simp only [Act.put, List.getElem_toArray, List.getElem_cons_succ, List.getElem_cons_zero, List.setIfInBounds_toArray, List.set_cons_zero, List.set_cons_succ])
    refine wpAnyH_cutW (fun V => (Sm w v f a b V) ∧ (Rd V V.heap.size 4 A17 l1.length (bcells l1)) ∧ (Rd V V.heap.size 4 A19 l2.length (bcells l2)) ∧ (Bk V V0.heap.size 45 #[.slice none 0 0])) ⟨Hs.out.next hb, (Hr1.out.below hb (Nat.le_refl _)).more hb.size, hr, Hg.out.below hb Hg.out.lt⟩ ?_
    rintro V19 ⟨ns, nr1, nr2, ng⟩
    clear Hs Hr1 Hy Hg hr V hb hHeld
    have Hs := Lib.hid ns
    have Hr1 := Lib.hid nr1
    have Hr2 := Lib.hid nr2
    have Hg := Lib.hid ng
    clear ns nr1 nr2 ng
    refine wpAnyH_ready (rs := [9]) (by kernel_rfl) (by simp) ?_
    refine AllReadyH.cons rfl (fun K hK => ?_) AllReadyH.nil
    go_simp
    refine hK.out _ _ Hs.out (fun hHeld => ?_)
    clear hK K
    (try simp only [Act.put, List.getElem_toArray, List.getElem_cons_succ, List.getElem_cons_zero, List.setIfInBounds_toArray, List.set_cons_zero, List.set_cons_succ])
    refine wpAnyH_ready (rs := [10]) (by kernel_rfl) (by simp) ?_
    refine AllReadyH.cons rfl (fun K hK => ?_) AllReadyH.nil
    have gc := (Hg.out.cell 0).trans rfl
    have gf := Hg.out.frozen 0
    have hgz := Hg.out.lt
    have hgg : w.heap.size + 1 + 1 < V0.heap.size := HG.out
    go_simp
    refine hK.out _ _ (Hs.out.far hgg _) (fun hHeld => ?_)
    clear hK K
    refine wpAnyH_done (by kernel_rfl) ?_ _
    (try simp only [Act.put, List.getElem_toArray, List.getElem_cons_succ, List.getElem_cons_zero, List.setIfInBounds_toArray, List.set_cons_zero, List.set_cons_succ])
    go_wp2_with fail
    go_meet
    exact ⟨A17, C17, A19, C19, V0.heap.size, rfl, rfl, (Hg.out.set 0 _), (Hr1.out.offS Hg.out _), (Hr2.out.offS Hg.out _), (Hs.out.far hgg _).bl⟩
   case rest =>
    obtain ⟨A1, c1, A2, c2, g, rfl, rfl, hk, hr1, hr2, hB⟩ := hcut
    have HCO := Lib.hid (conBd_any 41 #[.pointer (some ⟨g, 0, none⟩)] (fun x => !(decide (x ∈ l2))) A1 c1 l1 wc hr1 HN1.out (enters_of Tryz.func41 (by kernel_rfl) rfl)
     (fun x hx W hb => same1_any g A2 c2 l2 x W (hk.below hb hk.lt) ((hr2.below hb (Nat.le_refl _)).more hb.size) HN2.out))
    have g0 := (hk.cell 0).trans rfl
    have gl := hk.lt
    have HB := Lib.hid hB
    have hsub : Dd.sub l1 l2 = !(l1.any fun x => !(decide (x ∈ l2))) := by
     unfold Dd.sub
     rw [List.not_any_eq_all_not]
     simp
    have HSUB := Lib.hid hsub
    clear hk hr1 hr2 hB hsub
    by_cases hlen : l1.length = l2.length
    ·have q1 : ((l1.length : Int) == (l2.length : Int)) = true := by rw [hlen]; simp
     have HD := Lib.hid (show decide (l1.length = l2.length) = true from decide_eq_true hlen)
     clear hlen
     obtain ⟨z, hz⟩ : ∃ z, (l1.any fun x => !(decide (x ∈ l2))) = z := ⟨_, rfl⟩
     rw [hz] at HCO HSUB
     clear hz
     go_wp2_with fail
     refine HCO.out.mono ?_
     rintro e w9 ⟨rfl, hb9⟩
     have HB9 := Lib.hid (HB.out.trans (hb9.mono HB.out.size))
     clear hb9
     go_wp2_with fail
     go_ret2
     exact ⟨by rw [HD.out, HSUB.out]; rfl, HB9.out⟩
    ·have q1 : ((l1.length : Int) == (l2.length : Int)) = false := beq_eq_false_iff_ne.2 (by omega)
     have HD := Lib.hid (show decide (l1.length = l2.length) = false from decide_eq_false hlen)
     clear hlen
     go_wp2_with fail
     go_ret2
     exact ⟨by rw [HD.out]; rfl, HB.out⟩
theorem dSame_any (v : Fv) (f : Dd.Fd) (a b : Dd.Ca) (w : World) (hF : FRd w w.heap.size v f) (hS : Sn w) : Calls Tryz.prog 22 #[fval v f, caval a, caval b] w fun e w' => e = .returned (.tuple #[.bool (Dd.sameF f a b).1, .int .i64 (Dd.sameF f a b).2]) ∧ Below w.heap.size w w' := by
 unfold Dd.sameF
 by_cases ha : Dd.callE f a = 0
 ·rw [if_neg (by simpa using ha)]
  by_cases hb : Dd.callE f b = 0
  ·rw [if_neg (by simpa using hb), ← Dd.same_eq (Dd.callE_zero ha).2 (Dd.callE_zero hb).2]
   exact same_ok v f a b w hF hS ha hb
  ·rw [if_pos hb]
   exact same_b v f a b w hF hS ha hb
 ·rw [if_pos ha]
  exact same_a v f a b w hF hS ha
end Go.Proofs.YtcbeefbefapicaaGreatDoor
