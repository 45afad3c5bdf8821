/-
  What the claims of layer deed need of the texts DBk0, DBk1, DBk2, DBk3, DBk4, DBck.
-/
import Derived.Test.YtccikcpcfdjobaaGreatDoorBr35
import Derived.Test.YtccikcpcfdjobaaGreatDoorBr23
import Derived.Test.YtccikcpcfdjobaaGreatDoorBz
set_option linter.unusedVariables false
set_option linter.unusedSimpArgs false
set_option maxHeartbeats 8000000
set_option maxRecDepth 100000
namespace Go.Proofs.YtccikcpcfdjobaaGreatDoor
section
open Go.RowKit
structure Bb (w : World) (v : Fv) (f : Dd.Fd) (cs : Array Value) (W : World) : Prop where
 b : Below w.heap.size w W
 kF : Bk W w.heap.size 27 #[.slice v.a1 f.st.length v.c1, .slice v.a2 f.li.length v.c2, .slice v.a3 f.pa.length v.c3, .slice v.a4 f.va.length v.c4]
 kC : Bk W (w.heap.size + 1) 48 cs
 kZ : Bk W (w.heap.size + 1 + 1) 48 zero13
section
variable {w W W' : World} {v : Fv} {f : Dd.Fd} {cs : Array Value}
theorem Bb.next (h : Bb w v f cs W) (hb : Below W.heap.size W W') : Bb w v f cs W' := ⟨h.b.trans (hb.mono h.b.size), h.kF.below hb h.kF.lt, h.kC.below hb h.kC.lt, h.kZ.below hb h.kZ.lt⟩
theorem Bb.set (h : Bb w v f cs W) (i : Nat) (u : Value) : Bb w v f (cs.setIfInBounds i u) (W.setCell ⟨w.heap.size + 1, i, none⟩ u) :=
 ⟨h.b.setCell (p := ⟨w.heap.size + 1, i, none⟩) (by simp) u, h.kF.far (show w.heap.size ≠ w.heap.size + 1 by omega) u, h.kC.set i u, h.kZ.far (show w.heap.size + 1 + 1 ≠ w.heap.size + 1 by omega) u⟩
theorem Bb.set' (h : Bb w v f cs W) (i : Nat) (u : Value) (cs' : Array Value) (he : cs.setIfInBounds i u = cs') : Bb w v f cs' (W.setCell ⟨w.heap.size + 1, i, none⟩ u) := he ▸ h.set i u
theorem Bb.cut {c : Code} {P : Program} {Q : Exit → Act → World → Prop} {a : Act} (h : Bb w v f cs W) (k : ∀ W', Bb w v f cs W' → c.wp P Q a W') : c.wp P Q a W := k W h
theorem Bb.new (w : World) (v : Fv) (f : Dd.Fd) (cs : Array Value) : Bb w v f cs (((w.alloc (.cells #[.slice v.a1 f.st.length v.c1, .slice v.a2 f.li.length v.c2, .slice v.a3 f.pa.length v.c3, .slice v.a4 f.va.length v.c4] 27)).alloc (.cells cs 48)).alloc (.cells zero13 48)) := by
 obtain ⟨w1, h1⟩ : ∃ w1, w.alloc (.cells #[.slice v.a1 f.st.length v.c1, .slice v.a2 f.li.length v.c2, .slice v.a3 f.pa.length v.c3, .slice v.a4 f.va.length v.c4] 27) = w1 := ⟨_, rfl⟩
 have z1 : w1.heap.size = w.heap.size + 1 := by rw [← h1]; simp
 have k1 : Bk w1 w.heap.size 27 #[.slice v.a1 f.st.length v.c1, .slice v.a2 f.li.length v.c2, .slice v.a3 f.pa.length v.c3, .slice v.a4 f.va.length v.c4] := by rw [← h1]; exact Bk.new _ _ _
 have b1 : Below w.heap.size w w1 := by rw [← h1]; exact (Below.refl _ _).alloc (Nat.le_refl _) _
 rw [h1]
 obtain ⟨w2, h2⟩ : ∃ w2, w1.alloc (.cells cs 48) = w2 := ⟨_, rfl⟩
 have z2 : w2.heap.size = w.heap.size + 1 + 1 := by rw [← h2]; simp [z1]
 have k2 : Bk w2 (w.heap.size + 1) 48 cs := by rw [← h2, ← z1]; exact Bk.new _ _ _
 have b2 : Below w1.heap.size w1 w2 := by rw [← h2]; exact (Below.refl _ _).alloc (Nat.le_refl _) _
 rw [h2]
 have k3 : Bk (w2.alloc (.cells zero13 48)) (w.heap.size + 1 + 1) 48 zero13 := by rw [← z2]; exact Bk.new _ _ _
 have b3 : Below w2.heap.size w2 (w2.alloc (.cells zero13 48)) := (Below.refl _ _).alloc (Nat.le_refl _) _
 exact ⟨(b1.trans (b2.mono (by omega))).trans (b3.mono (by omega)), (k1.below b2 k1.lt).below b3 (by omega), k2.below b3 k2.lt, k3⟩
end
end

section
open Go.RowKit
theorem back_bad (v : Fv) (f : Dd.Fd) (k l o a b s e cb cn cl cy cw cs : Int) (w : World) (hF : FRd w w.heap.size v f) (hS : Sn w) (er : Int) (he : Dd.callE f ⟨k, l, o, a, b, s, e, ⟨cb, cn, cl, cy, cw, cs⟩⟩ = er) (hne : er ≠ 0) :
  Calls Tryz.prog 28 #[fval v f, caval ⟨k, l, o, a, b, s, e, ⟨cb, cn, cl, cy, cw, cs⟩⟩] w fun ee w' => ee = .returned (.tuple #[caval Dd.ca0, .int .i64 er]) ∧ Below w.heap.size w w' := by
 have S0 := jQ (Bb.new w v f #[.int .u8 k, .int .i64 l, .int .i64 o, .int .i64 a, .int .i64 b, .int .i64 s, .int .i64 e, .int .i64 cb, .int .i64 cn, .int .i64 cl, .int .i64 cy, .int .i64 cw, .int .i64 cs])
 have B0 := jQ (fun W (hb : Below w.heap.size w W) => dCheckCall_any v f ⟨k, l, o, a, b, s, e, ⟨cb, cn, cl, cy, cw, cs⟩⟩ W ((hF.below hb (Nat.le_refl _)).more hb.size) (hS.step hb))
 rw [he] at B0
 have hl0 := (S0.o.kF.cell 0).trans rfl
 have hl1 := (S0.o.kF.cell 1).trans rfl
 have hl2 := (S0.o.kF.cell 2).trans rfl
 have hl3 := (S0.o.kF.cell 3).trans rfl
 simp only [fval_def, caval_def, zero13] at B0 S0 hl0 hl1 hl2 hl3 ⊢
 clear hF hS he
 have g1 : (er != 0) = true := by simpa using hne
 clear hne
 go_enter Tryz.func28, Tryz.ntmps28
 go_wp2_with (first | (refine wpList_load_row rfl 48 (.tmp 3) rfl (w.heap.size + 1) rfl 48 _ (0, 0) _ S0.o.kC Tryz.underlying48 rfl (by kernel_rfl) ?_) | (refine wpList_load_row rfl 27 (.tmp 2) rfl w.heap.size rfl 27 _ (0, 0) _ S0.o.kF Tryz.underlying27 rfl (by kernel_rfl) ?_))
 refine (B0.o _ S0.o.b).mono ?_
 rintro ee w1 ⟨rfl, hb1⟩
 have S1 := jQ (S0.o.next hb1)
 clear hb1 hl0 hl1 hl2 hl3
 go_wp2_with (refine wpList_store_row rfl 48 (.tmp 4) (.tmp 12) rfl (w.heap.size + 1 + 1) _ rfl rfl 48 _ S1.o.kZ (by kernel_rfl) rfl (by kernel_rfl) ?_)
 exact bodyPost_ret (results_cell_row_tmp rfl _ _ (w.heap.size + 1 + 1) 48 _ (0, 0) _ (.int .i64 er) rfl rfl (S1.o.kZ.row _) Tryz.underlying48 rfl (by kernel_rfl)) rfl ⟨rfl, Below.rowNew S1.o.b (by omega) _⟩
end

section
open Go.RowKit
theorem back_same (v : Fv) (f : Dd.Fd) (k l o a b s e cb cn cl cy cw cs : Int) (w : World) (hF : FRd w w.heap.size v f) (hS : Sn w) (he : Dd.callE f ⟨k, l, o, a, b, s, e, ⟨cb, cn, cl, cy, cw, cs⟩⟩ = 0) (h3 : ¬ k = 3) (h5 : ¬ k = 5) :
  Calls Tryz.prog 28 #[fval v f, caval ⟨k, l, o, a, b, s, e, ⟨cb, cn, cl, cy, cw, cs⟩⟩] w fun ee w' => ee = .returned (.tuple #[caval ⟨k, l, o, a, b, s, e, ⟨cb, cn, cl, cy, cw, cs⟩⟩, .int .i64 0]) ∧ Below w.heap.size w w' := by
 have S0 := jQ (Bb.new w v f #[.int .u8 k, .int .i64 l, .int .i64 o, .int .i64 a, .int .i64 b, .int .i64 s, .int .i64 e, .int .i64 cb, .int .i64 cn, .int .i64 cl, .int .i64 cy, .int .i64 cw, .int .i64 cs])
 have B0 := jQ (fun W (hb : Below w.heap.size w W) => dCheckCall_any v f ⟨k, l, o, a, b, s, e, ⟨cb, cn, cl, cy, cw, cs⟩⟩ W ((hF.below hb (Nat.le_refl _)).more hb.size) (hS.step hb))
 rw [he] at B0
 have hl0 := (S0.o.kF.cell 0).trans rfl
 have hl1 := (S0.o.kF.cell 1).trans rfl
 have hl2 := (S0.o.kF.cell 2).trans rfl
 have hl3 := (S0.o.kF.cell 3).trans rfl
 simp only [fval_def, caval_def, zero13] at B0 S0 hl0 hl1 hl2 hl3 ⊢
 clear hF hS he
 have g3 : (k == 3) = false := by simpa using h3
 have g5 : (k == 5) = false := by simpa using h5
 clear h3 h5
 go_enter Tryz.func28, Tryz.ntmps28
 go_wp2_with (first | (refine wpList_load_row rfl 48 (.tmp 3) rfl (w.heap.size + 1) rfl 48 _ (0, 0) _ S0.o.kC Tryz.underlying48 rfl (by kernel_rfl) ?_) | (refine wpList_load_row rfl 27 (.tmp 2) rfl w.heap.size rfl 27 _ (0, 0) _ S0.o.kF Tryz.underlying27 rfl (by kernel_rfl) ?_))
 refine (B0.o _ S0.o.b).mono ?_
 rintro ee w1 ⟨rfl, hb1⟩
 have S1 := jQ (S0.o.next hb1)
 clear hb1 hl0 hl1 hl2 hl3
 have c0 := (S1.o.kC.cell 0).trans rfl
 have lc := S1.o.kC.lt
 go_wp2_with (first | (refine wpList_load_row rfl 48 (.tmp 3) rfl (w.heap.size + 1) rfl 48 _ (0, 0) _ S1.o.kC Tryz.underlying48 rfl (by kernel_rfl) ?_) | (refine wpList_store_row rfl 48 (.tmp 4) (.tmp 43) rfl (w.heap.size + 1 + 1) _ rfl rfl 48 _ S1.o.kZ (by kernel_rfl) rfl (by kernel_rfl) ?_))
 exact bodyPost_ret (results_cell_row_tmp rfl _ _ (w.heap.size + 1 + 1) 48 _ (0, 0) _ (.int .i64 0) rfl rfl (S1.o.kZ.row _) Tryz.underlying48 rfl (by kernel_rfl)) rfl ⟨rfl, Below.rowNew S1.o.b (by omega) _⟩
end

section
open Go.RowKit
theorem back_level (v : Fv) (f : Dd.Fd) (l o a b s e cb cn cl cy cw cs : Int) (w : World) (hF : FRd w w.heap.size v f) (hS : Sn w) (he : Dd.callE f ⟨5, l, o, a, b, s, e, ⟨cb, cn, cl, cy, cw, cs⟩⟩ = 0) (hs : -100000 ≤ s ∧ s ≤ 100000) :
  Calls Tryz.prog 28 #[fval v f, caval ⟨5, l, o, a, b, s, e, ⟨cb, cn, cl, cy, cw, cs⟩⟩] w fun ee w' => ee = .returned (.tuple #[caval ⟨5, l, o, b, a, -s, e, ⟨cb, cn, cl, cy, cw, cs⟩⟩, .int .i64 0]) ∧ Below w.heap.size w w' := by
 have S0 := jQ (Bb.new w v f #[.int .u8 5, .int .i64 l, .int .i64 o, .int .i64 a, .int .i64 b, .int .i64 s, .int .i64 e, .int .i64 cb, .int .i64 cn, .int .i64 cl, .int .i64 cy, .int .i64 cw, .int .i64 cs])
 have B0 := jQ (fun W (hb : Below w.heap.size w W) => dCheckCall_any v f ⟨5, l, o, a, b, s, e, ⟨cb, cn, cl, cy, cw, cs⟩⟩ W ((hF.below hb (Nat.le_refl _)).more hb.size) (hS.step hb))
 rw [he] at B0
 have hl0 := (S0.o.kF.cell 0).trans rfl
 have hl1 := (S0.o.kF.cell 1).trans rfl
 have hl2 := (S0.o.kF.cell 2).trans rfl
 have hl3 := (S0.o.kF.cell 3).trans rfl
 simp only [fval_def, caval_def, zero13] at B0 S0 hl0 hl1 hl2 hl3 ⊢
 clear hF hS he
 have hw : IntKind.i64.wrap (-s) = -s := IntWalk.i64_in _ (by omega)
 go_enter Tryz.func28, Tryz.ntmps28
 go_wp2_with (first | (refine wpList_load_row rfl 48 (.tmp 3) rfl (w.heap.size + 1) rfl 48 _ (0, 0) _ S0.o.kC Tryz.underlying48 rfl (by kernel_rfl) ?_) | (refine wpList_load_row rfl 27 (.tmp 2) rfl w.heap.size rfl 27 _ (0, 0) _ S0.o.kF Tryz.underlying27 rfl (by kernel_rfl) ?_))
 refine (B0.o _ S0.o.b).mono ?_
 rintro ee w1 ⟨rfl, hb1⟩
 have S1 := jQ (S0.o.next hb1)
 clear hb1 hl0 hl1 hl2 hl3
 have c0 := (S1.o.kC.cell 0).trans rfl
 have f0 := S1.o.kC.frozen 0
 have c3 := (S1.o.kC.cell 3).trans rfl
 have f3 := S1.o.kC.frozen 3
 have c4 := (S1.o.kC.cell 4).trans rfl
 have f4 := S1.o.kC.frozen 4
 have c5 := (S1.o.kC.cell 5).trans rfl
 have f5 := S1.o.kC.frozen 5
 have lc := S1.o.kC.lt
 have S4 := jQ (Bb.set' (Bb.set' (Bb.set' S1.o 3 (.int .i64 b) #[.int .u8 5, .int .i64 l, .int .i64 o, .int .i64 b, .int .i64 b, .int .i64 s, .int .i64 e, .int .i64 cb, .int .i64 cn, .int .i64 cl, .int .i64 cy, .int .i64 cw, .int .i64 cs] (by simp only [List.setIfInBounds_toArray, List.set_cons_succ, List.set_cons_zero])) 4 (.int .i64 a) #[.int .u8 5, .int .i64 l, .int .i64 o, .int .i64 b, .int .i64 a, .int .i64 s, .int .i64 e, .int .i64 cb, .int .i64 cn, .int .i64 cl, .int .i64 cy, .int .i64 cw, .int .i64 cs] (by simp only [List.setIfInBounds_toArray, List.set_cons_succ, List.set_cons_zero])) 5 (.int .i64 (-s)) #[.int .u8 5, .int .i64 l, .int .i64 o, .int .i64 b, .int .i64 a, .int .i64 (-s), .int .i64 e, .int .i64 cb, .int .i64 cn, .int .i64 cl, .int .i64 cy, .int .i64 cw, .int .i64 cs] (by simp only [List.setIfInBounds_toArray, List.set_cons_succ, List.set_cons_zero]))
 go_upto_region 11 with fail
 refine Bb.cut S4.o ?_
 intro W7 s7
 have S7 := jQ s7
 clear s7 S4
 go_wp2_with (first | (refine wpList_load_row rfl 48 (.tmp 3) rfl (w.heap.size + 1) rfl 48 _ (0, 0) _ S7.o.kC Tryz.underlying48 rfl (by kernel_rfl) ?_) | (refine wpList_store_row rfl 48 (.tmp 4) (.tmp 43) rfl (w.heap.size + 1 + 1) _ rfl rfl 48 _ S7.o.kZ (by kernel_rfl) rfl (by kernel_rfl) ?_))
 exact bodyPost_ret (results_cell_row_tmp rfl _ _ (w.heap.size + 1 + 1) 48 _ (0, 0) _ (.int .i64 0) rfl rfl (S7.o.kZ.row _) Tryz.underlying48 rfl (by kernel_rfl)) rfl ⟨rfl, Below.rowNew S7.o.b (by omega) _⟩
end

section
open Go.RowKit
theorem back_course (v : Fv) (f : Dd.Fd) (l o a b s e cb cn cl cy cw cs : Int) (w : World) (hF : FRd w w.heap.size v f) (hS : Sn w) (he : Dd.callE f ⟨3, l, o, a, b, s, e, ⟨cb, cn, cl, cy, cw, cs⟩⟩ = 0) :
  Calls Tryz.prog 28 #[fval v f, caval ⟨3, l, o, a, b, s, e, ⟨cb, cn, cl, cy, cw, cs⟩⟩] w fun ee w' => ee = .returned (.tuple #[caval ⟨3, l, o, b, a, s, e, (Cs.revF ⟨cb, cn, cl, cy, cw, cs⟩).1⟩, .int .i64 0]) ∧ Below w.heap.size w w' := by
 have S0 := jQ (Bb.new w v f #[.int .u8 3, .int .i64 l, .int .i64 o, .int .i64 a, .int .i64 b, .int .i64 s, .int .i64 e, .int .i64 cb, .int .i64 cn, .int .i64 cl, .int .i64 cy, .int .i64 cw, .int .i64 cs])
 have B1 := jQ (fun W => Reverse_any ⟨cb, cn, cl, cy, cw, cs⟩ W)
 obtain ⟨r, hr⟩ : ∃ r, Cs.revF ⟨cb, cn, cl, cy, cw, cs⟩ = r := ⟨_, rfl⟩
 rw [hr] at B1 ⊢
 obtain ⟨⟨rb, rn, rl, ry, rw_, rs⟩, re⟩ := r
 simp only [cval] at B1
 clear hr
 have B0 := jQ (fun W (hb : Below w.heap.size w W) => dCheckCall_any v f ⟨3, l, o, a, b, s, e, ⟨cb, cn, cl, cy, cw, cs⟩⟩ W ((hF.below hb (Nat.le_refl _)).more hb.size) (hS.step hb))
 rw [he] at B0
 have hl0 := (S0.o.kF.cell 0).trans rfl
 have hl1 := (S0.o.kF.cell 1).trans rfl
 have hl2 := (S0.o.kF.cell 2).trans rfl
 have hl3 := (S0.o.kF.cell 3).trans rfl
 simp only [fval_def, caval_def, zero13] at B0 S0 hl0 hl1 hl2 hl3 ⊢
 clear hF hS he
 go_enter Tryz.func28, Tryz.ntmps28
 go_wp2_with (first | (refine wpList_load_row rfl 48 (.tmp 3) rfl (w.heap.size + 1) rfl 48 _ (0, 0) _ S0.o.kC Tryz.underlying48 rfl (by kernel_rfl) ?_) | (refine wpList_load_row rfl 27 (.tmp 2) rfl w.heap.size rfl 27 _ (0, 0) _ S0.o.kF Tryz.underlying27 rfl (by kernel_rfl) ?_))
 refine (B0.o _ S0.o.b).mono ?_
 rintro ee w1 ⟨rfl, hb1⟩
 have S1 := jQ (S0.o.next hb1)
 clear hb1 hl0 hl1 hl2 hl3
 have c0 := (S1.o.kC.cell 0).trans rfl
 have f0 := S1.o.kC.frozen 0
 have c1 := (S1.o.kC.cell 1).trans rfl
 have f1 := S1.o.kC.frozen 1
 have c2 := (S1.o.kC.cell 2).trans rfl
 have f2 := S1.o.kC.frozen 2
 have c3 := (S1.o.kC.cell 3).trans rfl
 have f3 := S1.o.kC.frozen 3
 have c4 := (S1.o.kC.cell 4).trans rfl
 have f4 := S1.o.kC.frozen 4
 have c5 := (S1.o.kC.cell 5).trans rfl
 have f5 := S1.o.kC.frozen 5
 have c6 := (S1.o.kC.cell 6).trans rfl
 have f6 := S1.o.kC.frozen 6
 have c7 := (S1.o.kC.cell 7).trans rfl
 have f7 := S1.o.kC.frozen 7
 have c8 := (S1.o.kC.cell 8).trans rfl
 have f8 := S1.o.kC.frozen 8
 have c9 := (S1.o.kC.cell 9).trans rfl
 have f9 := S1.o.kC.frozen 9
 have c10 := (S1.o.kC.cell 10).trans rfl
 have f10 := S1.o.kC.frozen 10
 have c11 := (S1.o.kC.cell 11).trans rfl
 have f11 := S1.o.kC.frozen 11
 have c12 := (S1.o.kC.cell 12).trans rfl
 have f12 := S1.o.kC.frozen 12
 have lc := S1.o.kC.lt
 have S3 := jQ (Bb.set' (Bb.set' S1.o 3 (.int .i64 b) #[.int .u8 3, .int .i64 l, .int .i64 o, .int .i64 b, .int .i64 b, .int .i64 s, .int .i64 e, .int .i64 cb, .int .i64 cn, .int .i64 cl, .int .i64 cy, .int .i64 cw, .int .i64 cs] (by simp only [List.setIfInBounds_toArray, List.set_cons_succ, List.set_cons_zero])) 4 (.int .i64 a) #[.int .u8 3, .int .i64 l, .int .i64 o, .int .i64 b, .int .i64 a, .int .i64 s, .int .i64 e, .int .i64 cb, .int .i64 cn, .int .i64 cl, .int .i64 cy, .int .i64 cw, .int .i64 cs] (by simp only [List.setIfInBounds_toArray, List.set_cons_succ, List.set_cons_zero]))
 go_wp2_with fail
 refine (B1.o _).mono ?_
 rintro ee w2 ⟨rfl, hb2⟩
 have S4 := jQ (S3.o.next hb2)
 clear hb2 c0 f0 c1 f1 c2 f2 c3 f3 c4 f4 c5 f5 c6 f6 c7 f7 c8 f8 c9 f9 c10 f10 c11 f11 c12 f12 lc
 have c0 := (S4.o.kC.cell 0).trans rfl
 have f0 := S4.o.kC.frozen 0
 have c1 := (S4.o.kC.cell 1).trans rfl
 have f1 := S4.o.kC.frozen 1
 have c2 := (S4.o.kC.cell 2).trans rfl
 have f2 := S4.o.kC.frozen 2
 have c3 := (S4.o.kC.cell 3).trans rfl
 have f3 := S4.o.kC.frozen 3
 have c4 := (S4.o.kC.cell 4).trans rfl
 have f4 := S4.o.kC.frozen 4
 have c5 := (S4.o.kC.cell 5).trans rfl
 have f5 := S4.o.kC.frozen 5
 have c6 := (S4.o.kC.cell 6).trans rfl
 have f6 := S4.o.kC.frozen 6
 have c7 := (S4.o.kC.cell 7).trans rfl
 have f7 := S4.o.kC.frozen 7
 have c8 := (S4.o.kC.cell 8).trans rfl
 have f8 := S4.o.kC.frozen 8
 have c9 := (S4.o.kC.cell 9).trans rfl
 have f9 := S4.o.kC.frozen 9
 have c10 := (S4.o.kC.cell 10).trans rfl
 have f10 := S4.o.kC.frozen 10
 have c11 := (S4.o.kC.cell 11).trans rfl
 have f11 := S4.o.kC.frozen 11
 have c12 := (S4.o.kC.cell 12).trans rfl
 have f12 := S4.o.kC.frozen 12
 have lc := S4.o.kC.lt
 have S9 := jQ (Bb.set' (Bb.set' (Bb.set' (Bb.set' (Bb.set' (Bb.set' S4.o 7 (.int .i64 rb) #[.int .u8 3, .int .i64 l, .int .i64 o, .int .i64 b, .int .i64 a, .int .i64 s, .int .i64 e, .int .i64 rb, .int .i64 cn, .int .i64 cl, .int .i64 cy, .int .i64 cw, .int .i64 cs] (by simp only [List.setIfInBounds_toArray, List.set_cons_succ, List.set_cons_zero])) 8 (.int .i64 rn) #[.int .u8 3, .int .i64 l, .int .i64 o, .int .i64 b, .int .i64 a, .int .i64 s, .int .i64 e, .int .i64 rb, .int .i64 rn, .int .i64 cl, .int .i64 cy, .int .i64 cw, .int .i64 cs] (by simp only [List.setIfInBounds_toArray, List.set_cons_succ, List.set_cons_zero])) 9 (.int .i64 rl) #[.int .u8 3, .int .i64 l, .int .i64 o, .int .i64 b, .int .i64 a, .int .i64 s, .int .i64 e, .int .i64 rb, .int .i64 rn, .int .i64 rl, .int .i64 cy, .int .i64 cw, .int .i64 cs] (by simp only [List.setIfInBounds_toArray, List.set_cons_succ, List.set_cons_zero])) 10 (.int .i64 ry) #[.int .u8 3, .int .i64 l, .int .i64 o, .int .i64 b, .int .i64 a, .int .i64 s, .int .i64 e, .int .i64 rb, .int .i64 rn, .int .i64 rl, .int .i64 ry, .int .i64 cw, .int .i64 cs] (by simp only [List.setIfInBounds_toArray, List.set_cons_succ, List.set_cons_zero])) 11 (.int .i64 rw_) #[.int .u8 3, .int .i64 l, .int .i64 o, .int .i64 b, .int .i64 a, .int .i64 s, .int .i64 e, .int .i64 rb, .int .i64 rn, .int .i64 rl, .int .i64 ry, .int .i64 rw_, .int .i64 cs] (by simp only [List.setIfInBounds_toArray, List.set_cons_succ, List.set_cons_zero])) 12 (.int .i64 rs) #[.int .u8 3, .int .i64 l, .int .i64 o, .int .i64 b, .int .i64 a, .int .i64 s, .int .i64 e, .int .i64 rb, .int .i64 rn, .int .i64 rl, .int .i64 ry, .int .i64 rw_, .int .i64 rs] (by simp only [List.setIfInBounds_toArray, List.set_cons_succ, List.set_cons_zero]))
 go_upto_region 11 with fail
 refine Bb.cut S9.o ?_
 intro W7 s7
 have S7 := jQ s7
 clear s7 S9
 go_wp2_with (first | (refine wpList_load_row rfl 48 (.tmp 3) rfl (w.heap.size + 1) rfl 48 _ (0, 0) _ S7.o.kC Tryz.underlying48 rfl (by kernel_rfl) ?_) | (refine wpList_store_row rfl 48 (.tmp 4) (.tmp 43) rfl (w.heap.size + 1 + 1) _ rfl rfl 48 _ S7.o.kZ (by kernel_rfl) rfl (by kernel_rfl) ?_))
 exact bodyPost_ret (results_cell_row_tmp rfl _ _ (w.heap.size + 1 + 1) 48 _ (0, 0) _ (.int .i64 0) rfl rfl (S7.o.kZ.row _) Tryz.underlying48 rfl (by kernel_rfl)) rfl ⟨rfl, Below.rowNew S7.o.b (by omega) _⟩
end

section
open Go.RowKit
theorem dBack_any (v : Fv) (f : Dd.Fd) (x : Dd.Ca) (w : World) (hF : FRd w w.heap.size v f) (hS : Sn w) :
  Calls Tryz.prog 28 #[fval v f, caval x] w fun e w' => e = .returned (.tuple #[caval (Dd.backF f x).1, .int .i64 (Dd.backF f x).2]) ∧ Below w.heap.size w w' := by
 by_cases he : Dd.callE f x = 0
 ·have hd : Dd.backF f x = (Dd.turnC x, 0) := by unfold Dd.backF; rw [if_neg (by simp [he])]
  rw [hd]
  obtain ⟨k, l, o, a, b, s, e, ⟨cb, cn, cl, cy, cw, cs⟩⟩ := x
  by_cases h3 : k = 3
  ·subst h3
   exact back_course v f l o a b s e cb cn cl cy cw cs w hF hS he
  ·by_cases h5 : k = 5
   ·subst h5
    refine back_level v f l o a b s e cb cn cl cy cw cs w hF hS he ?_
    have hf0 : Dd.fieldE f = 0 := by
     unfold Dd.callE at he
     by_cases h : Dd.fieldE f = 0
     ·exact h
     ·rw [if_pos h] at he; exact absurd he h
    have hg : Dd.callG f ⟨5, l, o, a, b, s, e, ⟨cb, cn, cl, cy, cw, cs⟩⟩ = 0 := by
     unfold Dd.callE at he
     rwa [if_neg (by simp [hf0])] at he
    unfold Dd.callG at hg
    by_cases ht : (Dd.there f ⟨5, l, o, a, b, s, e, ⟨cb, cn, cl, cy, cw, cs⟩⟩ && Dd.ordered ⟨5, l, o, a, b, s, e, ⟨cb, cn, cl, cy, cw, cs⟩⟩ && Dd.bare ⟨5, l, o, a, b, s, e, ⟨cb, cn, cl, cy, cw, cs⟩⟩) = true
    ·simp only [Bool.and_eq_true] at ht
     have h := ht.1.1
     simp only [Dd.there, Bool.and_eq_true, decide_eq_true_eq] at h
     exact h.1.2
    ·rw [if_neg ht] at hg; exact absurd hg (by decide)
   ·have hx : Dd.turnC ⟨k, l, o, a, b, s, e, ⟨cb, cn, cl, cy, cw, cs⟩⟩ = ⟨k, l, o, a, b, s, e, ⟨cb, cn, cl, cy, cw, cs⟩⟩ := by
     unfold Dd.turnC
     rw [if_neg h3, if_neg h5]
    rw [hx]
    exact back_same v f k l o a b s e cb cn cl cy cw cs w hF hS he h3 h5
 ·have hd : Dd.backF f x = (Dd.ca0, Dd.callE f x) := by unfold Dd.backF; rw [if_pos he]
  rw [hd]
  obtain ⟨k, l, o, a, b, s, e, ⟨cb, cn, cl, cy, cw, cs⟩⟩ := x
  exact back_bad v f k l o a b s e cb cn cl cy cw cs w hF hS _ rfl he
end
end Go.Proofs.YtccikcpcfdjobaaGreatDoor
