/-
  What the claims of layer deed need of the texts DQh1, DQh2, DQh3, DQh.
-/
import Derived.Test.YtccikcpcfdjobaaGreatDoorBq35
import Derived.Test.YtccikcpcfdjobaaGreatDoorBz
set_option linter.unusedVariables false
set_option linter.unusedSimpArgs false
set_option maxHeartbeats 8000000
set_option maxRecDepth 100000
namespace Go.Proofs.YtccikcpcfdjobaaGreatDoor
section
open Go.RowKit
theorem qback_bad (v : Fv) (f : Dd.Fd) (k l o a b s e cb cn cl cy cw cs : Int) (w : World) (hF : FRd w w.heap.size v f) (er : Int) (he : Dd.callE f ⟨k, l, o, a, b, s, e, ⟨cb, cn, cl, cy, cw, cs⟩⟩ = er) (hne : er ≠ 0) :
  Calls Tryz.prog 29 #[fval v f, caval ⟨k, l, o, a, b, s, e, ⟨cb, cn, cl, cy, cw, cs⟩⟩] w fun ee w' => ee = .returned (.tuple #[caval Dd.ca0, .int .i64 er]) ∧ Below w.heap.size w w' := by
 have S0 := jQ (Bb.new w v f #[.int .u8 k, .int .i64 l, .int .i64 o, .int .i64 a, .int .i64 b, .int .i64 s, .int .i64 e, .int .i64 cb, .int .i64 cn, .int .i64 cl, .int .i64 cy, .int .i64 cw, .int .i64 cs])
 have B0 := jQ (fun W (hb : Below w.heap.size w W) => qCheckCallF_any v f ⟨k, l, o, a, b, s, e, ⟨cb, cn, cl, cy, cw, cs⟩⟩ W ((hF.below hb (Nat.le_refl _)).more hb.size))
 rw [he] at B0
 have hl0 := (S0.o.kF.cell 0).trans rfl
 have hl1 := (S0.o.kF.cell 1).trans rfl
 have hl2 := (S0.o.kF.cell 2).trans rfl
 have hl3 := (S0.o.kF.cell 3).trans rfl
 simp only [fval_def, caval_def, zero13] at B0 S0 hl0 hl1 hl2 hl3 ⊢
 clear hF he
 have g1 : (er != 0) = true := by simpa using hne
 clear hne
 go_enter Tryz.func29, Tryz.ntmps29
 go_wp2_with (first | (refine wpList_load_row rfl 48 (.tmp 3) rfl (w.heap.size + 1) rfl 48 _ (0, 0) _ S0.o.kC Tryz.underlying48 rfl (by kernel_rfl) ?_) | (refine wpList_load_row rfl 27 (.tmp 2) rfl w.heap.size rfl 27 _ (0, 0) _ S0.o.kF Tryz.underlying27 rfl (by kernel_rfl) ?_))
 refine (B0.o _ S0.o.b).mono ?_
 rintro ee w1 ⟨rfl, hb1⟩
 have S1 := jQ (S0.o.next hb1)
 clear hb1 hl0 hl1 hl2 hl3 S0
 go_wp2_with (refine wpList_store_row rfl 48 (.tmp 4) (.tmp 13) rfl (w.heap.size + 1 + 1) _ rfl rfl 48 _ S1.o.kZ (by kernel_rfl) rfl (by kernel_rfl) ?_)
 exact bodyPost_ret (results_cell_row_tmp rfl _ _ (w.heap.size + 1 + 1) 48 _ (0, 0) _ (.int .i64 er) rfl rfl (S1.o.kZ.row _) Tryz.underlying48 rfl (by kernel_rfl)) rfl ⟨rfl, Below.rowNew S1.o.b (by omega) _⟩
theorem qback_same (v : Fv) (f : Dd.Fd) (k l o a b s e cb cn cl cy cw cs : Int) (w : World) (hF : FRd w w.heap.size v f) (he : Dd.callE f ⟨k, l, o, a, b, s, e, ⟨cb, cn, cl, cy, cw, cs⟩⟩ = 0) (n3 : ¬ k = 3) (n5 : ¬ k = 5) :
  Calls Tryz.prog 29 #[fval v f, caval ⟨k, l, o, a, b, s, e, ⟨cb, cn, cl, cy, cw, cs⟩⟩] w fun ee w' => ee = .returned (.tuple #[caval ⟨k, l, o, a, b, s, e, ⟨cb, cn, cl, cy, cw, cs⟩⟩, .int .i64 0]) ∧ Below w.heap.size w w' := by
 have S0 := jQ (Bb.new w v f #[.int .u8 k, .int .i64 l, .int .i64 o, .int .i64 a, .int .i64 b, .int .i64 s, .int .i64 e, .int .i64 cb, .int .i64 cn, .int .i64 cl, .int .i64 cy, .int .i64 cw, .int .i64 cs])
 have B0 := jQ (fun W (hb : Below w.heap.size w W) => qCheckCallF_any v f ⟨k, l, o, a, b, s, e, ⟨cb, cn, cl, cy, cw, cs⟩⟩ W ((hF.below hb (Nat.le_refl _)).more hb.size))
 rw [he] at B0
 have hl0 := (S0.o.kF.cell 0).trans rfl
 have hl1 := (S0.o.kF.cell 1).trans rfl
 have hl2 := (S0.o.kF.cell 2).trans rfl
 have hl3 := (S0.o.kF.cell 3).trans rfl
 simp only [fval_def, caval_def, zero13] at B0 S0 hl0 hl1 hl2 hl3 ⊢
 clear hF he
 have g3 : (k != 3) = true := by simpa using n3
 have g5 : (k != 5) = true := by simpa using n5
 clear n3 n5
 go_enter Tryz.func29, Tryz.ntmps29
 go_wp2_with (first | (refine wpList_load_row rfl 48 (.tmp 3) rfl (w.heap.size + 1) rfl 48 _ (0, 0) _ S0.o.kC Tryz.underlying48 rfl (by kernel_rfl) ?_) | (refine wpList_load_row rfl 27 (.tmp 2) rfl w.heap.size rfl 27 _ (0, 0) _ S0.o.kF Tryz.underlying27 rfl (by kernel_rfl) ?_))
 refine (B0.o _ S0.o.b).mono ?_
 rintro ee w1 ⟨rfl, hb1⟩
 have S1 := jQ (S0.o.next hb1)
 clear hb1 hl0 hl1 hl2 hl3 S0
 have c0 := (S1.o.kC.cell 0).trans rfl
 have lc := S1.o.kC.lt
 go_wp2_with (first | (refine wpList_load_row rfl 48 (.tmp 3) rfl (w.heap.size + 1) rfl 48 _ (0, 0) _ S1.o.kC Tryz.underlying48 rfl (by kernel_rfl) ?_) | (refine wpList_store_row rfl 48 (.tmp 4) (.tmp 23) rfl (w.heap.size + 1 + 1) _ rfl rfl 48 _ S1.o.kZ (by kernel_rfl) rfl (by kernel_rfl) ?_))
 exact bodyPost_ret (results_cell_row_tmp rfl _ _ (w.heap.size + 1 + 1) 48 _ (0, 0) _ (.int .i64 0) rfl rfl (S1.o.kZ.row _) Tryz.underlying48 rfl (by kernel_rfl)) rfl ⟨rfl, Below.rowNew S1.o.b (by omega) _⟩
end

section
open Go.RowKit
theorem qback_level (v : Fv) (f : Dd.Fd) (l o a b s e cb cn cl cy cw cs : Int) (w : World) (hF : FRd w w.heap.size v f) (he : Dd.callE f ⟨5, l, o, a, b, s, e, ⟨cb, cn, cl, cy, cw, cs⟩⟩ = 0) :
  Calls Tryz.prog 29 #[fval v f, caval ⟨5, l, o, a, b, s, e, ⟨cb, cn, cl, cy, cw, cs⟩⟩] w fun ee w' => ee = .returned (.tuple #[caval ⟨5, l, o, b, a, -s, e, ⟨cb, cn, cl, cy, cw, cs⟩⟩, .int .i64 0]) ∧ Below w.heap.size w w' := by
 have S0 := jQ (Bb.new w v f #[.int .u8 5, .int .i64 l, .int .i64 o, .int .i64 a, .int .i64 b, .int .i64 s, .int .i64 e, .int .i64 cb, .int .i64 cn, .int .i64 cl, .int .i64 cy, .int .i64 cw, .int .i64 cs])
 have B0 := jQ (fun W (hb : Below w.heap.size w W) => qCheckCallF_any v f ⟨5, l, o, a, b, s, e, ⟨cb, cn, cl, cy, cw, cs⟩⟩ W ((hF.below hb (Nat.le_refl _)).more hb.size))
 rw [he] at B0
 have hl0 := (S0.o.kF.cell 0).trans rfl
 have hl1 := (S0.o.kF.cell 1).trans rfl
 have hl2 := (S0.o.kF.cell 2).trans rfl
 have hl3 := (S0.o.kF.cell 3).trans rfl
 simp only [fval_def, caval_def, zero13] at B0 S0 hl0 hl1 hl2 hl3 ⊢
 have hsz := Dd.call_sz he
 dsimp only at hsz
 have hwn : IntKind.i64.wrap (-s) = -s := IntWalk.i64_in _ (by omega)
 clear hF he hsz
 go_enter Tryz.func29, Tryz.ntmps29
 go_wp2_with (first | (refine wpList_load_row rfl 48 (.tmp 3) rfl (w.heap.size + 1) rfl 48 _ (0, 0) _ S0.o.kC Tryz.underlying48 rfl (by kernel_rfl) ?_) | (refine wpList_load_row rfl 27 (.tmp 2) rfl w.heap.size rfl 27 _ (0, 0) _ S0.o.kF Tryz.underlying27 rfl (by kernel_rfl) ?_))
 refine (B0.o _ S0.o.b).mono ?_
 rintro ee w1 ⟨rfl, hb1⟩
 have S1 := jQ (S0.o.next hb1)
 clear hb1 hl0 hl1 hl2 hl3 S0
 have c0 := (S1.o.kC.cell 0).trans rfl
 have lc := S1.o.kC.lt
 go_upto_region 7 with (first | (refine wpList_load_row rfl 48 (.tmp 3) rfl (w.heap.size + 1) rfl 48 _ (0, 0) _ S1.o.kC Tryz.underlying48 rfl (by kernel_rfl) ?_) | (refine wpList_store_row rfl 48 (.tmp 7) (.tmp 24) rfl w1.heap.size _ rfl rfl 48 _ (Bk.new w1 48 zero13) (by kernel_rfl) rfl (by kernel_rfl) ?_))
 have D2 := jQ (Bo.copy S1.o #[.int .u8 5, .int .i64 l, .int .i64 o, .int .i64 a, .int .i64 b, .int .i64 s, .int .i64 e, .int .i64 cb, .int .i64 cn, .int .i64 cl, .int .i64 cy, .int .i64 cw, .int .i64 cs])
 refine wp_cutW (fun V => Bo w v f #[.int .u8 5, .int .i64 l, .int .i64 o, .int .i64 a, .int .i64 b, .int .i64 s, .int .i64 e, .int .i64 cb, .int .i64 cn, .int .i64 cl, .int .i64 cy, .int .i64 cw, .int .i64 cs] w1.heap.size #[.int .u8 5, .int .i64 l, .int .i64 o, .int .i64 a, .int .i64 b, .int .i64 s, .int .i64 e, .int .i64 cb, .int .i64 cn, .int .i64 cl, .int .i64 cy, .int .i64 cw, .int .i64 cs] V) D2.o ?_
 obtain ⟨g, hg⟩ : ∃ g, w1.heap.size = g := ⟨_, rfl⟩
 rw [hg]
 clear c0 lc S1 D2 hg
 intro W3 hD
 have D3 := jQ hD
 clear hD
 have c0 := (D3.o.bb.kC.cell 0).trans rfl
 have c3 := (D3.o.bb.kC.cell 3).trans rfl
 have c4 := (D3.o.bb.kC.cell 4).trans rfl
 have c5 := (D3.o.bb.kC.cell 5).trans rfl
 have lc := D3.o.bb.kC.lt
 have q3 := (D3.o.kD.cell 3).trans rfl
 have r3 := D3.o.kD.frozen 3
 have lg := D3.o.kD.lt
 go_upto_region 8 with fail
 refine wp_cutW (fun V => Bo w v f #[.int .u8 5, .int .i64 l, .int .i64 o, .int .i64 a, .int .i64 b, .int .i64 s, .int .i64 e, .int .i64 cb, .int .i64 cn, .int .i64 cl, .int .i64 cy, .int .i64 cw, .int .i64 cs] g #[.int .u8 5, .int .i64 l, .int .i64 o, .int .i64 b, .int .i64 b, .int .i64 s, .int .i64 e, .int .i64 cb, .int .i64 cn, .int .i64 cl, .int .i64 cy, .int .i64 cw, .int .i64 cs] V) (D3.o.set 3 (.int .i64 b) #[.int .u8 5, .int .i64 l, .int .i64 o, .int .i64 b, .int .i64 b, .int .i64 s, .int .i64 e, .int .i64 cb, .int .i64 cn, .int .i64 cl, .int .i64 cy, .int .i64 cw, .int .i64 cs] (by simp only [List.setIfInBounds_toArray, List.set_cons_succ, List.set_cons_zero])) ?_
 clear c0 c3 c4 c5 lc q3 r3 lg D3
 intro W4 hD
 have D4 := jQ hD
 clear hD
 have c0 := (D4.o.bb.kC.cell 0).trans rfl
 have c3 := (D4.o.bb.kC.cell 3).trans rfl
 have c4 := (D4.o.bb.kC.cell 4).trans rfl
 have c5 := (D4.o.bb.kC.cell 5).trans rfl
 have lc := D4.o.bb.kC.lt
 have q4 := (D4.o.kD.cell 4).trans rfl
 have r4 := D4.o.kD.frozen 4
 have lg := D4.o.kD.lt
 go_upto_region 9 with fail
 refine wp_cutW (fun V => Bo w v f #[.int .u8 5, .int .i64 l, .int .i64 o, .int .i64 a, .int .i64 b, .int .i64 s, .int .i64 e, .int .i64 cb, .int .i64 cn, .int .i64 cl, .int .i64 cy, .int .i64 cw, .int .i64 cs] g #[.int .u8 5, .int .i64 l, .int .i64 o, .int .i64 b, .int .i64 a, .int .i64 s, .int .i64 e, .int .i64 cb, .int .i64 cn, .int .i64 cl, .int .i64 cy, .int .i64 cw, .int .i64 cs] V) (D4.o.set 4 (.int .i64 a) #[.int .u8 5, .int .i64 l, .int .i64 o, .int .i64 b, .int .i64 a, .int .i64 s, .int .i64 e, .int .i64 cb, .int .i64 cn, .int .i64 cl, .int .i64 cy, .int .i64 cw, .int .i64 cs] (by simp only [List.setIfInBounds_toArray, List.set_cons_succ, List.set_cons_zero])) ?_
 clear c0 c3 c4 c5 lc q4 r4 lg D4
 intro W5 hD
 have D5 := jQ hD
 clear hD
 have c0 := (D5.o.bb.kC.cell 0).trans rfl
 have c3 := (D5.o.bb.kC.cell 3).trans rfl
 have c4 := (D5.o.bb.kC.cell 4).trans rfl
 have c5 := (D5.o.bb.kC.cell 5).trans rfl
 have lc := D5.o.bb.kC.lt
 have q5 := (D5.o.kD.cell 5).trans rfl
 have r5 := D5.o.kD.frozen 5
 have lg := D5.o.kD.lt
 go_upto_region 10 with fail
 refine wp_cutW (fun V => Bo w v f #[.int .u8 5, .int .i64 l, .int .i64 o, .int .i64 a, .int .i64 b, .int .i64 s, .int .i64 e, .int .i64 cb, .int .i64 cn, .int .i64 cl, .int .i64 cy, .int .i64 cw, .int .i64 cs] g #[.int .u8 5, .int .i64 l, .int .i64 o, .int .i64 b, .int .i64 a, .int .i64 (-s), .int .i64 e, .int .i64 cb, .int .i64 cn, .int .i64 cl, .int .i64 cy, .int .i64 cw, .int .i64 cs] V) (D5.o.set 5 (.int .i64 (-s)) #[.int .u8 5, .int .i64 l, .int .i64 o, .int .i64 b, .int .i64 a, .int .i64 (-s), .int .i64 e, .int .i64 cb, .int .i64 cn, .int .i64 cl, .int .i64 cy, .int .i64 cw, .int .i64 cs] (by simp only [List.setIfInBounds_toArray, List.set_cons_succ, List.set_cons_zero])) ?_
 clear c0 c3 c4 c5 lc q5 r5 lg D5
 intro W6 hD
 have D6 := jQ hD
 clear hD
 have c0 := (D6.o.bb.kC.cell 0).trans rfl
 have lc := D6.o.bb.kC.lt
 go_wp2_with (first | (refine wpList_load_row rfl 48 (.tmp 7) rfl g rfl 48 _ (0, 0) _ D6.o.kD Tryz.underlying48 rfl (by kernel_rfl) ?_) | (refine wpList_store_row rfl 48 (.tmp 4) (.tmp 45) rfl (w.heap.size + 1 + 1) _ rfl rfl 48 _ D6.o.bb.kZ (by kernel_rfl) rfl (by kernel_rfl) ?_))
 exact bodyPost_ret (results_cell_row_tmp rfl _ _ (w.heap.size + 1 + 1) 48 _ (0, 0) _ (.int .i64 0) rfl rfl (D6.o.bb.kZ.row _) Tryz.underlying48 rfl (by kernel_rfl)) rfl ⟨rfl, Below.rowNew D6.o.bb.b (by omega) _⟩
end

section
open Go.RowKit
theorem qback_course (v : Fv) (f : Dd.Fd) (l o a b s e cb cn cl cy cw cs : Int) (w : World) (hF : FRd w w.heap.size v f) (he : Dd.callE f ⟨3, l, o, a, b, s, e, ⟨cb, cn, cl, cy, cw, cs⟩⟩ = 0) :
  Calls Tryz.prog 29 #[fval v f, caval ⟨3, l, o, a, b, s, e, ⟨cb, cn, cl, cy, cw, cs⟩⟩] w fun ee w' => ee = .returned (.tuple #[caval ⟨3, l, o, b, a, s, e, (Cs.revF ⟨cb, cn, cl, cy, cw, cs⟩).1⟩, .int .i64 0]) ∧ Below w.heap.size w w' := by
 have B1 := jQ (fun W => rReverse_any ⟨cb, cn, cl, cy, cw, cs⟩ W)
 obtain ⟨r, hr⟩ : ∃ r, Cs.revF ⟨cb, cn, cl, cy, cw, cs⟩ = r := ⟨_, rfl⟩
 rw [hr] at B1 ⊢
 obtain ⟨⟨rb, rn, rl, ry, rw_, rs⟩, re⟩ := r
 simp only [cval] at B1
 clear hr
 have hs0 := Dd.call_s3 he rfl
 dsimp only at hs0
 have S0 := jQ (Bb.new w v f #[.int .u8 3, .int .i64 l, .int .i64 o, .int .i64 a, .int .i64 b, .int .i64 s, .int .i64 e, .int .i64 cb, .int .i64 cn, .int .i64 cl, .int .i64 cy, .int .i64 cw, .int .i64 cs])
 have B0 := jQ (fun W (hb : Below w.heap.size w W) => qCheckCallF_any v f ⟨3, l, o, a, b, s, e, ⟨cb, cn, cl, cy, cw, cs⟩⟩ W ((hF.below hb (Nat.le_refl _)).more hb.size))
 rw [he] at B0
 have hl0 := (S0.o.kF.cell 0).trans rfl
 have hl1 := (S0.o.kF.cell 1).trans rfl
 have hl2 := (S0.o.kF.cell 2).trans rfl
 have hl3 := (S0.o.kF.cell 3).trans rfl
 rw [show (caval ⟨3, l, o, b, a, s, e, ⟨rb, rn, rl, ry, rw_, rs⟩⟩) = caval ⟨3, l, o, b, a, -s, e, ⟨rb, rn, rl, ry, rw_, rs⟩⟩ by rw [show -s = s by omega]]
 simp only [fval_def, caval_def, zero13] at B0 S0 hl0 hl1 hl2 hl3 ⊢
 have hsz := Dd.call_sz he
 dsimp only at hsz
 have hwn : IntKind.i64.wrap (-s) = -s := IntWalk.i64_in _ (by omega)
 clear hF he hsz hs0
 go_enter Tryz.func29, Tryz.ntmps29
 go_wp2_with (first | (refine wpList_load_row rfl 48 (.tmp 3) rfl (w.heap.size + 1) rfl 48 _ (0, 0) _ S0.o.kC Tryz.underlying48 rfl (by kernel_rfl) ?_) | (refine wpList_load_row rfl 27 (.tmp 2) rfl w.heap.size rfl 27 _ (0, 0) _ S0.o.kF Tryz.underlying27 rfl (by kernel_rfl) ?_))
 refine (B0.o _ S0.o.b).mono ?_
 rintro ee w1 ⟨rfl, hb1⟩
 have S1 := jQ (S0.o.next hb1)
 clear hb1 hl0 hl1 hl2 hl3 S0
 have c0 := (S1.o.kC.cell 0).trans rfl
 have lc := S1.o.kC.lt
 go_upto_region 7 with (first | (refine wpList_load_row rfl 48 (.tmp 3) rfl (w.heap.size + 1) rfl 48 _ (0, 0) _ S1.o.kC Tryz.underlying48 rfl (by kernel_rfl) ?_) | (refine wpList_store_row rfl 48 (.tmp 7) (.tmp 24) rfl w1.heap.size _ rfl rfl 48 _ (Bk.new w1 48 zero13) (by kernel_rfl) rfl (by kernel_rfl) ?_))
 have D2 := jQ (Bo.copy S1.o #[.int .u8 3, .int .i64 l, .int .i64 o, .int .i64 a, .int .i64 b, .int .i64 s, .int .i64 e, .int .i64 cb, .int .i64 cn, .int .i64 cl, .int .i64 cy, .int .i64 cw, .int .i64 cs])
 refine wp_cutW (fun V => Bo w v f #[.int .u8 3, .int .i64 l, .int .i64 o, .int .i64 a, .int .i64 b, .int .i64 s, .int .i64 e, .int .i64 cb, .int .i64 cn, .int .i64 cl, .int .i64 cy, .int .i64 cw, .int .i64 cs] w1.heap.size #[.int .u8 3, .int .i64 l, .int .i64 o, .int .i64 a, .int .i64 b, .int .i64 s, .int .i64 e, .int .i64 cb, .int .i64 cn, .int .i64 cl, .int .i64 cy, .int .i64 cw, .int .i64 cs] V) D2.o ?_
 obtain ⟨g, hg⟩ : ∃ g, w1.heap.size = g := ⟨_, rfl⟩
 rw [hg]
 clear c0 lc S1 D2 hg
 intro W3 hD
 have D3 := jQ hD
 clear hD
 have c0 := (D3.o.bb.kC.cell 0).trans rfl
 have c3 := (D3.o.bb.kC.cell 3).trans rfl
 have c4 := (D3.o.bb.kC.cell 4).trans rfl
 have c5 := (D3.o.bb.kC.cell 5).trans rfl
 have lc := D3.o.bb.kC.lt
 have q3 := (D3.o.kD.cell 3).trans rfl
 have r3 := D3.o.kD.frozen 3
 have lg := D3.o.kD.lt
 go_upto_region 8 with fail
 refine wp_cutW (fun V => Bo w v f #[.int .u8 3, .int .i64 l, .int .i64 o, .int .i64 a, .int .i64 b, .int .i64 s, .int .i64 e, .int .i64 cb, .int .i64 cn, .int .i64 cl, .int .i64 cy, .int .i64 cw, .int .i64 cs] g #[.int .u8 3, .int .i64 l, .int .i64 o, .int .i64 b, .int .i64 b, .int .i64 s, .int .i64 e, .int .i64 cb, .int .i64 cn, .int .i64 cl, .int .i64 cy, .int .i64 cw, .int .i64 cs] V) (D3.o.set 3 (.int .i64 b) #[.int .u8 3, .int .i64 l, .int .i64 o, .int .i64 b, .int .i64 b, .int .i64 s, .int .i64 e, .int .i64 cb, .int .i64 cn, .int .i64 cl, .int .i64 cy, .int .i64 cw, .int .i64 cs] (by simp only [List.setIfInBounds_toArray, List.set_cons_succ, List.set_cons_zero])) ?_
 clear c0 c3 c4 c5 lc q3 r3 lg D3
 intro W4 hD
 have D4 := jQ hD
 clear hD
 have c0 := (D4.o.bb.kC.cell 0).trans rfl
 have c3 := (D4.o.bb.kC.cell 3).trans rfl
 have c4 := (D4.o.bb.kC.cell 4).trans rfl
 have c5 := (D4.o.bb.kC.cell 5).trans rfl
 have lc := D4.o.bb.kC.lt
 have q4 := (D4.o.kD.cell 4).trans rfl
 have r4 := D4.o.kD.frozen 4
 have lg := D4.o.kD.lt
 go_upto_region 9 with fail
 refine wp_cutW (fun V => Bo w v f #[.int .u8 3, .int .i64 l, .int .i64 o, .int .i64 a, .int .i64 b, .int .i64 s, .int .i64 e, .int .i64 cb, .int .i64 cn, .int .i64 cl, .int .i64 cy, .int .i64 cw, .int .i64 cs] g #[.int .u8 3, .int .i64 l, .int .i64 o, .int .i64 b, .int .i64 a, .int .i64 s, .int .i64 e, .int .i64 cb, .int .i64 cn, .int .i64 cl, .int .i64 cy, .int .i64 cw, .int .i64 cs] V) (D4.o.set 4 (.int .i64 a) #[.int .u8 3, .int .i64 l, .int .i64 o, .int .i64 b, .int .i64 a, .int .i64 s, .int .i64 e, .int .i64 cb, .int .i64 cn, .int .i64 cl, .int .i64 cy, .int .i64 cw, .int .i64 cs] (by simp only [List.setIfInBounds_toArray, List.set_cons_succ, List.set_cons_zero])) ?_
 clear c0 c3 c4 c5 lc q4 r4 lg D4
 intro W5 hD
 have D5 := jQ hD
 clear hD
 have c0 := (D5.o.bb.kC.cell 0).trans rfl
 have c3 := (D5.o.bb.kC.cell 3).trans rfl
 have c4 := (D5.o.bb.kC.cell 4).trans rfl
 have c5 := (D5.o.bb.kC.cell 5).trans rfl
 have lc := D5.o.bb.kC.lt
 have q5 := (D5.o.kD.cell 5).trans rfl
 have r5 := D5.o.kD.frozen 5
 have lg := D5.o.kD.lt
 go_upto_region 10 with fail
 refine wp_cutW (fun V => Bo w v f #[.int .u8 3, .int .i64 l, .int .i64 o, .int .i64 a, .int .i64 b, .int .i64 s, .int .i64 e, .int .i64 cb, .int .i64 cn, .int .i64 cl, .int .i64 cy, .int .i64 cw, .int .i64 cs] g #[.int .u8 3, .int .i64 l, .int .i64 o, .int .i64 b, .int .i64 a, .int .i64 (-s), .int .i64 e, .int .i64 cb, .int .i64 cn, .int .i64 cl, .int .i64 cy, .int .i64 cw, .int .i64 cs] V) (D5.o.set 5 (.int .i64 (-s)) #[.int .u8 3, .int .i64 l, .int .i64 o, .int .i64 b, .int .i64 a, .int .i64 (-s), .int .i64 e, .int .i64 cb, .int .i64 cn, .int .i64 cl, .int .i64 cy, .int .i64 cw, .int .i64 cs] (by simp only [List.setIfInBounds_toArray, List.set_cons_succ, List.set_cons_zero])) ?_
 clear c0 c3 c4 c5 lc q5 r5 lg D5
 intro W6 hD
 have D6 := jQ hD
 clear hD
 have c0 := (D6.o.bb.kC.cell 0).trans rfl
 have c7 := (D6.o.bb.kC.cell 7).trans rfl
 have c8 := (D6.o.bb.kC.cell 8).trans rfl
 have c9 := (D6.o.bb.kC.cell 9).trans rfl
 have c10 := (D6.o.bb.kC.cell 10).trans rfl
 have c11 := (D6.o.bb.kC.cell 11).trans rfl
 have c12 := (D6.o.bb.kC.cell 12).trans rfl
 have lc := D6.o.bb.kC.lt
 go_wp2_with fail
 refine (B1.o _).mono ?_
 rintro ee w7 ⟨rfl, hb7⟩
 have D7 := jQ (D6.o.next hb7)
 clear hb7 c0 c7 c8 c9 c10 c11 c12 lc D6
 have q7 := (D7.o.kD.cell 7).trans rfl
 have r7 := D7.o.kD.frozen 7
 have q8 := (D7.o.kD.cell 8).trans rfl
 have r8 := D7.o.kD.frozen 8
 have q9 := (D7.o.kD.cell 9).trans rfl
 have r9 := D7.o.kD.frozen 9
 have q10 := (D7.o.kD.cell 10).trans rfl
 have r10 := D7.o.kD.frozen 10
 have q11 := (D7.o.kD.cell 11).trans rfl
 have r11 := D7.o.kD.frozen 11
 have q12 := (D7.o.kD.cell 12).trans rfl
 have r12 := D7.o.kD.frozen 12
 have lg := D7.o.kD.lt
 go_upto_region 12 with fail
 refine wp_cutW (fun V => Bo w v f #[.int .u8 3, .int .i64 l, .int .i64 o, .int .i64 a, .int .i64 b, .int .i64 s, .int .i64 e, .int .i64 cb, .int .i64 cn, .int .i64 cl, .int .i64 cy, .int .i64 cw, .int .i64 cs] g #[.int .u8 3, .int .i64 l, .int .i64 o, .int .i64 b, .int .i64 a, .int .i64 (-s), .int .i64 e, .int .i64 rb, .int .i64 rn, .int .i64 rl, .int .i64 ry, .int .i64 rw_, .int .i64 rs] V) (Bo.set (Bo.set (Bo.set (Bo.set (Bo.set (Bo.set D7.o 7 (.int .i64 rb) #[.int .u8 3, .int .i64 l, .int .i64 o, .int .i64 b, .int .i64 a, .int .i64 (-s), .int .i64 e, .int .i64 rb, .int .i64 cn, .int .i64 cl, .int .i64 cy, .int .i64 cw, .int .i64 cs] (by simp only [List.setIfInBounds_toArray, List.set_cons_succ, List.set_cons_zero])) 8 (.int .i64 rn) #[.int .u8 3, .int .i64 l, .int .i64 o, .int .i64 b, .int .i64 a, .int .i64 (-s), .int .i64 e, .int .i64 rb, .int .i64 rn, .int .i64 cl, .int .i64 cy, .int .i64 cw, .int .i64 cs] (by simp only [List.setIfInBounds_toArray, List.set_cons_succ, List.set_cons_zero])) 9 (.int .i64 rl) #[.int .u8 3, .int .i64 l, .int .i64 o, .int .i64 b, .int .i64 a, .int .i64 (-s), .int .i64 e, .int .i64 rb, .int .i64 rn, .int .i64 rl, .int .i64 cy, .int .i64 cw, .int .i64 cs] (by simp only [List.setIfInBounds_toArray, List.set_cons_succ, List.set_cons_zero])) 10 (.int .i64 ry) #[.int .u8 3, .int .i64 l, .int .i64 o, .int .i64 b, .int .i64 a, .int .i64 (-s), .int .i64 e, .int .i64 rb, .int .i64 rn, .int .i64 rl, .int .i64 ry, .int .i64 cw, .int .i64 cs] (by simp only [List.setIfInBounds_toArray, List.set_cons_succ, List.set_cons_zero])) 11 (.int .i64 rw_) #[.int .u8 3, .int .i64 l, .int .i64 o, .int .i64 b, .int .i64 a, .int .i64 (-s), .int .i64 e, .int .i64 rb, .int .i64 rn, .int .i64 rl, .int .i64 ry, .int .i64 rw_, .int .i64 cs] (by simp only [List.setIfInBounds_toArray, List.set_cons_succ, List.set_cons_zero])) 12 (.int .i64 rs) #[.int .u8 3, .int .i64 l, .int .i64 o, .int .i64 b, .int .i64 a, .int .i64 (-s), .int .i64 e, .int .i64 rb, .int .i64 rn, .int .i64 rl, .int .i64 ry, .int .i64 rw_, .int .i64 rs] (by simp only [List.setIfInBounds_toArray, List.set_cons_succ, List.set_cons_zero])) ?_
 clear q7 r7 q8 r8 q9 r9 q10 r10 q11 r11 q12 r12 lg D7
 intro W8 hD
 have D8 := jQ hD
 clear hD
 go_wp2_with (first | (refine wpList_load_row rfl 48 (.tmp 7) rfl g rfl 48 _ (0, 0) _ D8.o.kD Tryz.underlying48 rfl (by kernel_rfl) ?_) | (refine wpList_store_row rfl 48 (.tmp 4) (.tmp 45) rfl (w.heap.size + 1 + 1) _ rfl rfl 48 _ D8.o.bb.kZ (by kernel_rfl) rfl (by kernel_rfl) ?_))
 exact bodyPost_ret (results_cell_row_tmp rfl _ _ (w.heap.size + 1 + 1) 48 _ (0, 0) _ (.int .i64 0) rfl rfl (D8.o.bb.kZ.row _) Tryz.underlying48 rfl (by kernel_rfl)) rfl ⟨rfl, Below.rowNew D8.o.bb.b (by omega) _⟩
end

section
open Go.RowKit
theorem qBackF_any (v : Fv) (f : Dd.Fd) (x : Dd.Ca) (w : World) (hF : FRd w w.heap.size v f) :
  Calls Tryz.prog 29 #[fval v f, caval x] w fun ee w' => ee = .returned (.tuple #[caval (Dd.backF f x).1, .int .i64 (Dd.backF f x).2]) ∧ Below w.heap.size w w' := by
 have hd : Dd.backF f x = if Dd.callE f x ≠ 0 then (Dd.ca0, Dd.callE f x) else (Dd.turnC x, 0) := rfl
 rw [hd]
 by_cases he : Dd.callE f x = 0
 ·rw [if_neg (by simpa using he)]
  obtain ⟨k, l, o, a, b, s, e, ⟨cb, cn, cl, cy, cw, cs⟩⟩ := x
  by_cases h3 : k = 3
  ·subst h3; exact qback_course v f l o a b s e cb cn cl cy cw cs w hF he
  by_cases h5 : k = 5
  ·subst h5; exact qback_level v f l o a b s e cb cn cl cy cw cs w hF he
  have ht : Dd.turnC ⟨k, l, o, a, b, s, e, ⟨cb, cn, cl, cy, cw, cs⟩⟩ = ⟨k, l, o, a, b, s, e, ⟨cb, cn, cl, cy, cw, cs⟩⟩ := by
   unfold Dd.turnC
   rw [if_neg h3, if_neg h5]
  rw [ht]
  exact qback_same v f k l o a b s e cb cn cl cy cw cs w hF he h3 h5
 ·rw [if_pos he]
  obtain ⟨k, l, o, a, b, s, e, ⟨cb, cn, cl, cy, cw, cs⟩⟩ := x
  exact qback_bad v f k l o a b s e cb cn cl cy cw cs w hF _ rfl he
end
end Go.Proofs.YtccikcpcfdjobaaGreatDoor
