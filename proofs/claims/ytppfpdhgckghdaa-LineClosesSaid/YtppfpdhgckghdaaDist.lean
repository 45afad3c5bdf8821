/-
  consistent, distances.
-/
import Derived.Test.YtppfpdhgckghdaaSettle
import Derived.Test.YtppfpdhgckghdaaMath
set_option linter.unusedVariables false
set_option linter.unusedSimpArgs false
namespace Go.Proofs.Ytppfpdhgckghdaa
open Go.RowKit

set_option maxRecDepth 100000 in
set_option maxHeartbeats 1000000 in
theorem consistent_any {N : Nat} {bs : List Ln.Bd} (hok : Ln.Ok N bs) (B nb : Nat) (A : Option Addr) (c : Nat) (fr : List Value) (w : World) (hN : IsNet w B nb N bs A c fr) (hBw : B ≤ w.heap.size) :
    Calls Try.prog 54 #[.pointer (some ⟨nb, 0, none⟩)] w fun e w' => e = .returned (.bool (Ln.consF bs N)) ∧ Below w.heap.size w w' := by
  have hl := (Ln.settleF_small hok N Ln.zeros_length Ln.zeros_small (by omega) (by have := hok.top; omega)).1
  go_enter Try.func54, Try.ntmps54
  go_wp2_with (first
    | (go_at_call 93; rw [zero94]; refine (settle_any hok B nb A c fr Ln.zeros 0 _ hN hBw Ln.zeros_length Ln.zeros_small (by omega) (by omega)).mono ?_; rintro e w1 ⟨rfl, hb1⟩)
    | (refine wpList_store_row rfl 87 (.tmp 3) (.tmp 9) rfl w1.heap.size _ rfl rfl 87 _ (Bk.new w1 _ _) (av_len94 hl) (by rw [zero94]; exact av_same Ln.zeros_length hl) (av_one _) ?_))
  go_ret
  exact ⟨rfl, (Bk.new w1 _ _).below_set (t := 87) hb1.size _ (hb1.alloc hb1.size _)⟩

set_option maxRecDepth 100000 in
set_option maxHeartbeats 1000000 in
theorem distances_any {N : Nat} {bs : List Ln.Bd} (hok : Ln.Ok N bs) (B nb : Nat) (A : Option Addr) (c : Nat) (fr : List Value) (a : Nat) (ha : a < N) (w : World) (hN : IsNet w B nb N bs A c fr) (hBw : B ≤ w.heap.size) :
    Calls Try.prog 70 #[.pointer (some ⟨nb, 0, none⟩), .int .i64 a] w fun e w' => e = .returned (.agg (av (Ln.distF bs N a))) ∧ Below w.heap.size w w' := by
  have htop := hok.top
  have hl : (Ln.settleF bs N N (Ln.nones.set a 0)).1.length = 128 := (Ln.distF_small hok a).1
  have hi0 : (0 : Int) ≤ (a : Int) := Int.natCast_nonneg _
  have hi1 : (a : Int) < 128 := by omega
  go_enter Try.func70, Try.ntmps70
  have hsl := Ln.start_length a
  have HL := Lib.hid hl
  have HSL := Lib.hid hsl
  clear hl hsl
  have kz := Bk.new w 87 Try.zeroCells87
  have hz128 : Try.zeroCells87.size = (av Ln.nones).size := by rw [zero94]; exact av_same Ln.zeros_length Ln.nones_length
  have HZ := Lib.hid hz128
  clear hz128
  go_wp2_with (first
    | (go_at_call 101; refine (unreached_any _).mono ?_; rintro e w1 ⟨rfl, hb1⟩; have kr1 := kz.below hb1 (by simp); have hB1 := ((Below.refl _ w).alloc (Nat.le_refl _) (.cells Try.zeroCells87 87)).trans (hb1.mono (by simp)); clear kz)
    | (refine wpList_store_row rfl 87 (.tmp 5) (.tmp 6) rfl w1.heap.size _ rfl rfl 87 _ (Bk.new w1 _ _) (av_len94 Ln.nones_length) HZ.out (av_one _) ?_; obtain ⟨W2, hW2⟩ : ∃ W2, (w1.alloc (.cells Try.zeroCells87 87)).setRow w1.heap.size (av Ln.nones) = W2 := ⟨_, rfl⟩; have k5 : Bk W2 w1.heap.size 87 (av Ln.nones) := (by rw [← hW2]; exact (Bk.new w1 _ _).row _); have kr2 : Bk W2 w.heap.size 87 Try.zeroCells87 := (by rw [← hW2]; exact (kr1.alloc _).row_far (by have := kr1.lt; omega) _); have hB2 : Below w.heap.size w W2 := (by rw [← hW2]; exact (Bk.new w1 _ _).below_set (t := 87) hB1.size _ (hB1.alloc hB1.size _)); rw [hW2]; clear hW2; have c5 := (k5.cell a).trans (av_at (by rw [Ln.nones_length]; omega)); have f5 := k5.frozen a; have k6 := k5.set a (.int .i64 0); rw [av_set] at k6; have hgl : w.heap.size < w1.heap.size := kr1.lt; have kr6 := kr2.far (p := ⟨w1.heap.size, a, none⟩) (by simp; omega) (.int .i64 0); have hB6 := hB2.setCell (p := ⟨w1.heap.size, a, none⟩) (by simp; omega) (.int .i64 0); have K6 := Lib.hid k6; have KR6 := Lib.hid kr6; have HB6 := Lib.hid hB6; clear k5 k6 kr6 hB6 kr2 hB2)
    | (refine wpList_load_row rfl 87 (.tmp 5) rfl w1.heap.size rfl 87 _ (0, 0) _ K6.out Try.underlying87 rfl (av_len94 HSL.out) ?_)
    | (go_at_call 93; refine (settle_any hok B nb A c fr (Ln.nones.set a 0) 0 _ (hN.below HB6.out hBw) (Nat.le_trans hBw HB6.out.size) HSL.out (Ln.start_small a) (by omega) (by omega)).mono ?_; rintro e w3 ⟨rfl, hb3⟩; have k7 := K6.out.below hb3 K6.out.lt; have kr7 := KR6.out.below hb3 KR6.out.lt; have hB7 := HB6.out.trans (hb3.mono HB6.out.size))
    | (refine wpList_store_row rfl 87 (.tmp 5) (.tmp 13) rfl w1.heap.size _ rfl rfl 87 _ k7 (av_len94 HL.out) (av_same HSL.out HL.out) (av_one _) ?_; have k8 := k7.row (av (Ln.settleF bs N N (Ln.nones.set a 0)).1); have kr8 := kr7.row_far (k := w1.heap.size) (by omega) (av (Ln.settleF bs N N (Ln.nones.set a 0)).1); have hB8 := k7.below_set (by omega) (av (Ln.settleF bs N N (Ln.nones.set a 0)).1) hB7)
    | (refine wpList_load_row rfl 87 (.tmp 5) rfl w1.heap.size rfl 87 _ (0, 0) _ k8 Try.underlying87 rfl (av_len94 HL.out) ?_)
    | (refine wpList_store_row rfl 87 (.tmp 4) (.tmp 15) rfl w.heap.size _ rfl rfl 87 _ kr8 (av_len94 HL.out) (by rw [zero94]; exact av_same Ln.zeros_length HL.out) (av_one _) ?_))
  exact bodyPost_ret (v := .agg (av (Ln.distF bs N a))) (results_cell_row rfl _ _ w.heap.size 87 _ (0, 0) _ rfl (kr8.row _) Try.underlying87 rfl (av_len94 HL.out)) rfl ⟨rfl, kr8.below_set (Nat.le_refl _) _ hB8⟩

end Go.Proofs.Ytppfpdhgckghdaa
