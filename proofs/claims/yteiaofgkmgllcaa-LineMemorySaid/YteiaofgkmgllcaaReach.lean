/-
  unreached.
-/
import Derived.Test.YteiaofgkmgllcaaBase
set_option linter.unusedVariables false
set_option linter.unusedSimpArgs false
namespace Go.Proofs.Yteiaofgkmgllcaa
open Go.RowKit

set_option maxRecDepth 100000 in
set_option maxHeartbeats 400000 in
theorem unreached_any (w : World) :
    Calls Try.prog 76 #[] w fun e w' => e = .returned (.agg (av Ln.nones)) ∧ Below w.heap.size w w' := by
  go_enter Try.func76, Try.ntmps76
  go_wp2_with fail
  rw [zero94]
  have hB0 : Below w.heap.size w ((w.alloc (.cells (av Ln.zeros) 89)).alloc (.cells (av Ln.zeros) 89)) := ((Below.refl _ _).alloc (Nat.le_refl _) _).alloc (by simp) _
  have k0 := (Bk.new w 89 (av Ln.zeros)).alloc (.cells (av Ln.zeros) 89)
  have k1 := Bk.new (w.alloc (.cells (av Ln.zeros) 89)) 89 (av Ln.zeros)
  rw [World.size_alloc] at k1
  go_loopw [3] (fun i wr => ∃ k : Nat, k ≤ 128 ∧ i = .int .i64 k ∧ Below w.heap.size w wr ∧ Bk wr w.heap.size 89 (av Ln.zeros) ∧ Bk wr (w.heap.size + 1) 89 (av (Ln.fill k)))
    (fun i _ => 128 - (intOf i).toNat)
  case atStart => exact ⟨0, by omega, rfl, hB0, k0, k1⟩
  case round =>
    obtain ⟨k, hk, rfl, hB, k0, k1⟩ := hrel
    by_cases hlt : k < 128
    · have c1 := (k1.cell k).trans (av_at (by rw [Ln.fill_length hk]; exact hlt))
      have f1 := k1.frozen k
      have k2 := k1.set k (.int .i64 9223372036854775807)
      rw [av_set, Ln.fill_next k hlt] at k2
      have k3 := k0.far (p := ⟨w.heap.size + 1, k, none⟩) (by simp) (.int .i64 9223372036854775807)
      have hB2 := hB.setCell (p := ⟨w.heap.size + 1, k, none⟩) (by simp) (.int .i64 9223372036854775807)
      have HK := Lib.hid k2
      have HK3 := Lib.hid k3
      have HB := Lib.hid hB2
      clear k0 k1 k2 k3 hB hB2
      go_wp2_with fail
      go_roundw
      case rel => exact ⟨k + 1, by omega, by go_num, HB.out, HK3.out, HK.out⟩
      case measure => simp [intOf]; omega
    · obtain rfl : k = 128 := by omega
      rw [Ln.fill_all] at k1
      go_wp2_with (first
        | (refine wpList_load_row rfl 89 (.tmp 1) rfl (w.heap.size + 1) rfl 89 _ (0, 0) _ k1 Try.underlying89 rfl (by rw [av_size, Ln.nones_length]; exact size94) ?_)
        | (refine wpList_store_row rfl 89 (.tmp 0) (.tmp 9) rfl w.heap.size (av Ln.nones) rfl rfl 89 _ k0 (by rw [av_size, Ln.nones_length]; exact size94) (by rw [av_size, av_size, Ln.nones_length, Ln.zeros_length]) (av_one _) ?_))
      go_outline
      have k2 := k0.row (av Ln.nones)
      exact bodyPost_ret (v := .agg (av Ln.nones)) (results_cell_row rfl _ _ w.heap.size 89 _ (0, 0) _ rfl k2 Try.underlying89 rfl (by rw [av_size, Ln.nones_length]; exact size94)) rfl ⟨rfl, k0.below_set (Nat.le_refl _) _ hB⟩

end Go.Proofs.Yteiaofgkmgllcaa
