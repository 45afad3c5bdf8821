/-
  lowEnd, highEnd, below, above, meets.
-/
import Derived.Test.YteiaofgkmgllcaaBase
import Derived.Test.YteiaofgkmgllcaaMath
set_option linter.unusedVariables false
set_option linter.unusedSimpArgs false
namespace Go.Proofs.Yteiaofgkmgllcaa
open Go.RowKit

set_option maxRecDepth 100000 in
set_option maxHeartbeats 400000 in
theorem lowEnd_any (v d : Int) (hv : -100000000000000000 ≤ v ∧ v ≤ 100000000000000000) (hd : d = Ln.NONE ∨ (-100000000000000000 ≤ d ∧ d ≤ 100000000000000000)) (w : World) :
    Calls Try.prog 47 #[.int .i64 v, .int .i64 d] w fun e w' => e = .returned (.agg #[.int .i64 (Ln.lowF v d).1, .bool (Ln.lowF v d).2]) ∧ Below w.heap.size w w' := by
  obtain ⟨hv1, hv2⟩ := hv
  have hN : Ln.NONE = 9223372036854775807 := rfl
  rcases hyn : (d == 9223372036854775807) with _ | _
  · have hne : d ≠ Ln.NONE := by simpa [Ln.NONE] using hyn
    obtain ⟨hd1, hd2⟩ := hd.resolve_left hne
    have hf : Ln.lowF v d = (v - d, true) := by rw [Ln.lowF, if_neg hne]
    rw [hf]
    clear hf hne hd hN
    go_enter Try.func47, Try.ntmps47
    go_wp2_with fail
    exact bodyPost_ret (v := .agg #[.int .i64 (v - d), .bool true]) (by simp [results, Try.results47, go_sem]) rfl ⟨rfl, (Below.refl _ _).alloc (Nat.le_refl _) _⟩
  · have hne : d = Ln.NONE := by simpa [Ln.NONE] using hyn
    have hf : Ln.lowF v d = (0, false) := by rw [Ln.lowF, if_pos hne]
    rw [hf]
    clear hf hne hd hN
    go_enter Try.func47, Try.ntmps47
    go_wp2_with fail
    exact bodyPost_ret (v := .agg #[.int .i64 0, .bool false]) (by simp [results, Try.results47, go_sem]) rfl ⟨rfl, (Below.refl _ _).alloc (Nat.le_refl _) _⟩

set_option maxRecDepth 100000 in
set_option maxHeartbeats 400000 in
theorem highEnd_any (v d : Int) (hv : -100000000000000000 ≤ v ∧ v ≤ 100000000000000000) (hd : d = Ln.NONE ∨ (-100000000000000000 ≤ d ∧ d ≤ 100000000000000000)) (w : World) :
    Calls Try.prog 48 #[.int .i64 v, .int .i64 d] w fun e w' => e = .returned (.agg #[.int .i64 (Ln.highF v d).1, .bool (Ln.highF v d).2]) ∧ Below w.heap.size w w' := by
  obtain ⟨hv1, hv2⟩ := hv
  have hN : Ln.NONE = 9223372036854775807 := rfl
  rcases hyn : (d == 9223372036854775807) with _ | _
  · have hne : d ≠ Ln.NONE := by simpa [Ln.NONE] using hyn
    obtain ⟨hd1, hd2⟩ := hd.resolve_left hne
    have hf : Ln.highF v d = (v + d, true) := by rw [Ln.highF, if_neg hne]
    rw [hf]
    clear hf hne hd hN
    go_enter Try.func48, Try.ntmps48
    go_wp2_with fail
    exact bodyPost_ret (v := .agg #[.int .i64 (v + d), .bool true]) (by simp [results, Try.results48, go_sem]) rfl ⟨rfl, (Below.refl _ _).alloc (Nat.le_refl _) _⟩
  · have hne : d = Ln.NONE := by simpa [Ln.NONE] using hyn
    have hf : Ln.highF v d = (0, false) := by rw [Ln.highF, if_pos hne]
    rw [hf]
    clear hf hne hd hN
    go_enter Try.func48, Try.ntmps48
    go_wp2_with fail
    exact bodyPost_ret (v := .agg #[.int .i64 0, .bool false]) (by simp [results, Try.results48, go_sem]) rfl ⟨rfl, (Below.refl _ _).alloc (Nat.le_refl _) _⟩

end Go.Proofs.Yteiaofgkmgllcaa
