/-
  isPoint, within, valid.
-/
import Derived.Test.YteiaofgkmgllcaaBase
set_option linter.unusedVariables false
set_option linter.unusedSimpArgs false
namespace Go.Proofs.Yteiaofgkmgllcaa
open Go.RowKit

set_option maxHeartbeats 400000 in
theorem isPoint_any (n p : Int) (w : World) :
    Calls Try.prog 80 #[.int .i64 n, .int .i64 p] w fun e w' => e = .returned (.bool (Ln.isPoint n p)) ∧ w = w' := by
  by_cases h : 0 ≤ p
  · go_enter Try.func80, Try.ntmps80
    go_wp2
    go_ret
    exact ⟨by simp [Ln.isPoint, h], rfl⟩
  · go_enter Try.func80, Try.ntmps80
    go_wp2
    go_ret
    exact ⟨by simp [Ln.isPoint]; omega, rfl⟩

set_option maxHeartbeats 400000 in
theorem within_any (x m : Int) (h1 : 0 ≤ m) (h2 : m ≤ 400000000) (w : World) :
    Calls Try.prog 54 #[.int .i64 x, .int .i64 m] w fun e w' => e = .returned (.bool (Ln.within x m)) ∧ w = w' := by
  by_cases h : -m ≤ x
  · go_enter Try.func54, Try.ntmps54
    go_wp2
    go_ret
    exact ⟨by simp [Ln.within, h], rfl⟩
  · go_enter Try.func54, Try.ntmps54
    go_wp2
    go_ret
    exact ⟨by simp [Ln.within]; omega, rfl⟩

set_option maxHeartbeats 1000000 in
theorem valid_any (n f t m r : Int) {gx : Bool} (w : World) :
    Calls Try.prog 65 #[.int .i64 n, .agg #[.int .i64 f, .int .i64 t, .int .i64 m, .int .i64 r]] w fun e w' => e = .returned (.bool (Ln.valid n ⟨f, t, m, r, gx⟩)) ∧ Below w.heap.size w w' := by
  rcases h1 : Ln.isPoint n f with _ | _
  case' true => rcases h2 : Ln.isPoint n t with _ | _
  case' true.true => rcases h3 : f != t with _ | _
  case' true.true.true => rcases h4 : Ln.within m 1000000 with _ | _
  case' true.true.true.true => rcases Int.lt_or_le r 0 with h5 | h5
  case' true.true.true.true.inr => rcases Int.lt_or_le 1000000 r with h6 | h6
  all_goals
    go_enter Try.func65, Try.ntmps65
    go_wp2_with (first | (go_at_call 80; refine (isPoint_any _ _ _).mono ?_; rintro e w' ⟨rfl, rfl⟩) | (go_at_call 54; refine (within_any _ _ (by omega) (by omega) _).mono ?_; rintro e w' ⟨rfl, rfl⟩))
    go_ret
    refine ⟨ret_bool ?_, (Below.refl _ _).alloc (Nat.le_refl _) _⟩
    first
      | (simp [Ln.valid, h1]; done)
      | (simp [Ln.valid, h1, h2]; done)
      | (simp [Ln.valid, h2, bne_eq_false_iff_eq.1 h3]; done)
      | (simp [Ln.valid, h1, h2, h4]; done)
      | (have h7 := bne_iff_ne.1 h3; simp [Ln.valid, h1, h2, h4, h7, h5]; done)
      | (have h7 := bne_iff_ne.1 h3; simp [Ln.valid, h1, h2, h4, h7]; omega)

end Go.Proofs.Yteiaofgkmgllcaa
