/-
  below, above, meets, leastFromZero.
-/
import Derived.Test.YteiaofgkmgllcaaBase
import Derived.Test.YteiaofgkmgllcaaMath
set_option linter.unusedVariables false
set_option linter.unusedSimpArgs false
namespace Go.Proofs.Yteiaofgkmgllcaa
open Go.RowKit

def endV (e : Int × Bool) : Value := .agg #[.int .i64 e.1, .bool e.2]

set_option maxRecDepth 100000 in
set_option maxHeartbeats 400000 in
theorem below_any (e f : Int × Bool) (w : World) :
    Calls Try.prog 71 #[endV e, endV f] w fun x w' => x = .returned (.bool (Ln.belowF e f)) ∧ Below w.heap.size w w' := by
  obtain ⟨ev, eb⟩ := e
  obtain ⟨fv, fb⟩ := f
  have hB := ((Below.refl w.heap.size w).alloc (Nat.le_refl _) (.cells #[.int .i64 ev, .bool eb] 86)).alloc (by simp) (.cells #[.int .i64 fv, .bool fb] 86)
  have HB := Lib.hid hB
  clear hB
  unfold endV
  rcases eb with _ | _
  · go_enter Try.func71, Try.ntmps71
    go_wp2_with fail
    go_ret
    exact ⟨rfl, HB.out⟩
  rcases fb with _ | _
  · go_enter Try.func71, Try.ntmps71
    go_wp2_with fail
    go_ret
    exact ⟨rfl, HB.out⟩
  · go_enter Try.func71, Try.ntmps71
    go_wp2_with fail
    go_ret
    exact ⟨ret_bool (by simp [Ln.belowF]), HB.out⟩

set_option maxRecDepth 100000 in
set_option maxHeartbeats 400000 in
theorem above_any (e f : Int × Bool) (w : World) :
    Calls Try.prog 72 #[endV e, endV f] w fun x w' => x = .returned (.bool (Ln.aboveF e f)) ∧ Below w.heap.size w w' := by
  obtain ⟨ev, eb⟩ := e
  obtain ⟨fv, fb⟩ := f
  have hB := ((Below.refl w.heap.size w).alloc (Nat.le_refl _) (.cells #[.int .i64 ev, .bool eb] 86)).alloc (by simp) (.cells #[.int .i64 fv, .bool fb] 86)
  have HB := Lib.hid hB
  clear hB
  unfold endV
  rcases eb with _ | _
  · go_enter Try.func72, Try.ntmps72
    go_wp2_with fail
    go_ret
    exact ⟨rfl, HB.out⟩
  rcases fb with _ | _
  · go_enter Try.func72, Try.ntmps72
    go_wp2_with fail
    go_ret
    exact ⟨rfl, HB.out⟩
  · go_enter Try.func72, Try.ntmps72
    go_wp2_with fail
    go_ret
    exact ⟨ret_bool (by simp [Ln.aboveF]), HB.out⟩

set_option maxRecDepth 100000 in
set_option maxHeartbeats 400000 in
theorem meets_any (e f : Int × Bool) (w : World) :
    Calls Try.prog 73 #[endV e, endV f] w fun x w' => x = .returned (.bool (Ln.meetsF e f)) ∧ Below w.heap.size w w' := by
  obtain ⟨ev, eb⟩ := e
  obtain ⟨fv, fb⟩ := f
  have hB := ((Below.refl w.heap.size w).alloc (Nat.le_refl _) (.cells #[.int .i64 ev, .bool eb] 86)).alloc (by simp) (.cells #[.int .i64 fv, .bool fb] 86)
  have HB := Lib.hid hB
  clear hB
  unfold endV
  rcases eb with _ | _
  · go_enter Try.func73, Try.ntmps73
    go_wp2_with fail
    go_ret
    exact ⟨rfl, HB.out⟩
  rcases fb with _ | _
  · go_enter Try.func73, Try.ntmps73
    go_wp2_with fail
    go_ret
    exact ⟨rfl, HB.out⟩
  · go_enter Try.func73, Try.ntmps73
    go_wp2_with fail
    go_ret
    refine ⟨ret_bool ?_, HB.out⟩
    rw [Bool.eq_iff_iff]
    simp [Ln.meetsF]

set_option maxRecDepth 100000 in
set_option maxHeartbeats 400000 in
theorem leastFromZero_any (l h : Int × Bool) (w : World) :
    Calls Try.prog 78 #[endV l, endV h] w fun x w' => x = .returned (.int .i64 (Ln.lfzF l h)) ∧ Below w.heap.size w w' := by
  obtain ⟨ev, eb⟩ := l
  obtain ⟨fv, fb⟩ := h
  have hB := ((Below.refl w.heap.size w).alloc (Nat.le_refl _) (.cells #[.int .i64 ev, .bool eb] 86)).alloc (by simp) (.cells #[.int .i64 fv, .bool fb] 86)
  have HB := Lib.hid hB
  clear hB
  unfold endV
  rcases eb with _ | _ <;> rcases fb with _ | _
  all_goals
    go_enter Try.func78, Try.ntmps78
    go_wp2_with fail
  all_goals
    go_ret
    exact ⟨ret_int (by simp only [Ln.lfzF, if_true, if_false, Bool.false_eq_true] <;> omega), HB.out⟩

end Go.Proofs.Yteiaofgkmgllcaa
