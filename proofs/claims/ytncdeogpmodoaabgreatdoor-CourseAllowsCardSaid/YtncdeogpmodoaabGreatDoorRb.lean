/-
  The reference's both, Interval.
-/
import Derived.Test.YtncdeogpmodoaabGreatDoorRi
set_option linter.unusedVariables false
set_option linter.unusedSimpArgs false
namespace Go.Proofs.YtncdeogpmodoaabGreatDoor
open Go.RowKit
set_option maxRecDepth 100000

namespace Cs
/-- The interval of a course for a step to either side, nothing where there is none. -/
def intM (vs : List (Int × Int)) (c : Co) (dx : Int) : Int × Int × Bool := if (intF vs c dx).2.2 then ((intF vs c dx).1, (intF vs c dx).2.1, true) else (0, 0, false)
theorem intM_neg {vs : List (Int × Int)} {c : Co} {dx : Int} (h : dx < 0) : intM vs c dx = (-(intN (aimOf vs (turn c)) (-dx)).2.1, -(intN (aimOf vs (turn c)) (-dx)).1, (intN (aimOf vs (turn c)) (-dx)).2.2) := by
  have e : intF vs c dx = (-(intA (aimOf vs (turn c)) (-dx)).2.1, -(intA (aimOf vs (turn c)) (-dx)).1, (intA (aimOf vs (turn c)) (-dx)).2.2) := by
    have e2 : aimEast vs c dx = aimOf vs (turn c) := by rw [aimEast, if_pos h]
    rw [intF, if_neg (by omega : ¬ 0 < dx), e2]
  rw [intM, e, intN]
  dsimp only
  rcases (intA (aimOf vs (turn c)) (-dx)).2.2 with _ | _ <;> simp
theorem intM_pos {vs : List (Int × Int)} {c : Co} {dx : Int} (h : 0 < dx) : intM vs c dx = intN (aimOf vs c) dx := by
  have e : intF vs c dx = intA (aimOf vs c) dx := by
    have e2 : aimEast vs c dx = aimOf vs c := by rw [aimEast, if_neg (by omega : ¬ dx < 0)]
    rw [intF, if_pos h, e2]
  rw [intM, e, intN]
theorem intN_wide {a : Aim} {dx : Int} (ok : AimOk a) (hx : -100000 ≤ dx ∧ dx ≤ 100000) : (-9223372036854775807 ≤ (intN a dx).1 ∧ (intN a dx).1 ≤ 9223372036854775807) ∧ (-9223372036854775807 ≤ (intN a dx).2.1 ∧ (intN a dx).2.1 ≤ 9223372036854775807) := by
  rw [intN]
  split
  · exact intA_wide ok hx
  · dsimp only; omega
end Cs

namespace Cs
theorem stepE_east {vs : List (Int × Int)} {c : Co} {dx : Int} : stepE vs c dx 0 = eastE vs [c] dx := by
  rw [stepE]
  split
  · rfl
  · rename_i h
    rw [if_neg (by omega)]
    exact (Decidable.not_not.1 h).symm
theorem comF_one {vs : List (Int × Int)} {c : Co} {dx : Int} (h : eastE vs [c] dx = 0) : comF vs [c] dx = (intM vs c dx, 0) := by
  obtain ⟨h1, h2, h3, h4⟩ := eastE_zero h
  rw [comF, if_neg (by simp), if_neg (by simp), if_neg (by rw [h]; simp), comG_one vs (checkE_one h1) h2 h3 h4]
  rfl
theorem comF_err {vs : List (Int × Int)} {c : Co} {dx : Int} (h : eastE vs [c] dx ≠ 0) : comF vs [c] dx = ((0, 0, false), eastE vs [c] dx) := by
  rw [comF, if_neg (by simp), if_neg (by simp), if_pos h]
end Cs

end Go.Proofs.YtncdeogpmodoaabGreatDoor
