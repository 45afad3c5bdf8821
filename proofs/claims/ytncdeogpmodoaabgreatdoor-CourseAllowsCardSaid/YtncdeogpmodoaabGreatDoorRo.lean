/-
  The reference's either, opened, Misfit.
-/
import Derived.Test.YtncdeogpmodoaabGreatDoorRm
set_option linter.unusedVariables false
set_option linter.unusedSimpArgs false
namespace Go.Proofs.YtncdeogpmodoaabGreatDoor
open Go.RowKit
set_option maxRecDepth 100000

namespace Cs
theorem stepE_check {vs : List (Int × Int)} {co : Co} {dx dy : Int} (h : checkE vs [co] ≠ 0) : stepE vs co dx dy = checkE vs [co] := by
  have he : eastE vs [co] dx = checkE vs [co] := by rw [eastE, if_pos h]
  rw [stepE, he, if_pos h]
theorem stepE_arg {vs : List (Int × Int)} {co : Co} {dx dy : Int} (h : checkE vs [co] = 0) (hd : dx = 0 ∨ dx < -100000 ∨ 100000 < dx ∨ dy < -100000 ∨ 100000 < dy) : stepE vs co dx dy = 1 := by
  by_cases h1 : dx = 0 ∨ dx < -100000 ∨ 100000 < dx
  · have he : eastE vs [co] dx = 1 := by rw [eastE, if_neg (by rw [h]; simp), if_pos h1]
    rw [stepE, he, if_pos (by simp)]
  · have he : eastE vs [co] dx = 0 := by rw [eastE, if_neg (by rw [h]; simp), if_neg h1]
    rw [stepE, he, if_neg (by simp), if_pos (by omega)]
theorem stepE_ok {vs : List (Int × Int)} {co : Co} {dx dy : Int} (h : checkE vs [co] = 0) (hd : ¬ (dx = 0 ∨ dx < -100000 ∨ 100000 < dx ∨ dy < -100000 ∨ 100000 < dy)) : stepE vs co dx dy = 0 := by
  have he : eastE vs [co] dx = 0 := by rw [eastE, if_neg (by rw [h]; simp), if_neg (by omega)]
  rw [stepE, he, if_neg (by simp), if_neg (by omega)]
end Cs

end Go.Proofs.YtncdeogpmodoaabGreatDoor
