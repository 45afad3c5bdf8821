/-
  The reference's squared, misfit.
-/
import Derived.Test.YtncdeogpmodoaabGreatDoorRs
set_option linter.unusedVariables false
set_option linter.unusedSimpArgs false
namespace Go.Proofs.YtncdeogpmodoaabGreatDoor
open Go.RowKit
set_option maxRecDepth 100000

theorem vbool {a b : Bool} (h : a = b) : Value.bool a = .bool b := by rw [h]

end Go.Proofs.YtncdeogpmodoaabGreatDoor
