/-
  Narrower of course.
-/
import Derived.Test.YtncdeogpmodoaabGreatDoorRev
set_option linter.unusedVariables false
set_option linter.unusedSimpArgs false
namespace Go.Proofs.YtncdeogpmodoaabGreatDoor
open Go.RowKit
set_option maxRecDepth 100000

end Go.Proofs.YtncdeogpmodoaabGreatDoor
