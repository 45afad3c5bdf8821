/-
  CourseBounds: the law's walk.
-/
import Derived.Test.YtncdeogpmodoaabGreatDoorRcom
import Derived.Test.YtncdeogpmodoaabGreatDoorLExact
set_option linter.unusedVariables false
set_option linter.unusedSimpArgs false
namespace Go.Proofs.YtncdeogpmodoaabGreatDoor
open Go.RowKit
set_option maxRecDepth 100000

/-- The cells of the two bounds. -/
def bcs (f t hi lo r : Int) : Array Value := #[.int .i64 f, .int .i64 t, .int .i64 hi, .int .i64 r, .int .i64 t, .int .i64 f, .int .i64 (-lo), .int .i64 r]

theorem Lw.drewN {w W : World} {A : Option Addr} {vs : List (Int × Int)} {g : Nat} {c : Cs.Co} (h : Lw w A vs g c W) (n : Nat) : Lw w A vs g c (W.drewN n) :=
  h.next ⟨rfl, rfl, rfl, Nat.le_refl _, fun _ _ => rfl⟩

end Go.Proofs.YtncdeogpmodoaabGreatDoor
