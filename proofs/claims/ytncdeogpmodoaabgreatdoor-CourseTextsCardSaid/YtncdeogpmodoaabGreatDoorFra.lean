/-
  Fractions in lowest terms: lowest of course, fraction of the reference.
-/
import Derived.Test.YtncdeogpmodoaabGreatDoorNum
set_option linter.unusedVariables false
set_option linter.unusedSimpArgs false
namespace Go.Proofs.YtncdeogpmodoaabGreatDoor
open Go.RowKit
set_option maxRecDepth 100000

namespace Cs
theorem gcd_step (a b : Nat) : Nat.gcd b (a % b) = Nat.gcd a b := by
  rw [Nat.gcd_comm b, Nat.gcd_comm a, ← Nat.gcd_rec]
theorem gcd_pos {a b : Nat} (h : 0 < a) : 0 < Nat.gcd a b := Nat.gcd_pos_of_pos_left _ h
end Cs

/-- A fraction as a value. -/
def fval (n d : Nat) : Value := .agg #[.int .i64 ((n / Nat.gcd n d : Nat) : Int), .int .i64 ((d / Nat.gcd n d : Nat) : Int)]

end Go.Proofs.YtncdeogpmodoaabGreatDoor
