/-
  The reference's interval.
-/
import Derived.Test.YtncdeogpmodoaabGreatDoorRn
set_option linter.unusedVariables false
set_option linter.unusedSimpArgs false
namespace Go.Proofs.YtncdeogpmodoaabGreatDoor
open Go.RowKit
set_option maxRecDepth 100000

namespace Cs
/-- The interval, nothing where there is none. -/
def intN (a : Aim) (dx : Int) : Int × Int × Bool := if (intA a dx).2.2 then ((intA a dx).1, (intA a dx).2.1, true) else (0, 0, false)
theorem intN_no {a : Aim} {dx : Int} (h : a.high ≤ 0 ∨ 180 ≤ a.low ∨ room a dx < 0) : intN a dx = (0, 0, false) := by rw [intN, intA_no h]; rfl
theorem intN_some {a : Aim} {dx : Int} (h : ¬ (a.high ≤ 0 ∨ 180 ≤ a.low ∨ room a dx < 0)) (hl : lo3 a dx ≤ hi3 a dx) : intN a dx = (lo3 a dx, hi3 a dx, true) := by rw [intN, intA_yes h]; simp [hl]
theorem intN_none {a : Aim} {dx : Int} (h : ¬ (a.high ≤ 0 ∨ 180 ≤ a.low ∨ room a dx < 0)) (hl : ¬ lo3 a dx ≤ hi3 a dx) : intN a dx = (0, 0, false) := by rw [intN, intA_yes h]; simp [hl]
end Cs

/-- Between the parts of the reference's interval. -/
structure RefP (w wx : World) (cs : Array Value) : Prop where
  below : Below w.heap.size w wx
  bk : Bk wx w.heap.size 26 cs
theorem RefP.step {w wx wy : World} {cs : Array Value} (h : RefP w wx cs) (hb : Below wx.heap.size wx wy) : RefP w wy cs := ⟨h.below.trans (hb.mono h.below.size), h.bk.below hb h.bk.lt⟩

end Go.Proofs.YtncdeogpmodoaabGreatDoor
