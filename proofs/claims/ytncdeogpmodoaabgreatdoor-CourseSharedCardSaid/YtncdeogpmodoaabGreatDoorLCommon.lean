/-
  CourseCommon: the law's walk.
-/
import Derived.Test.YtncdeogpmodoaabGreatDoorRcom
import Derived.Test.YtncdeogpmodoaabGreatDoorLaw
set_option linter.unusedVariables false
set_option linter.unusedSimpArgs false
namespace Go.Proofs.YtncdeogpmodoaabGreatDoor
open Go.RowKit
set_option maxRecDepth 100000

/-- What a law with variations and courses has found, between two calls. -/
structure Lc (w : World) (A : Option Addr) (vs : List (Int × Int)) (A2 : Option Addr) (cs : List Cs.Co) (W : World) : Prop where
  b : Below w.heap.size w W
  e : Env W
  r : Rd W w.heap.size 2 A vs.length (vcells vs)
  q : Rd W w.heap.size 6 A2 cs.length (ccells cs)

section
variable {w W W' : World} {A A2 : Option Addr} {vs : List (Int × Int)} {cs : List Cs.Co}
theorem Lc.next (h : Lc w A vs A2 cs W) (hb : Below W.heap.size W W') : Lc w A vs A2 cs W' :=
  ⟨h.b.trans (hb.mono h.b.size), h.e.step hb, h.r.below hb h.b.size, h.q.below hb h.b.size⟩
theorem Lc.rd (h : Lc w A vs A2 cs W) : Rd W W.heap.size 2 A vs.length (vcells vs) := h.r.more h.b.size
theorem Lc.rq (h : Lc w A vs A2 cs W) : Rd W W.heap.size 6 A2 cs.length (ccells cs) := h.q.more h.b.size
end

end Go.Proofs.YtncdeogpmodoaabGreatDoor
