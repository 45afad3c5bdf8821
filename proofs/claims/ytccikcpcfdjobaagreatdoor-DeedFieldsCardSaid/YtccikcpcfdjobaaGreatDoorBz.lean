/-
  A fact that is kept out of a walk: short words.
-/
import Derived.Lib.Hide
namespace Go.Proofs.YtccikcpcfdjobaaGreatDoor
def jP (p : Prop) : Prop := p
theorem jP.o {p : Prop} (h : jP p) : p := h
theorem jQ {p : Prop} (h : p) : jP p := h
end Go.Proofs.YtccikcpcfdjobaaGreatDoor
