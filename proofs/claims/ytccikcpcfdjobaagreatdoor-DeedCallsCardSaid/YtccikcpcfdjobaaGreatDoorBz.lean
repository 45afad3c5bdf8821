/-
  A fact that is kept out of a walk: short words.
-/
import Derived.Lib.Hide
namespace Go.Proofs.YtccikcpcfdjobaaGreatDoor
def Hy (p : Prop) : Prop := p
theorem Hy.o {p : Prop} (h : Hy p) : p := h
theorem hQ {p : Prop} (h : p) : Hy p := h
end Go.Proofs.YtccikcpcfdjobaaGreatDoor
