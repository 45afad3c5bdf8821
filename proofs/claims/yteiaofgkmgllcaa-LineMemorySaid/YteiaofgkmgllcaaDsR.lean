/-
  The reference's Distance, Distances.
-/
import Derived.Test.YteiaofgkmgllcaaMatx
import Derived.Test.YteiaofgkmgllcaaDsM
set_option linter.unusedVariables false
set_option linter.unusedSimpArgs false
namespace Go.Proofs.Yteiaofgkmgllcaa
open Go.RowKit

theorem MM.grown {w w' : World} {G N base : Nat} {blk : Nat → Nat} {D : Nat → Nat → Int × Bool} {row : Option Nat} (h : MM w G N blk D) (hg : w.grownBy w' row) (hr : ∀ k, row = some k → base ≤ k) (hG : G < base) (hb : ∀ a, a < N → blk a < base) : MM w' G N blk D :=
  ⟨h.out.grown hg (fun e => by have := hr G e.symm; omega), fun a ha => (h.row a ha).grown hg (fun e => by have := hr _ e.symm; have := hb a ha; omega)⟩

end Go.Proofs.Yteiaofgkmgllcaa
