/-
  No cell of these rows narrows 'for every input' (looked for: loops, veiled, ifaces, maps, wideKeys, modest, calm, conditions, laid).
  DERIVED. THE GIVEN ROWS OF THIS SEAT. 3 by the template 'for every input the law returns true; each argument reads behind the call as it read before'; 0 by the template 'total and deterministic' (their statements: YteiaofgkmgllcaaTotals.lean).
  GIVEN WITH THE SEED: the statements are not yours to turn. If you find one false, say at which input.
  Laid BY PROGRAM, IN A SANDBOX (cutbox-rows.mjs): the forced cells as the released guide's own fill.sh prints them over the translation 9b1e4e6807486f96… (all of the seat's roots in one cut). By AI agents, Wed Nov 11 2026. No macro, syntax, notation, axiom, sorry.
-/
import Derived.Test.YteiaofgkmgllcaaChecked
import GoSem.Claim
import GoSem.ClaimJoined
import GoSem.ClaimMapViews
import Derived.JoinedTies
import Derived.KernelRfl
namespace Go.Proofs.Yteiaofgkmgllcaa
/- THE CELL 'sum', in the pinned program and in every row, IS THE sha256 OF THE DUMP (.gsa) THAT YteiaofgkmgllcaaProg.lean LOADS. Nothing in Lean hashes anything: it is a label: what it is worth is what the hold of that sum in a sandbox is worth. -/
noncomputable def Try.pinned : Pinned := { name := "yteiaofgkmgllcaa", sum := "9b1e4e6807486f964dbdb7190decb90d09fdaca861b9545b5a7545f85a7e37e8", checked := Try.checked }
namespace Rows
def none {H : Type} : Left H := { results := [], args := [] }

/-- 'merestonelaw01.LineCircles': WHATEVER THE INPUT: true; the input reads as it did. -/
def lineCirclesSpec : ChangeSpec := { name := "lineCircles", fn := fun _ => fun
  | [d1, d2] => { results := [.lit (.bool true)], args := [d1, d2] }
  | _ => none }
def lineCirclesRow : OpenClaim := { program := "yteiaofgkmgllcaa", sum := "9b1e4e6807486f964dbdb7190decb90d09fdaca861b9545b5a7545f85a7e37e8", func := "merestone/merestonelaw01.LineCircles", spec := "lineCircles", unfollowed := true, recurses := true, apart := false }
def LineCirclesSaid : Prop := lineCirclesRow.holds Try.pinned (OpenSpec.ofChange lineCirclesSpec)

/-- ITS FALSE NEIGHBOUR: 'it returns false'. Refute it at one input. -/
def lineCirclesWrong : ChangeSpec := { name := "lineCircles", fn := fun _ => fun
  | [d1, d2] => { results := [.lit (.bool false)], args := [d1, d2] }
  | _ => none }
def LineCirclesWrongFalsely : Prop := lineCirclesRow.holds Try.pinned (OpenSpec.ofChange lineCirclesWrong)

/-- 'merestonelaw01.LineFixed': WHATEVER THE INPUT: true; the input reads as it did. -/
def lineFixedSpec : ChangeSpec := { name := "lineFixed", fn := fun _ => fun
  | [d1, d2] => { results := [.lit (.bool true)], args := [d1, d2] }
  | _ => none }
def lineFixedRow : OpenClaim := { program := "yteiaofgkmgllcaa", sum := "9b1e4e6807486f964dbdb7190decb90d09fdaca861b9545b5a7545f85a7e37e8", func := "merestone/merestonelaw01.LineFixed", spec := "lineFixed", unfollowed := true, recurses := true, apart := false }
def LineFixedSaid : Prop := lineFixedRow.holds Try.pinned (OpenSpec.ofChange lineFixedSpec)

/-- ITS FALSE NEIGHBOUR: 'it returns false'. Refute it at one input. -/
def lineFixedWrong : ChangeSpec := { name := "lineFixed", fn := fun _ => fun
  | [d1, d2] => { results := [.lit (.bool false)], args := [d1, d2] }
  | _ => none }
def LineFixedWrongFalsely : Prop := lineFixedRow.holds Try.pinned (OpenSpec.ofChange lineFixedWrong)

/-- 'merestonelaw01.LineMemory': WHATEVER THE INPUT: true; the input reads as it did. -/
def lineMemorySpec : ChangeSpec := { name := "lineMemory", fn := fun _ => fun
  | [d1, d2, d3, d4] => { results := [.lit (.bool true)], args := [d1, d2, d3, d4] }
  | _ => none }
def lineMemoryRow : OpenClaim := { program := "yteiaofgkmgllcaa", sum := "9b1e4e6807486f964dbdb7190decb90d09fdaca861b9545b5a7545f85a7e37e8", func := "merestone/merestonelaw01.LineMemory", spec := "lineMemory", unfollowed := true, recurses := true, apart := false }
def LineMemorySaid : Prop := lineMemoryRow.holds Try.pinned (OpenSpec.ofChange lineMemorySpec)

/-- ITS FALSE NEIGHBOUR: 'it returns false'. Refute it at one input. -/
def lineMemoryWrong : ChangeSpec := { name := "lineMemory", fn := fun _ => fun
  | [d1, d2, d3, d4] => { results := [.lit (.bool false)], args := [d1, d2, d3, d4] }
  | _ => none }
def LineMemoryWrongFalsely : Prop := lineMemoryRow.holds Try.pinned (OpenSpec.ofChange lineMemoryWrong)

/- THE SECOND FORM. 'bulk': how many values and letters a reading holds, each counted each time it is reached (what is shared counts as often as it is met; a slice's spare places count too). A statement '..UptoSaid' is the law's where the arguments, and the package variables that the reading takes, are together of bulk at most 1048576: NARROWER than '..Said'. Prove '..Said' where nothing that the law and all that it calls make is longer than what came in: it says more and counts as full. Else prove '..UptoSaid'. A law counts once. -/
mutual
def uptoBulk {H : Type} : DataW H → Nat
  | .lit (.string bytes) => bytes.length + 1
  | .lit _ => 1
  | .nil => 1
  | .ptr d => uptoBulk d + 1
  | .slice elems spare => uptoBulkAll elems + uptoBulkAll spare + 1
  | .agg parts => uptoBulkAll parts + 1
  | .iface _ d => uptoBulk d + 1
  | .map entries => uptoBulkEntries entries + 1
  | .held _ => 1
def uptoBulkAll {H : Type} : List (DataW H) → Nat
  | [] => 0
  | d :: r => uptoBulk d + uptoBulkAll r
def uptoBulkEntries {H : Type} : List (Lit × DataW H) → Nat
  | [] => 0
  | x :: r => uptoBulkEntry x + uptoBulkEntries r
def uptoBulkEntry {H : Type} : Lit × DataW H → Nat
  | (.string bytes, d) => bytes.length + uptoBulk d + 1
  | (_, d) => uptoBulk d + 1
 end
def uptoSmall : (H : Type) → List (DataW H) → Bool := fun _ ds => decide (uptoBulkAll ds ≤ 1048576)
def OpenSpec.upto (s : _root_.Go.ChangeSpec) : _root_.Go.OpenSpec := { _root_.Go.OpenSpec.ofChange s with cond := some uptoSmall }

/-- 'merestonelaw01.LineCircles', WHERE WHAT IT READS IS OF BULK AT MOST 1048576: true; the input reads as it did. -/
def lineCirclesUptoRow : OpenClaim := { program := "yteiaofgkmgllcaa", sum := "9b1e4e6807486f964dbdb7190decb90d09fdaca861b9545b5a7545f85a7e37e8", func := "merestone/merestonelaw01.LineCircles", spec := "lineCircles", unfollowed := true, recurses := true, apart := false, narrowed := true }
def LineCirclesUptoSaid : Prop := lineCirclesUptoRow.holds Try.pinned (OpenSpec.upto lineCirclesSpec)

/-- 'merestonelaw01.LineFixed', WHERE WHAT IT READS IS OF BULK AT MOST 1048576: true; the input reads as it did. -/
def lineFixedUptoRow : OpenClaim := { program := "yteiaofgkmgllcaa", sum := "9b1e4e6807486f964dbdb7190decb90d09fdaca861b9545b5a7545f85a7e37e8", func := "merestone/merestonelaw01.LineFixed", spec := "lineFixed", unfollowed := true, recurses := true, apart := false, narrowed := true }
def LineFixedUptoSaid : Prop := lineFixedUptoRow.holds Try.pinned (OpenSpec.upto lineFixedSpec)

/-- 'merestonelaw01.LineMemory', WHERE WHAT IT READS IS OF BULK AT MOST 1048576: true; the input reads as it did. -/
def lineMemoryUptoRow : OpenClaim := { program := "yteiaofgkmgllcaa", sum := "9b1e4e6807486f964dbdb7190decb90d09fdaca861b9545b5a7545f85a7e37e8", func := "merestone/merestonelaw01.LineMemory", spec := "lineMemory", unfollowed := true, recurses := true, apart := false, narrowed := true }
def LineMemoryUptoSaid : Prop := lineMemoryUptoRow.holds Try.pinned (OpenSpec.upto lineMemorySpec)

end Rows
end Go.Proofs.Yteiaofgkmgllcaa
