/-
  No cell of these rows narrows 'for every input' (looked for: loops, veiled, ifaces, maps, wideKeys, modest, calm, conditions, laid).
  DERIVED. THE GIVEN ROWS OF THIS SEAT. 8 by the template 'for every input the law returns true; each argument reads behind the call as it read before'; 0 by the template 'total and deterministic' (their statements: YtppfpdhgckghdaaTotals.lean).
  GIVEN WITH THE SEED: the statements are not yours to turn. If you find one false, say at which input.
  Laid BY PROGRAM, IN A SANDBOX (cutbox-rows.mjs): the forced cells as the released guide's own fill.sh prints them over the translation 5e73fc5b8f30251a… (all of the seat's roots in one cut). By AI agents, Wed Nov 11 2026. No macro, syntax, notation, axiom, sorry.
-/
import Derived.Test.YtppfpdhgckghdaaChecked
import GoSem.Claim
import GoSem.ClaimJoined
import GoSem.ClaimMapViews
import Derived.JoinedTies
import Derived.KernelRfl
namespace Go.Proofs.Ytppfpdhgckghdaa
/- THE CELL 'sum', in the pinned program and in every row, IS THE sha256 OF THE DUMP (.gsa) THAT YtppfpdhgckghdaaProg.lean LOADS. Nothing in Lean hashes anything: it is a label: what it is worth is what the hold of that sum in a sandbox is worth. -/
noncomputable def Try.pinned : Pinned := { name := "ytppfpdhgckghdaa", sum := "5e73fc5b8f30251a4f76a5796d8e3369348c4ea571901fd34f450511f36c2261", checked := Try.checked }
namespace Rows
def none {H : Type} : Left H := { results := [], args := [] }

/-- 'merestonelaw01.LineCircles': WHATEVER THE INPUT: true; the input reads as it did. -/
def lineCirclesSpec : ChangeSpec := { name := "lineCircles", fn := fun _ => fun
  | [d1, d2] => { results := [.lit (.bool true)], args := [d1, d2] }
  | _ => none }
def lineCirclesRow : OpenClaim := { program := "ytppfpdhgckghdaa", sum := "5e73fc5b8f30251a4f76a5796d8e3369348c4ea571901fd34f450511f36c2261", func := "merestone/merestonelaw01.LineCircles", spec := "lineCircles", unfollowed := true, recurses := true, apart := false }
def LineCirclesSaid : Prop := lineCirclesRow.holds Try.pinned (OpenSpec.ofChange lineCirclesSpec)

/-- ITS FALSE NEIGHBOUR: 'it returns false'. Refute it at one input. -/
def lineCirclesWrong : ChangeSpec := { name := "lineCircles", fn := fun _ => fun
  | [d1, d2] => { results := [.lit (.bool false)], args := [d1, d2] }
  | _ => none }
def LineCirclesWrongFalsely : Prop := lineCirclesRow.holds Try.pinned (OpenSpec.ofChange lineCirclesWrong)

/-- 'merestonelaw01.LineBlames': WHATEVER THE INPUT: true; the input reads as it did. -/
def lineBlamesSpec : ChangeSpec := { name := "lineBlames", fn := fun _ => fun
  | [d] => { results := [.lit (.bool true)], args := [d] }
  | _ => none }
def lineBlamesRow : OpenClaim := { program := "ytppfpdhgckghdaa", sum := "5e73fc5b8f30251a4f76a5796d8e3369348c4ea571901fd34f450511f36c2261", func := "merestone/merestonelaw01.LineBlames", spec := "lineBlames", unfollowed := true, recurses := true, apart := false }
def LineBlamesSaid : Prop := lineBlamesRow.holds Try.pinned (OpenSpec.ofChange lineBlamesSpec)

/-- ITS FALSE NEIGHBOUR: 'it returns false'. Refute it at one input. -/
def lineBlamesWrong : ChangeSpec := { name := "lineBlames", fn := fun _ => fun
  | [d] => { results := [.lit (.bool false)], args := [d] }
  | _ => none }
def LineBlamesWrongFalsely : Prop := lineBlamesRow.holds Try.pinned (OpenSpec.ofChange lineBlamesWrong)

/-- 'merestonelaw01.LineDistances': WHATEVER THE INPUT: true; the input reads as it did. -/
def lineDistancesSpec : ChangeSpec := { name := "lineDistances", fn := fun _ => fun
  | [d1, d2, d3] => { results := [.lit (.bool true)], args := [d1, d2, d3] }
  | _ => none }
def lineDistancesRow : OpenClaim := { program := "ytppfpdhgckghdaa", sum := "5e73fc5b8f30251a4f76a5796d8e3369348c4ea571901fd34f450511f36c2261", func := "merestone/merestonelaw01.LineDistances", spec := "lineDistances", unfollowed := true, recurses := true, apart := false }
def LineDistancesSaid : Prop := lineDistancesRow.holds Try.pinned (OpenSpec.ofChange lineDistancesSpec)

/-- ITS FALSE NEIGHBOUR: 'it returns false'. Refute it at one input. -/
def lineDistancesWrong : ChangeSpec := { name := "lineDistances", fn := fun _ => fun
  | [d1, d2, d3] => { results := [.lit (.bool false)], args := [d1, d2, d3] }
  | _ => none }
def LineDistancesWrongFalsely : Prop := lineDistancesRow.holds Try.pinned (OpenSpec.ofChange lineDistancesWrong)

/-- 'merestonelaw01.LinePaths': WHATEVER THE INPUT: true; the input reads as it did. -/
def linePathsSpec : ChangeSpec := { name := "linePaths", fn := fun _ => fun
  | [d1, d2, d3, d4, d5] => { results := [.lit (.bool true)], args := [d1, d2, d3, d4, d5] }
  | _ => none }
def linePathsRow : OpenClaim := { program := "ytppfpdhgckghdaa", sum := "5e73fc5b8f30251a4f76a5796d8e3369348c4ea571901fd34f450511f36c2261", func := "merestone/merestonelaw01.LinePaths", spec := "linePaths", unfollowed := true, recurses := true, apart := false }
def LinePathsSaid : Prop := linePathsRow.holds Try.pinned (OpenSpec.ofChange linePathsSpec)

/-- ITS FALSE NEIGHBOUR: 'it returns false'. Refute it at one input. -/
def linePathsWrong : ChangeSpec := { name := "linePaths", fn := fun _ => fun
  | [d1, d2, d3, d4, d5] => { results := [.lit (.bool false)], args := [d1, d2, d3, d4, d5] }
  | _ => none }
def LinePathsWrongFalsely : Prop := linePathsRow.holds Try.pinned (OpenSpec.ofChange linePathsWrong)

/-- 'merestonelaw01.LineValues': WHATEVER THE INPUT: true; the input reads as it did. -/
def lineValuesSpec : ChangeSpec := { name := "lineValues", fn := fun _ => fun
  | [d1, d2, d3] => { results := [.lit (.bool true)], args := [d1, d2, d3] }
  | _ => none }
def lineValuesRow : OpenClaim := { program := "ytppfpdhgckghdaa", sum := "5e73fc5b8f30251a4f76a5796d8e3369348c4ea571901fd34f450511f36c2261", func := "merestone/merestonelaw01.LineValues", spec := "lineValues", unfollowed := true, recurses := true, apart := false }
def LineValuesSaid : Prop := lineValuesRow.holds Try.pinned (OpenSpec.ofChange lineValuesSpec)

/-- ITS FALSE NEIGHBOUR: 'it returns false'. Refute it at one input. -/
def lineValuesWrong : ChangeSpec := { name := "lineValues", fn := fun _ => fun
  | [d1, d2, d3] => { results := [.lit (.bool false)], args := [d1, d2, d3] }
  | _ => none }
def LineValuesWrongFalsely : Prop := lineValuesRow.holds Try.pinned (OpenSpec.ofChange lineValuesWrong)

/-- 'merestonelaw01.LineRigid': WHATEVER THE INPUT: true; the input reads as it did. -/
def lineRigidSpec : ChangeSpec := { name := "lineRigid", fn := fun _ => fun
  | [d] => { results := [.lit (.bool true)], args := [d] }
  | _ => none }
def lineRigidRow : OpenClaim := { program := "ytppfpdhgckghdaa", sum := "5e73fc5b8f30251a4f76a5796d8e3369348c4ea571901fd34f450511f36c2261", func := "merestone/merestonelaw01.LineRigid", spec := "lineRigid", unfollowed := true, recurses := true, apart := false }
def LineRigidSaid : Prop := lineRigidRow.holds Try.pinned (OpenSpec.ofChange lineRigidSpec)

/-- ITS FALSE NEIGHBOUR: 'it returns false'. Refute it at one input. -/
def lineRigidWrong : ChangeSpec := { name := "lineRigid", fn := fun _ => fun
  | [d] => { results := [.lit (.bool false)], args := [d] }
  | _ => none }
def LineRigidWrongFalsely : Prop := lineRigidRow.holds Try.pinned (OpenSpec.ofChange lineRigidWrong)

/-- 'merestonelaw01.LineNeedless': WHATEVER THE INPUT: true; the input reads as it did. -/
def lineNeedlessSpec : ChangeSpec := { name := "lineNeedless", fn := fun _ => fun
  | [d] => { results := [.lit (.bool true)], args := [d] }
  | _ => none }
def lineNeedlessRow : OpenClaim := { program := "ytppfpdhgckghdaa", sum := "5e73fc5b8f30251a4f76a5796d8e3369348c4ea571901fd34f450511f36c2261", func := "merestone/merestonelaw01.LineNeedless", spec := "lineNeedless", unfollowed := true, recurses := true, apart := false }
def LineNeedlessSaid : Prop := lineNeedlessRow.holds Try.pinned (OpenSpec.ofChange lineNeedlessSpec)

/-- ITS FALSE NEIGHBOUR: 'it returns false'. Refute it at one input. -/
def lineNeedlessWrong : ChangeSpec := { name := "lineNeedless", fn := fun _ => fun
  | [d] => { results := [.lit (.bool false)], args := [d] }
  | _ => none }
def LineNeedlessWrongFalsely : Prop := lineNeedlessRow.holds Try.pinned (OpenSpec.ofChange lineNeedlessWrong)

/-- 'merestonelaw01.LineCloses': WHATEVER THE INPUT: true; the input reads as it did. -/
def lineClosesSpec : ChangeSpec := { name := "lineCloses", fn := fun _ => fun
  | [d] => { results := [.lit (.bool true)], args := [d] }
  | _ => none }
def lineClosesRow : OpenClaim := { program := "ytppfpdhgckghdaa", sum := "5e73fc5b8f30251a4f76a5796d8e3369348c4ea571901fd34f450511f36c2261", func := "merestone/merestonelaw01.LineCloses", spec := "lineCloses", unfollowed := true, recurses := true, apart := false }
def LineClosesSaid : Prop := lineClosesRow.holds Try.pinned (OpenSpec.ofChange lineClosesSpec)

/-- ITS FALSE NEIGHBOUR: 'it returns false'. Refute it at one input. -/
def lineClosesWrong : ChangeSpec := { name := "lineCloses", fn := fun _ => fun
  | [d] => { results := [.lit (.bool false)], args := [d] }
  | _ => none }
def LineClosesWrongFalsely : Prop := lineClosesRow.holds Try.pinned (OpenSpec.ofChange lineClosesWrong)

/- THE SECOND FORM. 'bulk': how many values and letters a reading holds, each counted each time it is reached (what is shared counts as often as it is met; a slice's spare places count too). A statement '..UptoSaid' is the law's where the arguments, and the package variables that the reading takes, are together of bulk at most 1048576: NARROWER than '..Said'. Prove '..Said' where nothing that the law and all that it calls make is longer than what came in: it says more and counts as full. Else prove '..UptoSaid'. A law counts once. -/
mutual
def uptoBulk {H : Type} : DataW H → Nat
  | .lit (.string bytes) => bytes.length + 1
  | .lit _ => 1
  | .nil => 1
  | .ptr d => uptoBulk d + 1
  | .slice elems spare => uptoBulkAll elems + uptoBulkAll spare + 1
  | .agg parts => uptoBulkAll parts + 1
  | .iface _ d => uptoBulk d + 1
  | .map entries => uptoBulkEntries entries + 1
  | .held _ => 1
def uptoBulkAll {H : Type} : List (DataW H) → Nat
  | [] => 0
  | d :: r => uptoBulk d + uptoBulkAll r
def uptoBulkEntries {H : Type} : List (Lit × DataW H) → Nat
  | [] => 0
  | x :: r => uptoBulkEntry x + uptoBulkEntries r
def uptoBulkEntry {H : Type} : Lit × DataW H → Nat
  | (.string bytes, d) => bytes.length + uptoBulk d + 1
  | (_, d) => uptoBulk d + 1
 end
def uptoSmall : (H : Type) → List (DataW H) → Bool := fun _ ds => decide (uptoBulkAll ds ≤ 1048576)
def OpenSpec.upto (s : _root_.Go.ChangeSpec) : _root_.Go.OpenSpec := { _root_.Go.OpenSpec.ofChange s with cond := some uptoSmall }

/-- 'merestonelaw01.LineCircles', WHERE WHAT IT READS IS OF BULK AT MOST 1048576: true; the input reads as it did. -/
def lineCirclesUptoRow : OpenClaim := { program := "ytppfpdhgckghdaa", sum := "5e73fc5b8f30251a4f76a5796d8e3369348c4ea571901fd34f450511f36c2261", func := "merestone/merestonelaw01.LineCircles", spec := "lineCircles", unfollowed := true, recurses := true, apart := false, narrowed := true }
def LineCirclesUptoSaid : Prop := lineCirclesUptoRow.holds Try.pinned (OpenSpec.upto lineCirclesSpec)

/-- 'merestonelaw01.LineBlames', WHERE WHAT IT READS IS OF BULK AT MOST 1048576: true; the input reads as it did. -/
def lineBlamesUptoRow : OpenClaim := { program := "ytppfpdhgckghdaa", sum := "5e73fc5b8f30251a4f76a5796d8e3369348c4ea571901fd34f450511f36c2261", func := "merestone/merestonelaw01.LineBlames", spec := "lineBlames", unfollowed := true, recurses := true, apart := false, narrowed := true }
def LineBlamesUptoSaid : Prop := lineBlamesUptoRow.holds Try.pinned (OpenSpec.upto lineBlamesSpec)

/-- 'merestonelaw01.LineDistances', WHERE WHAT IT READS IS OF BULK AT MOST 1048576: true; the input reads as it did. -/
def lineDistancesUptoRow : OpenClaim := { program := "ytppfpdhgckghdaa", sum := "5e73fc5b8f30251a4f76a5796d8e3369348c4ea571901fd34f450511f36c2261", func := "merestone/merestonelaw01.LineDistances", spec := "lineDistances", unfollowed := true, recurses := true, apart := false, narrowed := true }
def LineDistancesUptoSaid : Prop := lineDistancesUptoRow.holds Try.pinned (OpenSpec.upto lineDistancesSpec)

/-- 'merestonelaw01.LinePaths', WHERE WHAT IT READS IS OF BULK AT MOST 1048576: true; the input reads as it did. -/
def linePathsUptoRow : OpenClaim := { program := "ytppfpdhgckghdaa", sum := "5e73fc5b8f30251a4f76a5796d8e3369348c4ea571901fd34f450511f36c2261", func := "merestone/merestonelaw01.LinePaths", spec := "linePaths", unfollowed := true, recurses := true, apart := false, narrowed := true }
def LinePathsUptoSaid : Prop := linePathsUptoRow.holds Try.pinned (OpenSpec.upto linePathsSpec)

/-- 'merestonelaw01.LineValues', WHERE WHAT IT READS IS OF BULK AT MOST 1048576: true; the input reads as it did. -/
def lineValuesUptoRow : OpenClaim := { program := "ytppfpdhgckghdaa", sum := "5e73fc5b8f30251a4f76a5796d8e3369348c4ea571901fd34f450511f36c2261", func := "merestone/merestonelaw01.LineValues", spec := "lineValues", unfollowed := true, recurses := true, apart := false, narrowed := true }
def LineValuesUptoSaid : Prop := lineValuesUptoRow.holds Try.pinned (OpenSpec.upto lineValuesSpec)

/-- 'merestonelaw01.LineRigid', WHERE WHAT IT READS IS OF BULK AT MOST 1048576: true; the input reads as it did. -/
def lineRigidUptoRow : OpenClaim := { program := "ytppfpdhgckghdaa", sum := "5e73fc5b8f30251a4f76a5796d8e3369348c4ea571901fd34f450511f36c2261", func := "merestone/merestonelaw01.LineRigid", spec := "lineRigid", unfollowed := true, recurses := true, apart := false, narrowed := true }
def LineRigidUptoSaid : Prop := lineRigidUptoRow.holds Try.pinned (OpenSpec.upto lineRigidSpec)

/-- 'merestonelaw01.LineNeedless', WHERE WHAT IT READS IS OF BULK AT MOST 1048576: true; the input reads as it did. -/
def lineNeedlessUptoRow : OpenClaim := { program := "ytppfpdhgckghdaa", sum := "5e73fc5b8f30251a4f76a5796d8e3369348c4ea571901fd34f450511f36c2261", func := "merestone/merestonelaw01.LineNeedless", spec := "lineNeedless", unfollowed := true, recurses := true, apart := false, narrowed := true }
def LineNeedlessUptoSaid : Prop := lineNeedlessUptoRow.holds Try.pinned (OpenSpec.upto lineNeedlessSpec)

/-- 'merestonelaw01.LineCloses', WHERE WHAT IT READS IS OF BULK AT MOST 1048576: true; the input reads as it did. -/
def lineClosesUptoRow : OpenClaim := { program := "ytppfpdhgckghdaa", sum := "5e73fc5b8f30251a4f76a5796d8e3369348c4ea571901fd34f450511f36c2261", func := "merestone/merestonelaw01.LineCloses", spec := "lineCloses", unfollowed := true, recurses := true, apart := false, narrowed := true }
def LineClosesUptoSaid : Prop := lineClosesUptoRow.holds Try.pinned (OpenSpec.upto lineClosesSpec)

end Rows
end Go.Proofs.Ytppfpdhgckghdaa
