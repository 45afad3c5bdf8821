/-
  No cell of these rows narrows 'for every input' (looked for: loops, veiled, ifaces, maps, wideKeys, modest, calm, conditions, laid).
  DERIVED. THE GIVEN ROWS OF THIS SEAT. 12 by the template 'for every input the law returns true; each argument reads behind the call as it read before'; 0 by the template 'total and deterministic' (their statements: YtdndhfggdjphjaaTotals.lean).
  GIVEN WITH THE SEED: the statements are not yours to turn. If you find one false, say at which input.
  Laid BY PROGRAM, IN A SANDBOX (cutbox-rows.mjs): the forced cells as the released guide's own fill.sh prints them over the translation 0a270433f3ac7b3f… (all of the seat's roots in one cut). By AI agents, Wed Nov 11 2026. No macro, syntax, notation, axiom, sorry.
-/
import Derived.Test.YtdndhfggdjphjaaChecked
import GoSem.Claim
import GoSem.ClaimJoined
import GoSem.ClaimMapViews
import Derived.JoinedTies
import Derived.KernelRfl
namespace Go.Proofs.Ytdndhfggdjphjaa
/- THE CELL 'sum', in the pinned program and in every row, IS THE sha256 OF THE DUMP (.gsa) THAT YtdndhfggdjphjaaProg.lean LOADS. Nothing in Lean hashes anything: it is a label: what it is worth is what the hold of that sum in a sandbox is worth. -/
noncomputable def Try.pinned : Pinned := { name := "ytdndhfggdjphjaa", sum := "0a270433f3ac7b3fc1539312aef1fd630bd4c285112af1ee5ef42f85385e4798", checked := Try.checked }
namespace Rows
def none {H : Type} : Left H := { results := [], args := [] }

/-- 'merestonelaw01.LineRanges': WHATEVER THE INPUT: true; the input reads as it did. -/
def lineRangesSpec : ChangeSpec := { name := "lineRanges", fn := fun _ => fun
  | [d1, d2, d3] => { results := [.lit (.bool true)], args := [d1, d2, d3] }
  | _ => none }
def lineRangesRow : OpenClaim := { program := "ytdndhfggdjphjaa", sum := "0a270433f3ac7b3fc1539312aef1fd630bd4c285112af1ee5ef42f85385e4798", func := "merestone/merestonelaw01.LineRanges", spec := "lineRanges", unfollowed := true, recurses := true, apart := false }
def LineRangesSaid : Prop := lineRangesRow.holds Try.pinned (OpenSpec.ofChange lineRangesSpec)

/-- ITS FALSE NEIGHBOUR: 'it returns false'. Refute it at one input. -/
def lineRangesWrong : ChangeSpec := { name := "lineRanges", fn := fun _ => fun
  | [d1, d2, d3] => { results := [.lit (.bool false)], args := [d1, d2, d3] }
  | _ => none }
def LineRangesWrongFalsely : Prop := lineRangesRow.holds Try.pinned (OpenSpec.ofChange lineRangesWrong)

/-- 'merestonelaw01.LineEither': WHATEVER THE INPUT: true; the input reads as it did. -/
def lineEitherSpec : ChangeSpec := { name := "lineEither", fn := fun _ => fun
  | [d1, d2] => { results := [.lit (.bool true)], args := [d1, d2] }
  | _ => none }
def lineEitherRow : OpenClaim := { program := "ytdndhfggdjphjaa", sum := "0a270433f3ac7b3fc1539312aef1fd630bd4c285112af1ee5ef42f85385e4798", func := "merestone/merestonelaw01.LineEither", spec := "lineEither", unfollowed := true, recurses := true, apart := false }
def LineEitherSaid : Prop := lineEitherRow.holds Try.pinned (OpenSpec.ofChange lineEitherSpec)

/-- ITS FALSE NEIGHBOUR: 'it returns false'. Refute it at one input. -/
def lineEitherWrong : ChangeSpec := { name := "lineEither", fn := fun _ => fun
  | [d1, d2] => { results := [.lit (.bool false)], args := [d1, d2] }
  | _ => none }
def LineEitherWrongFalsely : Prop := lineEitherRow.holds Try.pinned (OpenSpec.ofChange lineEitherWrong)

/-- 'merestonelaw01.LineSharp': WHATEVER THE INPUT: true; the input reads as it did. -/
def lineSharpSpec : ChangeSpec := { name := "lineSharp", fn := fun _ => fun
  | [d1, d2, d3, d4, d5, d6] => { results := [.lit (.bool true)], args := [d1, d2, d3, d4, d5, d6] }
  | _ => none }
def lineSharpRow : OpenClaim := { program := "ytdndhfggdjphjaa", sum := "0a270433f3ac7b3fc1539312aef1fd630bd4c285112af1ee5ef42f85385e4798", func := "merestone/merestonelaw01.LineSharp", spec := "lineSharp", unfollowed := true, recurses := true, apart := false }
def LineSharpSaid : Prop := lineSharpRow.holds Try.pinned (OpenSpec.ofChange lineSharpSpec)

/-- ITS FALSE NEIGHBOUR: 'it returns false'. Refute it at one input. -/
def lineSharpWrong : ChangeSpec := { name := "lineSharp", fn := fun _ => fun
  | [d1, d2, d3, d4, d5, d6] => { results := [.lit (.bool false)], args := [d1, d2, d3, d4, d5, d6] }
  | _ => none }
def LineSharpWrongFalsely : Prop := lineSharpRow.holds Try.pinned (OpenSpec.ofChange lineSharpWrong)

/-- 'merestonelaw01.LineAttained': WHATEVER THE INPUT: true; the input reads as it did. -/
def lineAttainedSpec : ChangeSpec := { name := "lineAttained", fn := fun _ => fun
  | [d1, d2, d3] => { results := [.lit (.bool true)], args := [d1, d2, d3] }
  | _ => none }
def lineAttainedRow : OpenClaim := { program := "ytdndhfggdjphjaa", sum := "0a270433f3ac7b3fc1539312aef1fd630bd4c285112af1ee5ef42f85385e4798", func := "merestone/merestonelaw01.LineAttained", spec := "lineAttained", unfollowed := true, recurses := true, apart := false }
def LineAttainedSaid : Prop := lineAttainedRow.holds Try.pinned (OpenSpec.ofChange lineAttainedSpec)

/-- ITS FALSE NEIGHBOUR: 'it returns false'. Refute it at one input. -/
def lineAttainedWrong : ChangeSpec := { name := "lineAttained", fn := fun _ => fun
  | [d1, d2, d3] => { results := [.lit (.bool false)], args := [d1, d2, d3] }
  | _ => none }
def LineAttainedWrongFalsely : Prop := lineAttainedRow.holds Try.pinned (OpenSpec.ofChange lineAttainedWrong)

/-- 'merestonelaw01.LineEnds': WHATEVER THE INPUT: true; the input reads as it did. -/
def lineEndsSpec : ChangeSpec := { name := "lineEnds", fn := fun _ => fun
  | [d1, d2, d3] => { results := [.lit (.bool true)], args := [d1, d2, d3] }
  | _ => none }
def lineEndsRow : OpenClaim := { program := "ytdndhfggdjphjaa", sum := "0a270433f3ac7b3fc1539312aef1fd630bd4c285112af1ee5ef42f85385e4798", func := "merestone/merestonelaw01.LineEnds", spec := "lineEnds", unfollowed := true, recurses := true, apart := false }
def LineEndsSaid : Prop := lineEndsRow.holds Try.pinned (OpenSpec.ofChange lineEndsSpec)

/-- ITS FALSE NEIGHBOUR: 'it returns false'. Refute it at one input. -/
def lineEndsWrong : ChangeSpec := { name := "lineEnds", fn := fun _ => fun
  | [d1, d2, d3] => { results := [.lit (.bool false)], args := [d1, d2, d3] }
  | _ => none }
def LineEndsWrongFalsely : Prop := lineEndsRow.holds Try.pinned (OpenSpec.ofChange lineEndsWrong)

/-- 'merestonelaw01.LineLattice': WHATEVER THE INPUT: true; the input reads as it did. -/
def lineLatticeSpec : ChangeSpec := { name := "lineLattice", fn := fun _ => fun
  | [d1, d2, d3] => { results := [.lit (.bool true)], args := [d1, d2, d3] }
  | _ => none }
def lineLatticeRow : OpenClaim := { program := "ytdndhfggdjphjaa", sum := "0a270433f3ac7b3fc1539312aef1fd630bd4c285112af1ee5ef42f85385e4798", func := "merestone/merestonelaw01.LineLattice", spec := "lineLattice", unfollowed := true, recurses := true, apart := false }
def LineLatticeSaid : Prop := lineLatticeRow.holds Try.pinned (OpenSpec.ofChange lineLatticeSpec)

/-- ITS FALSE NEIGHBOUR: 'it returns false'. Refute it at one input. -/
def lineLatticeWrong : ChangeSpec := { name := "lineLattice", fn := fun _ => fun
  | [d1, d2, d3] => { results := [.lit (.bool false)], args := [d1, d2, d3] }
  | _ => none }
def LineLatticeWrongFalsely : Prop := lineLatticeRow.holds Try.pinned (OpenSpec.ofChange lineLatticeWrong)

/-- 'merestonelaw01.LineFixed': WHATEVER THE INPUT: true; the input reads as it did. -/
def lineFixedSpec : ChangeSpec := { name := "lineFixed", fn := fun _ => fun
  | [d1, d2] => { results := [.lit (.bool true)], args := [d1, d2] }
  | _ => none }
def lineFixedRow : OpenClaim := { program := "ytdndhfggdjphjaa", sum := "0a270433f3ac7b3fc1539312aef1fd630bd4c285112af1ee5ef42f85385e4798", func := "merestone/merestonelaw01.LineFixed", spec := "lineFixed", unfollowed := true, recurses := true, apart := false }
def LineFixedSaid : Prop := lineFixedRow.holds Try.pinned (OpenSpec.ofChange lineFixedSpec)

/-- ITS FALSE NEIGHBOUR: 'it returns false'. Refute it at one input. -/
def lineFixedWrong : ChangeSpec := { name := "lineFixed", fn := fun _ => fun
  | [d1, d2] => { results := [.lit (.bool false)], args := [d1, d2] }
  | _ => none }
def LineFixedWrongFalsely : Prop := lineFixedRow.holds Try.pinned (OpenSpec.ofChange lineFixedWrong)

/-- 'merestonelaw01.LineNeeded': WHATEVER THE INPUT: true; the input reads as it did. -/
def lineNeededSpec : ChangeSpec := { name := "lineNeeded", fn := fun _ => fun
  | [d1, d2] => { results := [.lit (.bool true)], args := [d1, d2] }
  | _ => none }
def lineNeededRow : OpenClaim := { program := "ytdndhfggdjphjaa", sum := "0a270433f3ac7b3fc1539312aef1fd630bd4c285112af1ee5ef42f85385e4798", func := "merestone/merestonelaw01.LineNeeded", spec := "lineNeeded", unfollowed := true, recurses := true, apart := false }
def LineNeededSaid : Prop := lineNeededRow.holds Try.pinned (OpenSpec.ofChange lineNeededSpec)

/-- ITS FALSE NEIGHBOUR: 'it returns false'. Refute it at one input. -/
def lineNeededWrong : ChangeSpec := { name := "lineNeeded", fn := fun _ => fun
  | [d1, d2] => { results := [.lit (.bool false)], args := [d1, d2] }
  | _ => none }
def LineNeededWrongFalsely : Prop := lineNeededRow.holds Try.pinned (OpenSpec.ofChange lineNeededWrong)

/-- 'merestonelaw01.LineClosed': WHATEVER THE INPUT: true; the input reads as it did. -/
def lineClosedSpec : ChangeSpec := { name := "lineClosed", fn := fun _ => fun
  | [d] => { results := [.lit (.bool true)], args := [d] }
  | _ => none }
def lineClosedRow : OpenClaim := { program := "ytdndhfggdjphjaa", sum := "0a270433f3ac7b3fc1539312aef1fd630bd4c285112af1ee5ef42f85385e4798", func := "merestone/merestonelaw01.LineClosed", spec := "lineClosed", unfollowed := true, recurses := true, apart := false }
def LineClosedSaid : Prop := lineClosedRow.holds Try.pinned (OpenSpec.ofChange lineClosedSpec)

/-- ITS FALSE NEIGHBOUR: 'it returns false'. Refute it at one input. -/
def lineClosedWrong : ChangeSpec := { name := "lineClosed", fn := fun _ => fun
  | [d] => { results := [.lit (.bool false)], args := [d] }
  | _ => none }
def LineClosedWrongFalsely : Prop := lineClosedRow.holds Try.pinned (OpenSpec.ofChange lineClosedWrong)

/-- 'merestonelaw01.LineBlamed': WHATEVER THE INPUT: true; the input reads as it did. -/
def lineBlamedSpec : ChangeSpec := { name := "lineBlamed", fn := fun _ => fun
  | [d1, d2] => { results := [.lit (.bool true)], args := [d1, d2] }
  | _ => none }
def lineBlamedRow : OpenClaim := { program := "ytdndhfggdjphjaa", sum := "0a270433f3ac7b3fc1539312aef1fd630bd4c285112af1ee5ef42f85385e4798", func := "merestone/merestonelaw01.LineBlamed", spec := "lineBlamed", unfollowed := true, recurses := true, apart := false }
def LineBlamedSaid : Prop := lineBlamedRow.holds Try.pinned (OpenSpec.ofChange lineBlamedSpec)

/-- ITS FALSE NEIGHBOUR: 'it returns false'. Refute it at one input. -/
def lineBlamedWrong : ChangeSpec := { name := "lineBlamed", fn := fun _ => fun
  | [d1, d2] => { results := [.lit (.bool false)], args := [d1, d2] }
  | _ => none }
def LineBlamedWrongFalsely : Prop := lineBlamedRow.holds Try.pinned (OpenSpec.ofChange lineBlamedWrong)

/-- 'merestonelaw01.LineMore': WHATEVER THE INPUT: true; the input reads as it did. -/
def lineMoreSpec : ChangeSpec := { name := "lineMore", fn := fun _ => fun
  | [d1, d2, d3, d4] => { results := [.lit (.bool true)], args := [d1, d2, d3, d4] }
  | _ => none }
def lineMoreRow : OpenClaim := { program := "ytdndhfggdjphjaa", sum := "0a270433f3ac7b3fc1539312aef1fd630bd4c285112af1ee5ef42f85385e4798", func := "merestone/merestonelaw01.LineMore", spec := "lineMore", unfollowed := true, recurses := true, apart := false }
def LineMoreSaid : Prop := lineMoreRow.holds Try.pinned (OpenSpec.ofChange lineMoreSpec)

/-- ITS FALSE NEIGHBOUR: 'it returns false'. Refute it at one input. -/
def lineMoreWrong : ChangeSpec := { name := "lineMore", fn := fun _ => fun
  | [d1, d2, d3, d4] => { results := [.lit (.bool false)], args := [d1, d2, d3, d4] }
  | _ => none }
def LineMoreWrongFalsely : Prop := lineMoreRow.holds Try.pinned (OpenSpec.ofChange lineMoreWrong)

/-- 'merestonelaw01.LineMemory': WHATEVER THE INPUT: true; the input reads as it did. -/
def lineMemorySpec : ChangeSpec := { name := "lineMemory", fn := fun _ => fun
  | [d1, d2, d3, d4] => { results := [.lit (.bool true)], args := [d1, d2, d3, d4] }
  | _ => none }
def lineMemoryRow : OpenClaim := { program := "ytdndhfggdjphjaa", sum := "0a270433f3ac7b3fc1539312aef1fd630bd4c285112af1ee5ef42f85385e4798", func := "merestone/merestonelaw01.LineMemory", spec := "lineMemory", unfollowed := true, recurses := true, apart := false }
def LineMemorySaid : Prop := lineMemoryRow.holds Try.pinned (OpenSpec.ofChange lineMemorySpec)

/-- ITS FALSE NEIGHBOUR: 'it returns false'. Refute it at one input. -/
def lineMemoryWrong : ChangeSpec := { name := "lineMemory", fn := fun _ => fun
  | [d1, d2, d3, d4] => { results := [.lit (.bool false)], args := [d1, d2, d3, d4] }
  | _ => none }
def LineMemoryWrongFalsely : Prop := lineMemoryRow.holds Try.pinned (OpenSpec.ofChange lineMemoryWrong)

/- THE SECOND FORM. 'bulk': how many values and letters a reading holds, each counted each time it is reached (what is shared counts as often as it is met; a slice's spare places count too). A statement '..UptoSaid' is the law's where the arguments, and the package variables that the reading takes, are together of bulk at most 1048576: NARROWER than '..Said'. Prove '..Said' where nothing that the law and all that it calls make is longer than what came in: it says more and counts as full. Else prove '..UptoSaid'. A law counts once. -/
mutual
def uptoBulk {H : Type} : DataW H → Nat
  | .lit (.string bytes) => bytes.length + 1
  | .lit _ => 1
  | .nil => 1
  | .ptr d => uptoBulk d + 1
  | .slice elems spare => uptoBulkAll elems + uptoBulkAll spare + 1
  | .agg parts => uptoBulkAll parts + 1
  | .iface _ d => uptoBulk d + 1
  | .map entries => uptoBulkEntries entries + 1
  | .held _ => 1
def uptoBulkAll {H : Type} : List (DataW H) → Nat
  | [] => 0
  | d :: r => uptoBulk d + uptoBulkAll r
def uptoBulkEntries {H : Type} : List (Lit × DataW H) → Nat
  | [] => 0
  | x :: r => uptoBulkEntry x + uptoBulkEntries r
def uptoBulkEntry {H : Type} : Lit × DataW H → Nat
  | (.string bytes, d) => bytes.length + uptoBulk d + 1
  | (_, d) => uptoBulk d + 1
 end
def uptoSmall : (H : Type) → List (DataW H) → Bool := fun _ ds => decide (uptoBulkAll ds ≤ 1048576)
def OpenSpec.upto (s : _root_.Go.ChangeSpec) : _root_.Go.OpenSpec := { _root_.Go.OpenSpec.ofChange s with cond := some uptoSmall }

/-- 'merestonelaw01.LineRanges', WHERE WHAT IT READS IS OF BULK AT MOST 1048576: true; the input reads as it did. -/
def lineRangesUptoRow : OpenClaim := { program := "ytdndhfggdjphjaa", sum := "0a270433f3ac7b3fc1539312aef1fd630bd4c285112af1ee5ef42f85385e4798", func := "merestone/merestonelaw01.LineRanges", spec := "lineRanges", unfollowed := true, recurses := true, apart := false, narrowed := true }
def LineRangesUptoSaid : Prop := lineRangesUptoRow.holds Try.pinned (OpenSpec.upto lineRangesSpec)

/-- 'merestonelaw01.LineEither', WHERE WHAT IT READS IS OF BULK AT MOST 1048576: true; the input reads as it did. -/
def lineEitherUptoRow : OpenClaim := { program := "ytdndhfggdjphjaa", sum := "0a270433f3ac7b3fc1539312aef1fd630bd4c285112af1ee5ef42f85385e4798", func := "merestone/merestonelaw01.LineEither", spec := "lineEither", unfollowed := true, recurses := true, apart := false, narrowed := true }
def LineEitherUptoSaid : Prop := lineEitherUptoRow.holds Try.pinned (OpenSpec.upto lineEitherSpec)

/-- 'merestonelaw01.LineSharp', WHERE WHAT IT READS IS OF BULK AT MOST 1048576: true; the input reads as it did. -/
def lineSharpUptoRow : OpenClaim := { program := "ytdndhfggdjphjaa", sum := "0a270433f3ac7b3fc1539312aef1fd630bd4c285112af1ee5ef42f85385e4798", func := "merestone/merestonelaw01.LineSharp", spec := "lineSharp", unfollowed := true, recurses := true, apart := false, narrowed := true }
def LineSharpUptoSaid : Prop := lineSharpUptoRow.holds Try.pinned (OpenSpec.upto lineSharpSpec)

/-- 'merestonelaw01.LineAttained', WHERE WHAT IT READS IS OF BULK AT MOST 1048576: true; the input reads as it did. -/
def lineAttainedUptoRow : OpenClaim := { program := "ytdndhfggdjphjaa", sum := "0a270433f3ac7b3fc1539312aef1fd630bd4c285112af1ee5ef42f85385e4798", func := "merestone/merestonelaw01.LineAttained", spec := "lineAttained", unfollowed := true, recurses := true, apart := false, narrowed := true }
def LineAttainedUptoSaid : Prop := lineAttainedUptoRow.holds Try.pinned (OpenSpec.upto lineAttainedSpec)

/-- 'merestonelaw01.LineEnds', WHERE WHAT IT READS IS OF BULK AT MOST 1048576: true; the input reads as it did. -/
def lineEndsUptoRow : OpenClaim := { program := "ytdndhfggdjphjaa", sum := "0a270433f3ac7b3fc1539312aef1fd630bd4c285112af1ee5ef42f85385e4798", func := "merestone/merestonelaw01.LineEnds", spec := "lineEnds", unfollowed := true, recurses := true, apart := false, narrowed := true }
def LineEndsUptoSaid : Prop := lineEndsUptoRow.holds Try.pinned (OpenSpec.upto lineEndsSpec)

/-- 'merestonelaw01.LineLattice', WHERE WHAT IT READS IS OF BULK AT MOST 1048576: true; the input reads as it did. -/
def lineLatticeUptoRow : OpenClaim := { program := "ytdndhfggdjphjaa", sum := "0a270433f3ac7b3fc1539312aef1fd630bd4c285112af1ee5ef42f85385e4798", func := "merestone/merestonelaw01.LineLattice", spec := "lineLattice", unfollowed := true, recurses := true, apart := false, narrowed := true }
def LineLatticeUptoSaid : Prop := lineLatticeUptoRow.holds Try.pinned (OpenSpec.upto lineLatticeSpec)

/-- 'merestonelaw01.LineFixed', WHERE WHAT IT READS IS OF BULK AT MOST 1048576: true; the input reads as it did. -/
def lineFixedUptoRow : OpenClaim := { program := "ytdndhfggdjphjaa", sum := "0a270433f3ac7b3fc1539312aef1fd630bd4c285112af1ee5ef42f85385e4798", func := "merestone/merestonelaw01.LineFixed", spec := "lineFixed", unfollowed := true, recurses := true, apart := false, narrowed := true }
def LineFixedUptoSaid : Prop := lineFixedUptoRow.holds Try.pinned (OpenSpec.upto lineFixedSpec)

/-- 'merestonelaw01.LineNeeded', WHERE WHAT IT READS IS OF BULK AT MOST 1048576: true; the input reads as it did. -/
def lineNeededUptoRow : OpenClaim := { program := "ytdndhfggdjphjaa", sum := "0a270433f3ac7b3fc1539312aef1fd630bd4c285112af1ee5ef42f85385e4798", func := "merestone/merestonelaw01.LineNeeded", spec := "lineNeeded", unfollowed := true, recurses := true, apart := false, narrowed := true }
def LineNeededUptoSaid : Prop := lineNeededUptoRow.holds Try.pinned (OpenSpec.upto lineNeededSpec)

/-- 'merestonelaw01.LineClosed', WHERE WHAT IT READS IS OF BULK AT MOST 1048576: true; the input reads as it did. -/
def lineClosedUptoRow : OpenClaim := { program := "ytdndhfggdjphjaa", sum := "0a270433f3ac7b3fc1539312aef1fd630bd4c285112af1ee5ef42f85385e4798", func := "merestone/merestonelaw01.LineClosed", spec := "lineClosed", unfollowed := true, recurses := true, apart := false, narrowed := true }
def LineClosedUptoSaid : Prop := lineClosedUptoRow.holds Try.pinned (OpenSpec.upto lineClosedSpec)

/-- 'merestonelaw01.LineBlamed', WHERE WHAT IT READS IS OF BULK AT MOST 1048576: true; the input reads as it did. -/
def lineBlamedUptoRow : OpenClaim := { program := "ytdndhfggdjphjaa", sum := "0a270433f3ac7b3fc1539312aef1fd630bd4c285112af1ee5ef42f85385e4798", func := "merestone/merestonelaw01.LineBlamed", spec := "lineBlamed", unfollowed := true, recurses := true, apart := false, narrowed := true }
def LineBlamedUptoSaid : Prop := lineBlamedUptoRow.holds Try.pinned (OpenSpec.upto lineBlamedSpec)

/-- 'merestonelaw01.LineMore', WHERE WHAT IT READS IS OF BULK AT MOST 1048576: true; the input reads as it did. -/
def lineMoreUptoRow : OpenClaim := { program := "ytdndhfggdjphjaa", sum := "0a270433f3ac7b3fc1539312aef1fd630bd4c285112af1ee5ef42f85385e4798", func := "merestone/merestonelaw01.LineMore", spec := "lineMore", unfollowed := true, recurses := true, apart := false, narrowed := true }
def LineMoreUptoSaid : Prop := lineMoreUptoRow.holds Try.pinned (OpenSpec.upto lineMoreSpec)

/-- 'merestonelaw01.LineMemory', WHERE WHAT IT READS IS OF BULK AT MOST 1048576: true; the input reads as it did. -/
def lineMemoryUptoRow : OpenClaim := { program := "ytdndhfggdjphjaa", sum := "0a270433f3ac7b3fc1539312aef1fd630bd4c285112af1ee5ef42f85385e4798", func := "merestone/merestonelaw01.LineMemory", spec := "lineMemory", unfollowed := true, recurses := true, apart := false, narrowed := true }
def LineMemoryUptoSaid : Prop := lineMemoryUptoRow.holds Try.pinned (OpenSpec.upto lineMemorySpec)

end Rows
end Go.Proofs.Ytdndhfggdjphjaa
