/-
  NARROWER THAN 'FOR EVERY INPUT', by the rows' own cells (each row's printed sentence says how): DeedCorners: laid · DeedMeans: laid · DeedNarrows: laid · DeedTurns: laid · DeedMoves: laid.
  DERIVED. THE GIVEN ROWS OF THIS SEAT. 5 by the template 'for every input the law returns true; each argument reads behind the call as it read before'; 0 by the template 'total and deterministic' (their statements: YtcbeefbefapicaaGreatDoorTotals.lean).
  GIVEN WITH THE SEED: the statements are not yours to turn. If you find one false, say at which input.
  Laid BY PROGRAM, IN A SANDBOX (cutbox-rows.mjs): the forced cells as the released guide's own fill.sh prints them over the translation c0f751ead55b3386… (all of the seat's roots in one cut). By AI agents, Wed Nov 11 2026. No macro, syntax, notation, axiom, sorry.
-/
import Derived.Test.YtcbeefbefapicaaGreatDoorChecked
import GoSem.PinnedTables
import GoSem.Claim
import GoSem.ClaimJoined
import GoSem.ClaimMapViews
import Derived.JoinedTies
import Derived.KernelRfl
namespace Go.Proofs.YtcbeefbefapicaaGreatDoor
/- THE CELL 'sum', in the pinned program and in every row, IS THE sha256 OF THE DUMP (.gsa) THAT YtcbeefbefapicaaGreatDoorProg.lean LOADS. Nothing in Lean hashes anything: it is a label: what it is worth is what the hold of that sum in a sandbox is worth. -/
noncomputable def Tryz.pinned : Pinned := { name := "ytcbeefbefapicaagreatdoor", sum := "c0f751ead55b3386e381e9ffb608d1e5981018f9f353a032baf37ea8617df46e", checked := Tryz.checked }
namespace Rows
def none {H : Type} : Left H := { results := [], args := [] }

/- WHAT THE LISTED PACKAGE-LEVEL VARIABLES READ AS WHEN THE CALL BEGINS. Each datum BY PROGRAM (the guide's laid-datum.mjs) off the statement by which the dump's own 'gosem.cut.vars' lays the variable. In a bare row this is a premise. The card (YtcbeefbefapicaaGreatDoorCards.lean) ties it to the program's text. -/
def laid_math_bits_deBruijn32tab {H : Type} : DataW H := .agg [.lit (.int .u8 0), .lit (.int .u8 1), .lit (.int .u8 28), .lit (.int .u8 2), .lit (.int .u8 29), .lit (.int .u8 14), .lit (.int .u8 24), .lit (.int .u8 3), .lit (.int .u8 30), .lit (.int .u8 22), .lit (.int .u8 20), .lit (.int .u8 15), .lit (.int .u8 25), .lit (.int .u8 17), .lit (.int .u8 4), .lit (.int .u8 8), .lit (.int .u8 31), .lit (.int .u8 27), .lit (.int .u8 13), .lit (.int .u8 23), .lit (.int .u8 21), .lit (.int .u8 19), .lit (.int .u8 16), .lit (.int .u8 7), .lit (.int .u8 26), .lit (.int .u8 12), .lit (.int .u8 18), .lit (.int .u8 6), .lit (.int .u8 11), .lit (.int .u8 5), .lit (.int .u8 10), .lit (.int .u8 9)]
def laid_math_bits_deBruijn64tab {H : Type} : DataW H := .agg [.lit (.int .u8 0), .lit (.int .u8 1), .lit (.int .u8 56), .lit (.int .u8 2), .lit (.int .u8 57), .lit (.int .u8 49), .lit (.int .u8 28), .lit (.int .u8 3), .lit (.int .u8 61), .lit (.int .u8 58), .lit (.int .u8 42), .lit (.int .u8 50), .lit (.int .u8 38), .lit (.int .u8 29), .lit (.int .u8 17), .lit (.int .u8 4), .lit (.int .u8 62), .lit (.int .u8 47), .lit (.int .u8 59), .lit (.int .u8 36), .lit (.int .u8 45), .lit (.int .u8 43), .lit (.int .u8 51), .lit (.int .u8 22), .lit (.int .u8 53), .lit (.int .u8 39), .lit (.int .u8 33), .lit (.int .u8 30), .lit (.int .u8 24), .lit (.int .u8 18), .lit (.int .u8 12), .lit (.int .u8 5), .lit (.int .u8 63), .lit (.int .u8 55), .lit (.int .u8 48), .lit (.int .u8 27), .lit (.int .u8 60), .lit (.int .u8 41), .lit (.int .u8 37), .lit (.int .u8 16), .lit (.int .u8 46), .lit (.int .u8 35), .lit (.int .u8 44), .lit (.int .u8 21), .lit (.int .u8 52), .lit (.int .u8 32), .lit (.int .u8 23), .lit (.int .u8 11), .lit (.int .u8 54), .lit (.int .u8 26), .lit (.int .u8 40), .lit (.int .u8 15), .lit (.int .u8 34), .lit (.int .u8 20), .lit (.int .u8 31), .lit (.int .u8 10), .lit (.int .u8 25), .lit (.int .u8 14), .lit (.int .u8 19), .lit (.int .u8 9), .lit (.int .u8 13), .lit (.int .u8 8), .lit (.int .u8 7), .lit (.int .u8 6)]
def laid_internal_strconv_uint64pow10 {H : Type} : DataW H := .agg [.lit (.int .u64 1), .lit (.int .u64 10), .lit (.int .u64 100), .lit (.int .u64 1000), .lit (.int .u64 10000), .lit (.int .u64 100000), .lit (.int .u64 1000000), .lit (.int .u64 10000000), .lit (.int .u64 100000000), .lit (.int .u64 1000000000), .lit (.int .u64 10000000000), .lit (.int .u64 100000000000), .lit (.int .u64 1000000000000), .lit (.int .u64 10000000000000), .lit (.int .u64 100000000000000), .lit (.int .u64 1000000000000000), .lit (.int .u64 10000000000000000), .lit (.int .u64 100000000000000000), .lit (.int .u64 1000000000000000000), .lit (.int .u64 10000000000000000000)]
def laid_unicode_utf8_acceptRanges {H : Type} : DataW H := .agg [.agg [.lit (.int .u8 128), .lit (.int .u8 191)], .agg [.lit (.int .u8 160), .lit (.int .u8 191)], .agg [.lit (.int .u8 128), .lit (.int .u8 159)], .agg [.lit (.int .u8 144), .lit (.int .u8 191)], .agg [.lit (.int .u8 128), .lit (.int .u8 143)], .agg [.lit (.int .u8 0), .lit (.int .u8 0)], .agg [.lit (.int .u8 0), .lit (.int .u8 0)], .agg [.lit (.int .u8 0), .lit (.int .u8 0)], .agg [.lit (.int .u8 0), .lit (.int .u8 0)], .agg [.lit (.int .u8 0), .lit (.int .u8 0)], .agg [.lit (.int .u8 0), .lit (.int .u8 0)], .agg [.lit (.int .u8 0), .lit (.int .u8 0)], .agg [.lit (.int .u8 0), .lit (.int .u8 0)], .agg [.lit (.int .u8 0), .lit (.int .u8 0)], .agg [.lit (.int .u8 0), .lit (.int .u8 0)], .agg [.lit (.int .u8 0), .lit (.int .u8 0)]]
def laid_strconv_ErrRange {H : Type} : DataW H := .iface "*errors.errorString" (.ptr (.agg [.lit (.string [118, 97, 108, 117, 101, 32, 111, 117, 116, 32, 111, 102, 32, 114, 97, 110, 103, 101])]))
def laid_strconv_ErrSyntax {H : Type} : DataW H := .iface "*errors.errorString" (.ptr (.agg [.lit (.string [105, 110, 118, 97, 108, 105, 100, 32, 115, 121, 110, 116, 97, 120])]))
def laid_merestone_course_sines {H : Type} : DataW H := .agg [.lit (.int .i64 0), .lit (.int .i64 175), .lit (.int .i64 349), .lit (.int .i64 523), .lit (.int .i64 698), .lit (.int .i64 872), .lit (.int .i64 1045), .lit (.int .i64 1219), .lit (.int .i64 1392), .lit (.int .i64 1564), .lit (.int .i64 1736), .lit (.int .i64 1908), .lit (.int .i64 2079), .lit (.int .i64 2250), .lit (.int .i64 2419), .lit (.int .i64 2588), .lit (.int .i64 2756), .lit (.int .i64 2924), .lit (.int .i64 3090), .lit (.int .i64 3256), .lit (.int .i64 3420), .lit (.int .i64 3584), .lit (.int .i64 3746), .lit (.int .i64 3907), .lit (.int .i64 4067), .lit (.int .i64 4226), .lit (.int .i64 4384), .lit (.int .i64 4540), .lit (.int .i64 4695), .lit (.int .i64 4848), .lit (.int .i64 5000), .lit (.int .i64 5150), .lit (.int .i64 5299), .lit (.int .i64 5446), .lit (.int .i64 5592), .lit (.int .i64 5736), .lit (.int .i64 5878), .lit (.int .i64 6018), .lit (.int .i64 6157), .lit (.int .i64 6293), .lit (.int .i64 6428), .lit (.int .i64 6561), .lit (.int .i64 6691), .lit (.int .i64 6820), .lit (.int .i64 6947), .lit (.int .i64 7071), .lit (.int .i64 7193), .lit (.int .i64 7314), .lit (.int .i64 7431), .lit (.int .i64 7547), .lit (.int .i64 7660), .lit (.int .i64 7771), .lit (.int .i64 7880), .lit (.int .i64 7986), .lit (.int .i64 8090), .lit (.int .i64 8192), .lit (.int .i64 8290), .lit (.int .i64 8387), .lit (.int .i64 8480), .lit (.int .i64 8572), .lit (.int .i64 8660), .lit (.int .i64 8746), .lit (.int .i64 8829), .lit (.int .i64 8910), .lit (.int .i64 8988), .lit (.int .i64 9063), .lit (.int .i64 9135), .lit (.int .i64 9205), .lit (.int .i64 9272), .lit (.int .i64 9336), .lit (.int .i64 9397), .lit (.int .i64 9455), .lit (.int .i64 9511), .lit (.int .i64 9563), .lit (.int .i64 9613), .lit (.int .i64 9659), .lit (.int .i64 9703), .lit (.int .i64 9744), .lit (.int .i64 9781), .lit (.int .i64 9816), .lit (.int .i64 9848), .lit (.int .i64 9877), .lit (.int .i64 9903), .lit (.int .i64 9925), .lit (.int .i64 9945), .lit (.int .i64 9962), .lit (.int .i64 9976), .lit (.int .i64 9986), .lit (.int .i64 9994), .lit (.int .i64 9998), .lit (.int .i64 10000)]
/-- One of Go's own tables, pinned by name: the form's constant. -/
def laid_unicode_utf8_first : DataW Unit := Go.Pinned.utf8First

/-- 'merestonelaw03.DeedCorners': WHATEVER THE INPUT: true; the input reads as it did. -/
def deedCornersSpec : ChangeSpec := { name := "deedCorners", fn := fun _ => fun
  | [d1, d2, d3, d4] => { results := [.lit (.bool true)], args := [d1, d2, d3, d4] }
  | _ => none }
def deedCornersRow : OpenClaim := { program := "ytcbeefbefapicaagreatdoor", sum := "c0f751ead55b3386e381e9ffb608d1e5981018f9f353a032baf37ea8617df46e", func := "merestone/merestonelaw03.DeedCorners", spec := "deedCorners", inPlace := ["internal/bytealg.CountString", "internal/bytealg.IndexByteString", "internal/bytealg.IndexString", "internal/abi.NoEscape", "internal/bytealg.MakeNoZero"], unfollowed := true, recurses := true, named := ["strconv.ErrSyntax", "strconv.ErrRange", "internal/strconv.uint64pow10", "math/bits.deBruijn32tab", "math/bits.deBruijn64tab", "unicode/utf8.first", "unicode/utf8.acceptRanges", "internal/bytealg.MaxLen", "merestone/course.sines"], apart := false, laid := [("math/bits.deBruijn32tab", laid_math_bits_deBruijn32tab), ("math/bits.deBruijn64tab", laid_math_bits_deBruijn64tab), ("internal/strconv.uint64pow10", laid_internal_strconv_uint64pow10), ("unicode/utf8.acceptRanges", laid_unicode_utf8_acceptRanges), ("strconv.ErrRange", laid_strconv_ErrRange), ("strconv.ErrSyntax", laid_strconv_ErrSyntax), ("merestone/course.sines", laid_merestone_course_sines), ("unicode/utf8.first", laid_unicode_utf8_first)] }
def DeedCornersSaid : Prop := deedCornersRow.holds Tryz.pinned (OpenSpec.ofChange deedCornersSpec)

/-- ITS FALSE NEIGHBOUR: 'it returns false'. Refute it at one input. -/
def deedCornersWrong : ChangeSpec := { name := "deedCorners", fn := fun _ => fun
  | [d1, d2, d3, d4] => { results := [.lit (.bool false)], args := [d1, d2, d3, d4] }
  | _ => none }
def DeedCornersWrongFalsely : Prop := deedCornersRow.holds Tryz.pinned (OpenSpec.ofChange deedCornersWrong)

/-- 'merestonelaw03.DeedMeans': WHATEVER THE INPUT: true; the input reads as it did. -/
def deedMeansSpec : ChangeSpec := { name := "deedMeans", fn := fun _ => fun
  | [d1, d2, d3] => { results := [.lit (.bool true)], args := [d1, d2, d3] }
  | _ => none }
def deedMeansRow : OpenClaim := { program := "ytcbeefbefapicaagreatdoor", sum := "c0f751ead55b3386e381e9ffb608d1e5981018f9f353a032baf37ea8617df46e", func := "merestone/merestonelaw03.DeedMeans", spec := "deedMeans", inPlace := ["internal/bytealg.CountString", "internal/bytealg.IndexByteString", "internal/bytealg.IndexString", "internal/abi.NoEscape", "internal/bytealg.MakeNoZero"], unfollowed := true, recurses := true, named := ["strconv.ErrSyntax", "strconv.ErrRange", "internal/strconv.uint64pow10", "math/bits.deBruijn32tab", "math/bits.deBruijn64tab", "unicode/utf8.first", "unicode/utf8.acceptRanges", "internal/bytealg.MaxLen", "merestone/course.sines"], apart := false, laid := [("math/bits.deBruijn32tab", laid_math_bits_deBruijn32tab), ("math/bits.deBruijn64tab", laid_math_bits_deBruijn64tab), ("internal/strconv.uint64pow10", laid_internal_strconv_uint64pow10), ("unicode/utf8.acceptRanges", laid_unicode_utf8_acceptRanges), ("strconv.ErrRange", laid_strconv_ErrRange), ("strconv.ErrSyntax", laid_strconv_ErrSyntax), ("merestone/course.sines", laid_merestone_course_sines), ("unicode/utf8.first", laid_unicode_utf8_first)] }
def DeedMeansSaid : Prop := deedMeansRow.holds Tryz.pinned (OpenSpec.ofChange deedMeansSpec)

/-- ITS FALSE NEIGHBOUR: 'it returns false'. Refute it at one input. -/
def deedMeansWrong : ChangeSpec := { name := "deedMeans", fn := fun _ => fun
  | [d1, d2, d3] => { results := [.lit (.bool false)], args := [d1, d2, d3] }
  | _ => none }
def DeedMeansWrongFalsely : Prop := deedMeansRow.holds Tryz.pinned (OpenSpec.ofChange deedMeansWrong)

/-- 'merestonelaw03.DeedNarrows': WHATEVER THE INPUT: true; the input reads as it did. -/
def deedNarrowsSpec : ChangeSpec := { name := "deedNarrows", fn := fun _ => fun
  | [d1, d2, d3, d4, d5, d6] => { results := [.lit (.bool true)], args := [d1, d2, d3, d4, d5, d6] }
  | _ => none }
def deedNarrowsRow : OpenClaim := { program := "ytcbeefbefapicaagreatdoor", sum := "c0f751ead55b3386e381e9ffb608d1e5981018f9f353a032baf37ea8617df46e", func := "merestone/merestonelaw03.DeedNarrows", spec := "deedNarrows", inPlace := ["internal/bytealg.CountString", "internal/bytealg.IndexByteString", "internal/bytealg.IndexString", "internal/abi.NoEscape", "internal/bytealg.MakeNoZero"], unfollowed := true, recurses := true, named := ["merestone/course.sines", "strconv.ErrSyntax", "strconv.ErrRange", "internal/strconv.uint64pow10", "math/bits.deBruijn32tab", "math/bits.deBruijn64tab", "unicode/utf8.first", "unicode/utf8.acceptRanges", "internal/bytealg.MaxLen"], apart := false, laid := [("math/bits.deBruijn32tab", laid_math_bits_deBruijn32tab), ("math/bits.deBruijn64tab", laid_math_bits_deBruijn64tab), ("internal/strconv.uint64pow10", laid_internal_strconv_uint64pow10), ("unicode/utf8.acceptRanges", laid_unicode_utf8_acceptRanges), ("strconv.ErrRange", laid_strconv_ErrRange), ("strconv.ErrSyntax", laid_strconv_ErrSyntax), ("merestone/course.sines", laid_merestone_course_sines), ("unicode/utf8.first", laid_unicode_utf8_first)] }
def DeedNarrowsSaid : Prop := deedNarrowsRow.holds Tryz.pinned (OpenSpec.ofChange deedNarrowsSpec)

/-- ITS FALSE NEIGHBOUR: 'it returns false'. Refute it at one input. -/
def deedNarrowsWrong : ChangeSpec := { name := "deedNarrows", fn := fun _ => fun
  | [d1, d2, d3, d4, d5, d6] => { results := [.lit (.bool false)], args := [d1, d2, d3, d4, d5, d6] }
  | _ => none }
def DeedNarrowsWrongFalsely : Prop := deedNarrowsRow.holds Tryz.pinned (OpenSpec.ofChange deedNarrowsWrong)

/-- 'merestonelaw03.DeedTurns': WHATEVER THE INPUT: true; the input reads as it did. -/
def deedTurnsSpec : ChangeSpec := { name := "deedTurns", fn := fun _ => fun
  | [d1, d2, d3] => { results := [.lit (.bool true)], args := [d1, d2, d3] }
  | _ => none }
def deedTurnsRow : OpenClaim := { program := "ytcbeefbefapicaagreatdoor", sum := "c0f751ead55b3386e381e9ffb608d1e5981018f9f353a032baf37ea8617df46e", func := "merestone/merestonelaw03.DeedTurns", spec := "deedTurns", inPlace := ["internal/bytealg.CountString", "internal/bytealg.IndexByteString", "internal/bytealg.IndexString", "internal/abi.NoEscape", "internal/bytealg.MakeNoZero"], unfollowed := true, recurses := true, named := ["strconv.ErrSyntax", "strconv.ErrRange", "internal/strconv.uint64pow10", "math/bits.deBruijn32tab", "math/bits.deBruijn64tab", "unicode/utf8.first", "unicode/utf8.acceptRanges", "internal/bytealg.MaxLen", "merestone/course.sines"], apart := false, laid := [("math/bits.deBruijn32tab", laid_math_bits_deBruijn32tab), ("math/bits.deBruijn64tab", laid_math_bits_deBruijn64tab), ("internal/strconv.uint64pow10", laid_internal_strconv_uint64pow10), ("unicode/utf8.acceptRanges", laid_unicode_utf8_acceptRanges), ("strconv.ErrRange", laid_strconv_ErrRange), ("strconv.ErrSyntax", laid_strconv_ErrSyntax), ("merestone/course.sines", laid_merestone_course_sines), ("unicode/utf8.first", laid_unicode_utf8_first)] }
def DeedTurnsSaid : Prop := deedTurnsRow.holds Tryz.pinned (OpenSpec.ofChange deedTurnsSpec)

/-- ITS FALSE NEIGHBOUR: 'it returns false'. Refute it at one input. -/
def deedTurnsWrong : ChangeSpec := { name := "deedTurns", fn := fun _ => fun
  | [d1, d2, d3] => { results := [.lit (.bool false)], args := [d1, d2, d3] }
  | _ => none }
def DeedTurnsWrongFalsely : Prop := deedTurnsRow.holds Tryz.pinned (OpenSpec.ofChange deedTurnsWrong)

/-- 'merestonelaw03.DeedMoves': WHATEVER THE INPUT: true; the input reads as it did. -/
def deedMovesSpec : ChangeSpec := { name := "deedMoves", fn := fun _ => fun
  | [d1, d2, d3] => { results := [.lit (.bool true)], args := [d1, d2, d3] }
  | _ => none }
def deedMovesRow : OpenClaim := { program := "ytcbeefbefapicaagreatdoor", sum := "c0f751ead55b3386e381e9ffb608d1e5981018f9f353a032baf37ea8617df46e", func := "merestone/merestonelaw03.DeedMoves", spec := "deedMoves", inPlace := ["internal/bytealg.CountString", "internal/bytealg.IndexByteString", "internal/bytealg.IndexString", "internal/abi.NoEscape", "internal/bytealg.MakeNoZero"], unfollowed := true, recurses := true, named := ["strconv.ErrSyntax", "strconv.ErrRange", "internal/strconv.uint64pow10", "math/bits.deBruijn32tab", "math/bits.deBruijn64tab", "unicode/utf8.first", "unicode/utf8.acceptRanges", "internal/bytealg.MaxLen", "merestone/course.sines"], apart := false, laid := [("math/bits.deBruijn32tab", laid_math_bits_deBruijn32tab), ("math/bits.deBruijn64tab", laid_math_bits_deBruijn64tab), ("internal/strconv.uint64pow10", laid_internal_strconv_uint64pow10), ("unicode/utf8.acceptRanges", laid_unicode_utf8_acceptRanges), ("strconv.ErrRange", laid_strconv_ErrRange), ("strconv.ErrSyntax", laid_strconv_ErrSyntax), ("merestone/course.sines", laid_merestone_course_sines), ("unicode/utf8.first", laid_unicode_utf8_first)] }
def DeedMovesSaid : Prop := deedMovesRow.holds Tryz.pinned (OpenSpec.ofChange deedMovesSpec)

/-- ITS FALSE NEIGHBOUR: 'it returns false'. Refute it at one input. -/
def deedMovesWrong : ChangeSpec := { name := "deedMoves", fn := fun _ => fun
  | [d1, d2, d3] => { results := [.lit (.bool false)], args := [d1, d2, d3] }
  | _ => none }
def DeedMovesWrongFalsely : Prop := deedMovesRow.holds Tryz.pinned (OpenSpec.ofChange deedMovesWrong)

/- THE SECOND FORM. 'bulk': how many values and letters a reading holds, each counted each time it is reached (what is shared counts as often as it is met; a slice's spare places count too). A statement '..UptoSaid' is the law's where the arguments, and the package variables that the reading takes, are together of bulk at most 1048576: NARROWER than '..Said'. Prove '..Said' where nothing that the law and all that it calls make is longer than what came in: it says more and counts as full. Else prove '..UptoSaid'. A law counts once. -/
mutual
def uptoBulk {H : Type} : DataW H → Nat
  | .lit (.string bytes) => bytes.length + 1
  | .lit _ => 1
  | .nil => 1
  | .ptr d => uptoBulk d + 1
  | .slice elems spare => uptoBulkAll elems + uptoBulkAll spare + 1
  | .agg parts => uptoBulkAll parts + 1
  | .iface _ d => uptoBulk d + 1
  | .map entries => uptoBulkEntries entries + 1
  | .held _ => 1
def uptoBulkAll {H : Type} : List (DataW H) → Nat
  | [] => 0
  | d :: r => uptoBulk d + uptoBulkAll r
def uptoBulkEntries {H : Type} : List (Lit × DataW H) → Nat
  | [] => 0
  | x :: r => uptoBulkEntry x + uptoBulkEntries r
def uptoBulkEntry {H : Type} : Lit × DataW H → Nat
  | (.string bytes, d) => bytes.length + uptoBulk d + 1
  | (_, d) => uptoBulk d + 1
 end
def uptoSmall : (H : Type) → List (DataW H) → Bool := fun _ ds => decide (uptoBulkAll ds ≤ 1048576)
def OpenSpec.upto (s : _root_.Go.ChangeSpec) : _root_.Go.OpenSpec := { _root_.Go.OpenSpec.ofChange s with cond := some uptoSmall }

/-- 'merestonelaw03.DeedCorners', WHERE WHAT IT READS IS OF BULK AT MOST 1048576: true; the input reads as it did. -/
def deedCornersUptoRow : OpenClaim := { program := "ytcbeefbefapicaagreatdoor", sum := "c0f751ead55b3386e381e9ffb608d1e5981018f9f353a032baf37ea8617df46e", func := "merestone/merestonelaw03.DeedCorners", spec := "deedCorners", inPlace := ["internal/bytealg.CountString", "internal/bytealg.IndexByteString", "internal/bytealg.IndexString", "internal/abi.NoEscape", "internal/bytealg.MakeNoZero"], unfollowed := true, recurses := true, named := ["strconv.ErrSyntax", "strconv.ErrRange", "internal/strconv.uint64pow10", "math/bits.deBruijn32tab", "math/bits.deBruijn64tab", "unicode/utf8.first", "unicode/utf8.acceptRanges", "internal/bytealg.MaxLen", "merestone/course.sines"], apart := false, laid := [("math/bits.deBruijn32tab", laid_math_bits_deBruijn32tab), ("math/bits.deBruijn64tab", laid_math_bits_deBruijn64tab), ("internal/strconv.uint64pow10", laid_internal_strconv_uint64pow10), ("unicode/utf8.acceptRanges", laid_unicode_utf8_acceptRanges), ("strconv.ErrRange", laid_strconv_ErrRange), ("strconv.ErrSyntax", laid_strconv_ErrSyntax), ("merestone/course.sines", laid_merestone_course_sines), ("unicode/utf8.first", laid_unicode_utf8_first)], narrowed := true }
def DeedCornersUptoSaid : Prop := deedCornersUptoRow.holds Tryz.pinned (OpenSpec.upto deedCornersSpec)

/-- 'merestonelaw03.DeedMeans', WHERE WHAT IT READS IS OF BULK AT MOST 1048576: true; the input reads as it did. -/
def deedMeansUptoRow : OpenClaim := { program := "ytcbeefbefapicaagreatdoor", sum := "c0f751ead55b3386e381e9ffb608d1e5981018f9f353a032baf37ea8617df46e", func := "merestone/merestonelaw03.DeedMeans", spec := "deedMeans", inPlace := ["internal/bytealg.CountString", "internal/bytealg.IndexByteString", "internal/bytealg.IndexString", "internal/abi.NoEscape", "internal/bytealg.MakeNoZero"], unfollowed := true, recurses := true, named := ["strconv.ErrSyntax", "strconv.ErrRange", "internal/strconv.uint64pow10", "math/bits.deBruijn32tab", "math/bits.deBruijn64tab", "unicode/utf8.first", "unicode/utf8.acceptRanges", "internal/bytealg.MaxLen", "merestone/course.sines"], apart := false, laid := [("math/bits.deBruijn32tab", laid_math_bits_deBruijn32tab), ("math/bits.deBruijn64tab", laid_math_bits_deBruijn64tab), ("internal/strconv.uint64pow10", laid_internal_strconv_uint64pow10), ("unicode/utf8.acceptRanges", laid_unicode_utf8_acceptRanges), ("strconv.ErrRange", laid_strconv_ErrRange), ("strconv.ErrSyntax", laid_strconv_ErrSyntax), ("merestone/course.sines", laid_merestone_course_sines), ("unicode/utf8.first", laid_unicode_utf8_first)], narrowed := true }
def DeedMeansUptoSaid : Prop := deedMeansUptoRow.holds Tryz.pinned (OpenSpec.upto deedMeansSpec)

/-- 'merestonelaw03.DeedNarrows', WHERE WHAT IT READS IS OF BULK AT MOST 1048576: true; the input reads as it did. -/
def deedNarrowsUptoRow : OpenClaim := { program := "ytcbeefbefapicaagreatdoor", sum := "c0f751ead55b3386e381e9ffb608d1e5981018f9f353a032baf37ea8617df46e", func := "merestone/merestonelaw03.DeedNarrows", spec := "deedNarrows", inPlace := ["internal/bytealg.CountString", "internal/bytealg.IndexByteString", "internal/bytealg.IndexString", "internal/abi.NoEscape", "internal/bytealg.MakeNoZero"], unfollowed := true, recurses := true, named := ["merestone/course.sines", "strconv.ErrSyntax", "strconv.ErrRange", "internal/strconv.uint64pow10", "math/bits.deBruijn32tab", "math/bits.deBruijn64tab", "unicode/utf8.first", "unicode/utf8.acceptRanges", "internal/bytealg.MaxLen"], apart := false, laid := [("math/bits.deBruijn32tab", laid_math_bits_deBruijn32tab), ("math/bits.deBruijn64tab", laid_math_bits_deBruijn64tab), ("internal/strconv.uint64pow10", laid_internal_strconv_uint64pow10), ("unicode/utf8.acceptRanges", laid_unicode_utf8_acceptRanges), ("strconv.ErrRange", laid_strconv_ErrRange), ("strconv.ErrSyntax", laid_strconv_ErrSyntax), ("merestone/course.sines", laid_merestone_course_sines), ("unicode/utf8.first", laid_unicode_utf8_first)], narrowed := true }
def DeedNarrowsUptoSaid : Prop := deedNarrowsUptoRow.holds Tryz.pinned (OpenSpec.upto deedNarrowsSpec)

/-- 'merestonelaw03.DeedTurns', WHERE WHAT IT READS IS OF BULK AT MOST 1048576: true; the input reads as it did. -/
def deedTurnsUptoRow : OpenClaim := { program := "ytcbeefbefapicaagreatdoor", sum := "c0f751ead55b3386e381e9ffb608d1e5981018f9f353a032baf37ea8617df46e", func := "merestone/merestonelaw03.DeedTurns", spec := "deedTurns", inPlace := ["internal/bytealg.CountString", "internal/bytealg.IndexByteString", "internal/bytealg.IndexString", "internal/abi.NoEscape", "internal/bytealg.MakeNoZero"], unfollowed := true, recurses := true, named := ["strconv.ErrSyntax", "strconv.ErrRange", "internal/strconv.uint64pow10", "math/bits.deBruijn32tab", "math/bits.deBruijn64tab", "unicode/utf8.first", "unicode/utf8.acceptRanges", "internal/bytealg.MaxLen", "merestone/course.sines"], apart := false, laid := [("math/bits.deBruijn32tab", laid_math_bits_deBruijn32tab), ("math/bits.deBruijn64tab", laid_math_bits_deBruijn64tab), ("internal/strconv.uint64pow10", laid_internal_strconv_uint64pow10), ("unicode/utf8.acceptRanges", laid_unicode_utf8_acceptRanges), ("strconv.ErrRange", laid_strconv_ErrRange), ("strconv.ErrSyntax", laid_strconv_ErrSyntax), ("merestone/course.sines", laid_merestone_course_sines), ("unicode/utf8.first", laid_unicode_utf8_first)], narrowed := true }
def DeedTurnsUptoSaid : Prop := deedTurnsUptoRow.holds Tryz.pinned (OpenSpec.upto deedTurnsSpec)

/-- 'merestonelaw03.DeedMoves', WHERE WHAT IT READS IS OF BULK AT MOST 1048576: true; the input reads as it did. -/
def deedMovesUptoRow : OpenClaim := { program := "ytcbeefbefapicaagreatdoor", sum := "c0f751ead55b3386e381e9ffb608d1e5981018f9f353a032baf37ea8617df46e", func := "merestone/merestonelaw03.DeedMoves", spec := "deedMoves", inPlace := ["internal/bytealg.CountString", "internal/bytealg.IndexByteString", "internal/bytealg.IndexString", "internal/abi.NoEscape", "internal/bytealg.MakeNoZero"], unfollowed := true, recurses := true, named := ["strconv.ErrSyntax", "strconv.ErrRange", "internal/strconv.uint64pow10", "math/bits.deBruijn32tab", "math/bits.deBruijn64tab", "unicode/utf8.first", "unicode/utf8.acceptRanges", "internal/bytealg.MaxLen", "merestone/course.sines"], apart := false, laid := [("math/bits.deBruijn32tab", laid_math_bits_deBruijn32tab), ("math/bits.deBruijn64tab", laid_math_bits_deBruijn64tab), ("internal/strconv.uint64pow10", laid_internal_strconv_uint64pow10), ("unicode/utf8.acceptRanges", laid_unicode_utf8_acceptRanges), ("strconv.ErrRange", laid_strconv_ErrRange), ("strconv.ErrSyntax", laid_strconv_ErrSyntax), ("merestone/course.sines", laid_merestone_course_sines), ("unicode/utf8.first", laid_unicode_utf8_first)], narrowed := true }
def DeedMovesUptoSaid : Prop := deedMovesUptoRow.holds Tryz.pinned (OpenSpec.upto deedMovesSpec)

end Rows
end Go.Proofs.YtcbeefbefapicaaGreatDoor
