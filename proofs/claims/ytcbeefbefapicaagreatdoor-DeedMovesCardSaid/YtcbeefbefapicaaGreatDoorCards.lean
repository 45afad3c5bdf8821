/-
  DERIVED. GIVEN WITH THE SEED: THE CARDS: each row of YtcbeefbefapicaaGreatDoorRows.lean that lists a variable, with what it lists TIED to the program's text (the seventh form; the later family's looks); each row that meets fmt, with fmt's text TOLD by the authors' own Lean function (tested against real Go, not proved from fmt's source: count such statements apart). THE CARD IS WHAT COUNTS. Prove the row's statement (the work); the ties are given (YtcbeefbefapicaaGreatDoorTie.lean); close each card by the builder's one call (the guide's Derived/Test/ToyasCard.lean, 'card_holds'). Laid BY PROGRAM, IN A SANDBOX (cutbox-door.mjs). By AI agents, Wed Nov 11 2026. No macro, syntax, notation, axiom, sorry.
-/
import Derived.Test.YtcbeefbefapicaaGreatDoorRows
import GoSem.ClaimSeven
namespace Go.Proofs.YtcbeefbefapicaaGreatDoor
namespace Rows

/-- THE TIED CARD OF 'merestonelaw03.DeedCorners'. -/
def deedCornersCard : Claim7 := { stood := { row := deedCornersRow, standIns := [], harness := (true, "e7f8b3b9ef7baaf8ab40aedb79785526cfcab93c4854eb52c507d01a6f3baea2"), looks := true }, kinds := [], alts := [], laidByText := true, laidKinds := [.data, .data, .data, .data, .sentinel, .sentinel, .data, .pinned], laidTests := true, laidLooks := .later }
def DeedCornersCardSaid : Prop := Claim7.holds Tryz.pinned (.plain (OpenSpec.ofChange deedCornersSpec)) deedCornersCard

/-- THE TIED CARD OF 'merestonelaw03.DeedMeans'. -/
def deedMeansCard : Claim7 := { stood := { row := deedMeansRow, standIns := [], harness := (true, "e7f8b3b9ef7baaf8ab40aedb79785526cfcab93c4854eb52c507d01a6f3baea2"), looks := true }, kinds := [], alts := [], laidByText := true, laidKinds := [.data, .data, .data, .data, .sentinel, .sentinel, .data, .pinned], laidTests := true, laidLooks := .later }
def DeedMeansCardSaid : Prop := Claim7.holds Tryz.pinned (.plain (OpenSpec.ofChange deedMeansSpec)) deedMeansCard

/-- THE TIED CARD OF 'merestonelaw03.DeedNarrows'. -/
def deedNarrowsCard : Claim7 := { stood := { row := deedNarrowsRow, standIns := [], harness := (true, "e7f8b3b9ef7baaf8ab40aedb79785526cfcab93c4854eb52c507d01a6f3baea2"), looks := true }, kinds := [], alts := [], laidByText := true, laidKinds := [.data, .data, .data, .data, .sentinel, .sentinel, .data, .pinned], laidTests := true, laidLooks := .later }
def DeedNarrowsCardSaid : Prop := Claim7.holds Tryz.pinned (.plain (OpenSpec.ofChange deedNarrowsSpec)) deedNarrowsCard

/-- THE TIED CARD OF 'merestonelaw03.DeedTurns'. -/
def deedTurnsCard : Claim7 := { stood := { row := deedTurnsRow, standIns := [], harness := (true, "e7f8b3b9ef7baaf8ab40aedb79785526cfcab93c4854eb52c507d01a6f3baea2"), looks := true }, kinds := [], alts := [], laidByText := true, laidKinds := [.data, .data, .data, .data, .sentinel, .sentinel, .data, .pinned], laidTests := true, laidLooks := .later }
def DeedTurnsCardSaid : Prop := Claim7.holds Tryz.pinned (.plain (OpenSpec.ofChange deedTurnsSpec)) deedTurnsCard

/-- THE TIED CARD OF 'merestonelaw03.DeedMoves'. -/
def deedMovesCard : Claim7 := { stood := { row := deedMovesRow, standIns := [], harness := (true, "e7f8b3b9ef7baaf8ab40aedb79785526cfcab93c4854eb52c507d01a6f3baea2"), looks := true }, kinds := [], alts := [], laidByText := true, laidKinds := [.data, .data, .data, .data, .sentinel, .sentinel, .data, .pinned], laidTests := true, laidLooks := .later }
def DeedMovesCardSaid : Prop := Claim7.holds Tryz.pinned (.plain (OpenSpec.ofChange deedMovesSpec)) deedMovesCard

/-- THE SECOND FORM's CARD OF 'merestonelaw03.DeedCorners'. -/
def deedCornersUptoCard : Claim7 := { stood := { row := deedCornersUptoRow, standIns := [], harness := (true, "e7f8b3b9ef7baaf8ab40aedb79785526cfcab93c4854eb52c507d01a6f3baea2"), looks := true }, kinds := [], alts := [], laidByText := true, laidKinds := [.data, .data, .data, .data, .sentinel, .sentinel, .data, .pinned], laidTests := true, laidLooks := .later }
def DeedCornersUptoCardSaid : Prop := Claim7.holds Tryz.pinned (.plain (OpenSpec.upto deedCornersSpec)) deedCornersUptoCard

/-- THE SECOND FORM's CARD OF 'merestonelaw03.DeedMeans'. -/
def deedMeansUptoCard : Claim7 := { stood := { row := deedMeansUptoRow, standIns := [], harness := (true, "e7f8b3b9ef7baaf8ab40aedb79785526cfcab93c4854eb52c507d01a6f3baea2"), looks := true }, kinds := [], alts := [], laidByText := true, laidKinds := [.data, .data, .data, .data, .sentinel, .sentinel, .data, .pinned], laidTests := true, laidLooks := .later }
def DeedMeansUptoCardSaid : Prop := Claim7.holds Tryz.pinned (.plain (OpenSpec.upto deedMeansSpec)) deedMeansUptoCard

/-- THE SECOND FORM's CARD OF 'merestonelaw03.DeedNarrows'. -/
def deedNarrowsUptoCard : Claim7 := { stood := { row := deedNarrowsUptoRow, standIns := [], harness := (true, "e7f8b3b9ef7baaf8ab40aedb79785526cfcab93c4854eb52c507d01a6f3baea2"), looks := true }, kinds := [], alts := [], laidByText := true, laidKinds := [.data, .data, .data, .data, .sentinel, .sentinel, .data, .pinned], laidTests := true, laidLooks := .later }
def DeedNarrowsUptoCardSaid : Prop := Claim7.holds Tryz.pinned (.plain (OpenSpec.upto deedNarrowsSpec)) deedNarrowsUptoCard

/-- THE SECOND FORM's CARD OF 'merestonelaw03.DeedTurns'. -/
def deedTurnsUptoCard : Claim7 := { stood := { row := deedTurnsUptoRow, standIns := [], harness := (true, "e7f8b3b9ef7baaf8ab40aedb79785526cfcab93c4854eb52c507d01a6f3baea2"), looks := true }, kinds := [], alts := [], laidByText := true, laidKinds := [.data, .data, .data, .data, .sentinel, .sentinel, .data, .pinned], laidTests := true, laidLooks := .later }
def DeedTurnsUptoCardSaid : Prop := Claim7.holds Tryz.pinned (.plain (OpenSpec.upto deedTurnsSpec)) deedTurnsUptoCard

/-- THE SECOND FORM's CARD OF 'merestonelaw03.DeedMoves'. -/
def deedMovesUptoCard : Claim7 := { stood := { row := deedMovesUptoRow, standIns := [], harness := (true, "e7f8b3b9ef7baaf8ab40aedb79785526cfcab93c4854eb52c507d01a6f3baea2"), looks := true }, kinds := [], alts := [], laidByText := true, laidKinds := [.data, .data, .data, .data, .sentinel, .sentinel, .data, .pinned], laidTests := true, laidLooks := .later }
def DeedMovesUptoCardSaid : Prop := Claim7.holds Tryz.pinned (.plain (OpenSpec.upto deedMovesSpec)) deedMovesUptoCard
end Rows
end Go.Proofs.YtcbeefbefapicaaGreatDoor
