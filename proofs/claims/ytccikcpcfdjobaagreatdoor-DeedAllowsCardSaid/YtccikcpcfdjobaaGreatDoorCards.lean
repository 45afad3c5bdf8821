/-
  DERIVED. GIVEN WITH THE SEED: THE CARDS: each row of YtccikcpcfdjobaaGreatDoorRows.lean that lists a variable, with what it lists TIED to the program's text (the seventh form; the later family's looks); each row that meets fmt, with fmt's text TOLD by the authors' own Lean function (tested against real Go, not proved from fmt's source: count such statements apart). THE CARD IS WHAT COUNTS. Prove the row's statement (the work); the ties are given (YtccikcpcfdjobaaGreatDoorTie.lean); close each card by the builder's one call (the guide's Derived/Test/ToyasCard.lean, 'card_holds'). Laid BY PROGRAM, IN A SANDBOX (cutbox-door.mjs). By AI agents, Wed Nov 11 2026. No macro, syntax, notation, axiom, sorry.
-/
import Derived.Test.YtccikcpcfdjobaaGreatDoorRows
import GoSem.ClaimSeven
namespace Go.Proofs.YtccikcpcfdjobaaGreatDoor
namespace Rows

/-- THE TIED CARD OF 'merestonelaw03.DeedPoints'. -/
def deedPointsCard : Claim7 := { stood := { row := deedPointsRow, standIns := [], harness := (true, "2c15769d2791a0233c1ca8c5dd0c07a007421476f3c4882c38e68e5d722c47fb"), looks := true }, kinds := [], alts := [], laidByText := true, laidKinds := [.data, .data, .data, .data, .sentinel, .sentinel, .data, .pinned], laidTests := true, laidLooks := .later }
def DeedPointsCardSaid : Prop := Claim7.holds Tryz.pinned (.plain (OpenSpec.ofChange deedPointsSpec)) deedPointsCard

/-- THE TIED CARD OF 'merestonelaw03.DeedAllows'. -/
def deedAllowsCard : Claim7 := { stood := { row := deedAllowsRow, standIns := [], harness := (true, "2c15769d2791a0233c1ca8c5dd0c07a007421476f3c4882c38e68e5d722c47fb"), looks := true }, kinds := [], alts := [], laidByText := true, laidKinds := [.data, .data, .data, .data, .sentinel, .sentinel, .data, .pinned], laidTests := true, laidLooks := .later }
def DeedAllowsCardSaid : Prop := Claim7.holds Tryz.pinned (.plain (OpenSpec.ofChange deedAllowsSpec)) deedAllowsCard

/-- THE TIED CARD OF 'merestonelaw03.DeedCalls'. -/
def deedCallsCard : Claim7 := { stood := { row := deedCallsRow, standIns := [], harness := (true, "2c15769d2791a0233c1ca8c5dd0c07a007421476f3c4882c38e68e5d722c47fb"), looks := true }, kinds := [], alts := [], laidByText := true, laidKinds := [.data, .data, .data, .data, .sentinel, .sentinel, .data, .pinned], laidTests := true, laidLooks := .later }
def DeedCallsCardSaid : Prop := Claim7.holds Tryz.pinned (.plain (OpenSpec.ofChange deedCallsSpec)) deedCallsCard

/-- THE TIED CARD OF 'merestonelaw03.DeedFields'. -/
def deedFieldsCard : Claim7 := { stood := { row := deedFieldsRow, standIns := [], harness := (true, "2c15769d2791a0233c1ca8c5dd0c07a007421476f3c4882c38e68e5d722c47fb"), looks := true }, kinds := [], alts := [], laidByText := true, laidKinds := [.data, .data, .data, .data, .sentinel, .sentinel, .data, .pinned], laidTests := true, laidLooks := .later }
def DeedFieldsCardSaid : Prop := Claim7.holds Tryz.pinned (.plain (OpenSpec.ofChange deedFieldsSpec)) deedFieldsCard

/-- THE SECOND FORM's CARD OF 'merestonelaw03.DeedPoints'. -/
def deedPointsUptoCard : Claim7 := { stood := { row := deedPointsUptoRow, standIns := [], harness := (true, "2c15769d2791a0233c1ca8c5dd0c07a007421476f3c4882c38e68e5d722c47fb"), looks := true }, kinds := [], alts := [], laidByText := true, laidKinds := [.data, .data, .data, .data, .sentinel, .sentinel, .data, .pinned], laidTests := true, laidLooks := .later }
def DeedPointsUptoCardSaid : Prop := Claim7.holds Tryz.pinned (.plain (OpenSpec.upto deedPointsSpec)) deedPointsUptoCard

/-- THE SECOND FORM's CARD OF 'merestonelaw03.DeedAllows'. -/
def deedAllowsUptoCard : Claim7 := { stood := { row := deedAllowsUptoRow, standIns := [], harness := (true, "2c15769d2791a0233c1ca8c5dd0c07a007421476f3c4882c38e68e5d722c47fb"), looks := true }, kinds := [], alts := [], laidByText := true, laidKinds := [.data, .data, .data, .data, .sentinel, .sentinel, .data, .pinned], laidTests := true, laidLooks := .later }
def DeedAllowsUptoCardSaid : Prop := Claim7.holds Tryz.pinned (.plain (OpenSpec.upto deedAllowsSpec)) deedAllowsUptoCard

/-- THE SECOND FORM's CARD OF 'merestonelaw03.DeedCalls'. -/
def deedCallsUptoCard : Claim7 := { stood := { row := deedCallsUptoRow, standIns := [], harness := (true, "2c15769d2791a0233c1ca8c5dd0c07a007421476f3c4882c38e68e5d722c47fb"), looks := true }, kinds := [], alts := [], laidByText := true, laidKinds := [.data, .data, .data, .data, .sentinel, .sentinel, .data, .pinned], laidTests := true, laidLooks := .later }
def DeedCallsUptoCardSaid : Prop := Claim7.holds Tryz.pinned (.plain (OpenSpec.upto deedCallsSpec)) deedCallsUptoCard

/-- THE SECOND FORM's CARD OF 'merestonelaw03.DeedFields'. -/
def deedFieldsUptoCard : Claim7 := { stood := { row := deedFieldsUptoRow, standIns := [], harness := (true, "2c15769d2791a0233c1ca8c5dd0c07a007421476f3c4882c38e68e5d722c47fb"), looks := true }, kinds := [], alts := [], laidByText := true, laidKinds := [.data, .data, .data, .data, .sentinel, .sentinel, .data, .pinned], laidTests := true, laidLooks := .later }
def DeedFieldsUptoCardSaid : Prop := Claim7.holds Tryz.pinned (.plain (OpenSpec.upto deedFieldsSpec)) deedFieldsUptoCard
end Rows
end Go.Proofs.YtccikcpcfdjobaaGreatDoor
