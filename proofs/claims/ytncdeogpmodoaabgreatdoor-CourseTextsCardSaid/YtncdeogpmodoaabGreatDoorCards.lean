/-
  DERIVED. GIVEN WITH THE SEED: THE CARDS: each row of YtncdeogpmodoaabGreatDoorRows.lean that lists a variable, with what it lists TIED to the program's text (the seventh form; the later family's looks); each row that meets fmt, with fmt's text TOLD by the authors' own Lean function (tested against real Go, not proved from fmt's source: count such statements apart). THE CARD IS WHAT COUNTS. Prove the row's statement (the work); the ties are given (YtncdeogpmodoaabGreatDoorTie.lean); close each card by the builder's one call (the guide's Derived/Test/ToyasCard.lean, 'card_holds'). Laid BY PROGRAM, IN A SANDBOX (cutbox-door.mjs). By AI agents, Wed Nov 11 2026. No macro, syntax, notation, axiom, sorry.
-/
import Derived.Test.YtncdeogpmodoaabGreatDoorRows
import GoSem.ClaimSeven
namespace Go.Proofs.YtncdeogpmodoaabGreatDoor
namespace Rows

/-- THE TIED CARD OF 'merestonelaw02.CourseBack'. -/
def courseBackCard : Claim7 := { stood := { row := courseBackRow, standIns := [], harness := (true, "1cbf79ad2b711c269edbfbea003d011dfd2a4f55a2dfb7ac3fcab13c6cd7650c"), looks := true }, kinds := [], alts := [], laidByText := true, laidKinds := [.data, .data, .data, .data, .sentinel, .sentinel, .data, .pinned], laidTests := true, laidLooks := .later }
def CourseBackCardSaid : Prop := Claim7.holds Tryz.pinned (.plain (OpenSpec.ofChange courseBackSpec)) courseBackCard

/-- THE TIED CARD OF 'merestonelaw02.CourseShared'. -/
def courseSharedCard : Claim7 := { stood := { row := courseSharedRow, standIns := [], harness := (true, "1cbf79ad2b711c269edbfbea003d011dfd2a4f55a2dfb7ac3fcab13c6cd7650c"), looks := true }, kinds := [], alts := [], laidByText := true, laidKinds := [.data, .data, .data, .data, .sentinel, .sentinel, .data, .pinned], laidTests := true, laidLooks := .later }
def CourseSharedCardSaid : Prop := Claim7.holds Tryz.pinned (.plain (OpenSpec.ofChange courseSharedSpec)) courseSharedCard

/-- THE TIED CARD OF 'merestonelaw02.CourseAllows'. -/
def courseAllowsCard : Claim7 := { stood := { row := courseAllowsRow, standIns := [], harness := (true, "1cbf79ad2b711c269edbfbea003d011dfd2a4f55a2dfb7ac3fcab13c6cd7650c"), looks := true }, kinds := [], alts := [], laidByText := true, laidKinds := [.data, .data, .data, .data, .sentinel, .sentinel, .data, .pinned], laidTests := true, laidLooks := .later }
def CourseAllowsCardSaid : Prop := Claim7.holds Tryz.pinned (.plain (OpenSpec.ofChange courseAllowsSpec)) courseAllowsCard

/-- THE TIED CARD OF 'merestonelaw02.CourseLengths'. -/
def courseLengthsCard : Claim7 := { stood := { row := courseLengthsRow, standIns := [], harness := (true, "1cbf79ad2b711c269edbfbea003d011dfd2a4f55a2dfb7ac3fcab13c6cd7650c"), looks := true }, kinds := [], alts := [], laidByText := true, laidKinds := [.data, .data, .data, .data, .sentinel, .sentinel, .data, .pinned], laidTests := true, laidLooks := .later }
def CourseLengthsCardSaid : Prop := Claim7.holds Tryz.pinned (.plain (OpenSpec.ofChange courseLengthsSpec)) courseLengthsCard

/-- THE TIED CARD OF 'merestonelaw02.CourseQuadrants'. -/
def courseQuadrantsCard : Claim7 := { stood := { row := courseQuadrantsRow, standIns := [], harness := (true, "1cbf79ad2b711c269edbfbea003d011dfd2a4f55a2dfb7ac3fcab13c6cd7650c"), looks := true }, kinds := [], alts := [], laidByText := true, laidKinds := [.data, .data, .data, .data, .sentinel, .sentinel, .data, .pinned], laidTests := true, laidLooks := .later }
def CourseQuadrantsCardSaid : Prop := Claim7.holds Tryz.pinned (.plain (OpenSpec.ofChange courseQuadrantsSpec)) courseQuadrantsCard

/-- THE TIED CARD OF 'merestonelaw02.CourseTexts'. -/
def courseTextsCard : Claim7 := { stood := { row := courseTextsRow, standIns := [], harness := (true, "1cbf79ad2b711c269edbfbea003d011dfd2a4f55a2dfb7ac3fcab13c6cd7650c"), looks := true }, kinds := [], alts := [], laidByText := true, laidKinds := [.data, .data, .data, .data, .sentinel, .sentinel, .data, .pinned], laidTests := true, laidLooks := .later }
def CourseTextsCardSaid : Prop := Claim7.holds Tryz.pinned (.plain (OpenSpec.ofChange courseTextsSpec)) courseTextsCard

/-- THE SECOND FORM's CARD OF 'merestonelaw02.CourseBack'. -/
def courseBackUptoCard : Claim7 := { stood := { row := courseBackUptoRow, standIns := [], harness := (true, "1cbf79ad2b711c269edbfbea003d011dfd2a4f55a2dfb7ac3fcab13c6cd7650c"), looks := true }, kinds := [], alts := [], laidByText := true, laidKinds := [.data, .data, .data, .data, .sentinel, .sentinel, .data, .pinned], laidTests := true, laidLooks := .later }
def CourseBackUptoCardSaid : Prop := Claim7.holds Tryz.pinned (.plain (OpenSpec.upto courseBackSpec)) courseBackUptoCard

/-- THE SECOND FORM's CARD OF 'merestonelaw02.CourseShared'. -/
def courseSharedUptoCard : Claim7 := { stood := { row := courseSharedUptoRow, standIns := [], harness := (true, "1cbf79ad2b711c269edbfbea003d011dfd2a4f55a2dfb7ac3fcab13c6cd7650c"), looks := true }, kinds := [], alts := [], laidByText := true, laidKinds := [.data, .data, .data, .data, .sentinel, .sentinel, .data, .pinned], laidTests := true, laidLooks := .later }
def CourseSharedUptoCardSaid : Prop := Claim7.holds Tryz.pinned (.plain (OpenSpec.upto courseSharedSpec)) courseSharedUptoCard

/-- THE SECOND FORM's CARD OF 'merestonelaw02.CourseAllows'. -/
def courseAllowsUptoCard : Claim7 := { stood := { row := courseAllowsUptoRow, standIns := [], harness := (true, "1cbf79ad2b711c269edbfbea003d011dfd2a4f55a2dfb7ac3fcab13c6cd7650c"), looks := true }, kinds := [], alts := [], laidByText := true, laidKinds := [.data, .data, .data, .data, .sentinel, .sentinel, .data, .pinned], laidTests := true, laidLooks := .later }
def CourseAllowsUptoCardSaid : Prop := Claim7.holds Tryz.pinned (.plain (OpenSpec.upto courseAllowsSpec)) courseAllowsUptoCard

/-- THE SECOND FORM's CARD OF 'merestonelaw02.CourseLengths'. -/
def courseLengthsUptoCard : Claim7 := { stood := { row := courseLengthsUptoRow, standIns := [], harness := (true, "1cbf79ad2b711c269edbfbea003d011dfd2a4f55a2dfb7ac3fcab13c6cd7650c"), looks := true }, kinds := [], alts := [], laidByText := true, laidKinds := [.data, .data, .data, .data, .sentinel, .sentinel, .data, .pinned], laidTests := true, laidLooks := .later }
def CourseLengthsUptoCardSaid : Prop := Claim7.holds Tryz.pinned (.plain (OpenSpec.upto courseLengthsSpec)) courseLengthsUptoCard

/-- THE SECOND FORM's CARD OF 'merestonelaw02.CourseQuadrants'. -/
def courseQuadrantsUptoCard : Claim7 := { stood := { row := courseQuadrantsUptoRow, standIns := [], harness := (true, "1cbf79ad2b711c269edbfbea003d011dfd2a4f55a2dfb7ac3fcab13c6cd7650c"), looks := true }, kinds := [], alts := [], laidByText := true, laidKinds := [.data, .data, .data, .data, .sentinel, .sentinel, .data, .pinned], laidTests := true, laidLooks := .later }
def CourseQuadrantsUptoCardSaid : Prop := Claim7.holds Tryz.pinned (.plain (OpenSpec.upto courseQuadrantsSpec)) courseQuadrantsUptoCard

/-- THE SECOND FORM's CARD OF 'merestonelaw02.CourseTexts'. -/
def courseTextsUptoCard : Claim7 := { stood := { row := courseTextsUptoRow, standIns := [], harness := (true, "1cbf79ad2b711c269edbfbea003d011dfd2a4f55a2dfb7ac3fcab13c6cd7650c"), looks := true }, kinds := [], alts := [], laidByText := true, laidKinds := [.data, .data, .data, .data, .sentinel, .sentinel, .data, .pinned], laidTests := true, laidLooks := .later }
def CourseTextsUptoCardSaid : Prop := Claim7.holds Tryz.pinned (.plain (OpenSpec.upto courseTextsSpec)) courseTextsUptoCard
end Rows
end Go.Proofs.YtncdeogpmodoaabGreatDoor
