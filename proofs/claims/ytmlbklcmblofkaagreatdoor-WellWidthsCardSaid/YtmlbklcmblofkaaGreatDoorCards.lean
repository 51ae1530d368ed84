/-
  DERIVED. GIVEN WITH THE SEED: THE CARDS: each row of YtmlbklcmblofkaaGreatDoorRows.lean that lists a variable, with what it lists TIED to the program's text (the seventh form; the later family's looks); each row that meets fmt, with fmt's text TOLD by the authors' own Lean function (tested against real Go, not proved from fmt's source: count such statements apart). THE CARD IS WHAT COUNTS. Prove the row's statement (the work); the ties are given (YtmlbklcmblofkaaGreatDoorTie.lean); close each card by the builder's one call (the guide's Derived/Test/ToyasCard.lean, 'card_holds'). Laid BY PROGRAM, IN A SANDBOX (cutbox-door.mjs). By AI agents, Wed Nov 11 2026. No macro, syntax, notation, axiom, sorry.
-/
import Derived.Test.YtmlbklcmblofkaaGreatDoorRows
import GoSem.ClaimSeven
namespace Go.Proofs.YtmlbklcmblofkaaGreatDoor
namespace Rows

/-- THE TIED CARD OF 'clewlaw09.WellWidths'. -/
def wellWidthsCard : Claim7 := { stood := { row := wellWidthsRow, standIns := [], harness := (true, "44cf1da3b77e65e07fc56a898d4d86a056d0facf32d7ccc2a9368300559a5eb8"), looks := false }, kinds := [], alts := [], laidByText := true, laidKinds := [.data, .data, .data, .pinned], laidTests := true, laidLooks := .later }
def WellWidthsCardSaid : Prop := Claim7.holds Tryz.pinned (.plain (OpenSpec.ofChange wellWidthsSpec)) wellWidthsCard

/-- THE TIED CARD OF 'clewlaw09.WellChecks'. -/
def wellChecksCard : Claim7 := { stood := { row := wellChecksRow, standIns := [], harness := (true, "44cf1da3b77e65e07fc56a898d4d86a056d0facf32d7ccc2a9368300559a5eb8"), looks := false }, kinds := [], alts := [], laidByText := true, laidKinds := [.data, .data, .data, .pinned], laidTests := true, laidLooks := .later }
def WellChecksCardSaid : Prop := Claim7.holds Tryz.pinned (.plain (OpenSpec.ofChange wellChecksSpec)) wellChecksCard

/-- THE TIED CARD OF 'clewlaw09.WellOrdered'. -/
def wellOrderedCard : Claim7 := { stood := { row := wellOrderedRow, standIns := [], harness := (true, "44cf1da3b77e65e07fc56a898d4d86a056d0facf32d7ccc2a9368300559a5eb8"), looks := false }, kinds := [], alts := [], laidByText := true, laidKinds := [.data, .data, .data, .pinned], laidTests := true, laidLooks := .later }
def WellOrderedCardSaid : Prop := Claim7.holds Tryz.pinned (.plain (OpenSpec.ofChange wellOrderedSpec)) wellOrderedCard

/-- THE SECOND FORM's CARD OF 'clewlaw09.WellWidths'. -/
def wellWidthsUptoCard : Claim7 := { stood := { row := wellWidthsUptoRow, standIns := [], harness := (true, "44cf1da3b77e65e07fc56a898d4d86a056d0facf32d7ccc2a9368300559a5eb8"), looks := false }, kinds := [], alts := [], laidByText := true, laidKinds := [.data, .data, .data, .pinned], laidTests := true, laidLooks := .later }
def WellWidthsUptoCardSaid : Prop := Claim7.holds Tryz.pinned (.plain (OpenSpec.upto wellWidthsSpec)) wellWidthsUptoCard

/-- THE SECOND FORM's CARD OF 'clewlaw09.WellChecks'. -/
def wellChecksUptoCard : Claim7 := { stood := { row := wellChecksUptoRow, standIns := [], harness := (true, "44cf1da3b77e65e07fc56a898d4d86a056d0facf32d7ccc2a9368300559a5eb8"), looks := false }, kinds := [], alts := [], laidByText := true, laidKinds := [.data, .data, .data, .pinned], laidTests := true, laidLooks := .later }
def WellChecksUptoCardSaid : Prop := Claim7.holds Tryz.pinned (.plain (OpenSpec.upto wellChecksSpec)) wellChecksUptoCard

/-- THE SECOND FORM's CARD OF 'clewlaw09.WellOrdered'. -/
def wellOrderedUptoCard : Claim7 := { stood := { row := wellOrderedUptoRow, standIns := [], harness := (true, "44cf1da3b77e65e07fc56a898d4d86a056d0facf32d7ccc2a9368300559a5eb8"), looks := false }, kinds := [], alts := [], laidByText := true, laidKinds := [.data, .data, .data, .pinned], laidTests := true, laidLooks := .later }
def WellOrderedUptoCardSaid : Prop := Claim7.holds Tryz.pinned (.plain (OpenSpec.upto wellOrderedSpec)) wellOrderedUptoCard
end Rows
end Go.Proofs.YtmlbklcmblofkaaGreatDoor
