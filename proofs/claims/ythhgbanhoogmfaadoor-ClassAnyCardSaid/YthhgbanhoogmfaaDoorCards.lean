/-
  DERIVED. GIVEN WITH THE SEED: THE CARDS: each row of YthhgbanhoogmfaaDoorRows.lean that lists a variable, with what it lists TIED to the program's text (the seventh form; the later family's looks); each row that meets fmt, with fmt's text TOLD by the authors' own Lean function (tested against real Go, not proved from fmt's source: count such statements apart). THE CARD IS WHAT COUNTS. Prove the row's statement (the work); the ties are given (YthhgbanhoogmfaaDoorTie.lean); close each card by the builder's one call (the guide's Derived/Test/ToyasCard.lean, 'card_holds'). Laid BY PROGRAM, IN A SANDBOX (cutbox-door.mjs). By AI agents, Wed Nov 11 2026. No macro, syntax, notation, axiom, sorry.
-/
import Derived.Test.YthhgbanhoogmfaaDoorRows
import GoSem.ClaimSeven
namespace Go.Proofs.YthhgbanhoogmfaaDoor
namespace Rows

/-- THE TIED CARD OF 'clewlaw05.ClassNamed'. -/
def classNamedCard : Claim7 := { stood := { row := classNamedRow, standIns := [], harness := (true, "d9192185f49b6a0a0792a6b90b4e994035aff3aff505c0b7ce1f3f7e24659644"), looks := false }, kinds := [], alts := [], laidByText := true, laidKinds := [.data], laidTests := true, laidLooks := .later }
def ClassNamedCardSaid : Prop := Claim7.holds Tryd.pinned (.plain (OpenSpec.ofChange classNamedSpec)) classNamedCard

/-- THE TIED CARD OF 'clewlaw05.ClassNames'. -/
def classNamesCard : Claim7 := { stood := { row := classNamesRow, standIns := [], harness := (true, "d9192185f49b6a0a0792a6b90b4e994035aff3aff505c0b7ce1f3f7e24659644"), looks := false }, kinds := [], alts := [], laidByText := true, laidKinds := [.data], laidTests := true, laidLooks := .later }
def ClassNamesCardSaid : Prop := Claim7.holds Tryd.pinned (.plain (OpenSpec.ofChange classNamesSpec)) classNamesCard

/-- THE TIED CARD OF 'clewlaw05.ClassOf'. -/
def classOfCard : Claim7 := { stood := { row := classOfRow, standIns := [], harness := (true, "d9192185f49b6a0a0792a6b90b4e994035aff3aff505c0b7ce1f3f7e24659644"), looks := false }, kinds := [], alts := [], laidByText := true, laidKinds := [.data], laidTests := true, laidLooks := .later }
def ClassOfCardSaid : Prop := Claim7.holds Tryd.pinned (.plain (OpenSpec.ofChange classOfSpec)) classOfCard

/-- THE TIED CARD OF 'clewlaw05.ClassAny'. -/
def classAnyCard : Claim7 := { stood := { row := classAnyRow, standIns := [], harness := (true, "d9192185f49b6a0a0792a6b90b4e994035aff3aff505c0b7ce1f3f7e24659644"), looks := false }, kinds := [], alts := [], laidByText := true, laidKinds := [.data], laidTests := true, laidLooks := .later }
def ClassAnyCardSaid : Prop := Claim7.holds Tryd.pinned (.plain (OpenSpec.ofChange classAnySpec)) classAnyCard

/-- THE SECOND FORM's CARD OF 'clewlaw05.ClassNamed'. -/
def classNamedUptoCard : Claim7 := { stood := { row := classNamedUptoRow, standIns := [], harness := (true, "d9192185f49b6a0a0792a6b90b4e994035aff3aff505c0b7ce1f3f7e24659644"), looks := false }, kinds := [], alts := [], laidByText := true, laidKinds := [.data], laidTests := true, laidLooks := .later }
def ClassNamedUptoCardSaid : Prop := Claim7.holds Tryd.pinned (.plain (OpenSpec.upto classNamedSpec)) classNamedUptoCard

/-- THE SECOND FORM's CARD OF 'clewlaw05.ClassNames'. -/
def classNamesUptoCard : Claim7 := { stood := { row := classNamesUptoRow, standIns := [], harness := (true, "d9192185f49b6a0a0792a6b90b4e994035aff3aff505c0b7ce1f3f7e24659644"), looks := false }, kinds := [], alts := [], laidByText := true, laidKinds := [.data], laidTests := true, laidLooks := .later }
def ClassNamesUptoCardSaid : Prop := Claim7.holds Tryd.pinned (.plain (OpenSpec.upto classNamesSpec)) classNamesUptoCard

/-- THE SECOND FORM's CARD OF 'clewlaw05.ClassOf'. -/
def classOfUptoCard : Claim7 := { stood := { row := classOfUptoRow, standIns := [], harness := (true, "d9192185f49b6a0a0792a6b90b4e994035aff3aff505c0b7ce1f3f7e24659644"), looks := false }, kinds := [], alts := [], laidByText := true, laidKinds := [.data], laidTests := true, laidLooks := .later }
def ClassOfUptoCardSaid : Prop := Claim7.holds Tryd.pinned (.plain (OpenSpec.upto classOfSpec)) classOfUptoCard

/-- THE SECOND FORM's CARD OF 'clewlaw05.ClassAny'. -/
def classAnyUptoCard : Claim7 := { stood := { row := classAnyUptoRow, standIns := [], harness := (true, "d9192185f49b6a0a0792a6b90b4e994035aff3aff505c0b7ce1f3f7e24659644"), looks := false }, kinds := [], alts := [], laidByText := true, laidKinds := [.data], laidTests := true, laidLooks := .later }
def ClassAnyUptoCardSaid : Prop := Claim7.holds Tryd.pinned (.plain (OpenSpec.upto classAnySpec)) classAnyUptoCard
end Rows
end Go.Proofs.YthhgbanhoogmfaaDoor
