/-
  DERIVED. GIVEN WITH THE SEED: THE CARDS: each row of YtefjhdllcjjlpaaDoorRows.lean that lists a variable, with what it lists TIED to the program's text (the seventh form; the later family's looks); each row that meets fmt, with fmt's text TOLD by the authors' own Lean function (tested against real Go, not proved from fmt's source: count such statements apart). THE CARD IS WHAT COUNTS. Prove the row's statement (the work); the ties are given (YtefjhdllcjjlpaaDoorTie.lean); close each card by the builder's one call (the guide's Derived/Test/ToyasCard.lean, 'card_holds'). Laid BY PROGRAM, IN A SANDBOX (cutbox-door.mjs). By AI agents, Wed Nov 11 2026. No macro, syntax, notation, axiom, sorry.
-/
import Derived.Test.YtefjhdllcjjlpaaDoorRows
import GoSem.ClaimSeven
namespace Go.Proofs.YtefjhdllcjjlpaaDoor
namespace Rows

/-- THE TIED CARD OF 'clewlaw03.FoldOrbits'. -/
def foldOrbitsCard : Claim7 := { stood := { row := foldOrbitsRow, standIns := [], harness := (true, "81dcd3e5d98d8e5b16532381f5bd4789ba0f4b9bd0bcc9b4305b64b45b1300ea"), looks := false }, kinds := [], alts := [], laidByText := true, laidKinds := [.data], laidTests := true, laidLooks := .later }
def FoldOrbitsCardSaid : Prop := Claim7.holds Tryd.pinned (.plain (OpenSpec.ofChange foldOrbitsSpec)) foldOrbitsCard

/-- THE TIED CARD OF 'clewlaw03.FoldShares'. -/
def foldSharesCard : Claim7 := { stood := { row := foldSharesRow, standIns := [], harness := (true, "81dcd3e5d98d8e5b16532381f5bd4789ba0f4b9bd0bcc9b4305b64b45b1300ea"), looks := false }, kinds := [], alts := [], laidByText := true, laidKinds := [.data], laidTests := true, laidLooks := .later }
def FoldSharesCardSaid : Prop := Claim7.holds Tryd.pinned (.plain (OpenSpec.ofChange foldSharesSpec)) foldSharesCard

/-- THE TIED CARD OF 'clewlaw03.FoldSame'. -/
def foldSameCard : Claim7 := { stood := { row := foldSameRow, standIns := [], harness := (true, "81dcd3e5d98d8e5b16532381f5bd4789ba0f4b9bd0bcc9b4305b64b45b1300ea"), looks := false }, kinds := [], alts := [], laidByText := true, laidKinds := [.data], laidTests := true, laidLooks := .later }
def FoldSameCardSaid : Prop := Claim7.holds Tryd.pinned (.plain (OpenSpec.ofChange foldSameSpec)) foldSameCard

/-- THE TIED CARD OF 'clewlaw03.FoldCloses'. -/
def foldClosesCard : Claim7 := { stood := { row := foldClosesRow, standIns := [], harness := (true, "81dcd3e5d98d8e5b16532381f5bd4789ba0f4b9bd0bcc9b4305b64b45b1300ea"), looks := false }, kinds := [], alts := [], laidByText := true, laidKinds := [.data], laidTests := true, laidLooks := .later }
def FoldClosesCardSaid : Prop := Claim7.holds Tryd.pinned (.plain (OpenSpec.ofChange foldClosesSpec)) foldClosesCard

/-- THE SECOND FORM's CARD OF 'clewlaw03.FoldOrbits'. -/
def foldOrbitsUptoCard : Claim7 := { stood := { row := foldOrbitsUptoRow, standIns := [], harness := (true, "81dcd3e5d98d8e5b16532381f5bd4789ba0f4b9bd0bcc9b4305b64b45b1300ea"), looks := false }, kinds := [], alts := [], laidByText := true, laidKinds := [.data], laidTests := true, laidLooks := .later }
def FoldOrbitsUptoCardSaid : Prop := Claim7.holds Tryd.pinned (.plain (OpenSpec.upto foldOrbitsSpec)) foldOrbitsUptoCard

/-- THE SECOND FORM's CARD OF 'clewlaw03.FoldShares'. -/
def foldSharesUptoCard : Claim7 := { stood := { row := foldSharesUptoRow, standIns := [], harness := (true, "81dcd3e5d98d8e5b16532381f5bd4789ba0f4b9bd0bcc9b4305b64b45b1300ea"), looks := false }, kinds := [], alts := [], laidByText := true, laidKinds := [.data], laidTests := true, laidLooks := .later }
def FoldSharesUptoCardSaid : Prop := Claim7.holds Tryd.pinned (.plain (OpenSpec.upto foldSharesSpec)) foldSharesUptoCard

/-- THE SECOND FORM's CARD OF 'clewlaw03.FoldSame'. -/
def foldSameUptoCard : Claim7 := { stood := { row := foldSameUptoRow, standIns := [], harness := (true, "81dcd3e5d98d8e5b16532381f5bd4789ba0f4b9bd0bcc9b4305b64b45b1300ea"), looks := false }, kinds := [], alts := [], laidByText := true, laidKinds := [.data], laidTests := true, laidLooks := .later }
def FoldSameUptoCardSaid : Prop := Claim7.holds Tryd.pinned (.plain (OpenSpec.upto foldSameSpec)) foldSameUptoCard

/-- THE SECOND FORM's CARD OF 'clewlaw03.FoldCloses'. -/
def foldClosesUptoCard : Claim7 := { stood := { row := foldClosesUptoRow, standIns := [], harness := (true, "81dcd3e5d98d8e5b16532381f5bd4789ba0f4b9bd0bcc9b4305b64b45b1300ea"), looks := false }, kinds := [], alts := [], laidByText := true, laidKinds := [.data], laidTests := true, laidLooks := .later }
def FoldClosesUptoCardSaid : Prop := Claim7.holds Tryd.pinned (.plain (OpenSpec.upto foldClosesSpec)) foldClosesUptoCard
end Rows
end Go.Proofs.YtefjhdllcjjlpaaDoor
