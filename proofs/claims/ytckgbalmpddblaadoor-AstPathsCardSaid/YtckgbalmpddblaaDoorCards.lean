/-
  DERIVED. GIVEN WITH THE SEED: THE CARDS: each row of YtckgbalmpddblaaDoorRows.lean that lists a variable, with what it lists TIED to the program's text (the seventh form; the later family's looks); each row that meets fmt, with fmt's text TOLD by the authors' own Lean function (tested against real Go, not proved from fmt's source: count such statements apart). THE CARD IS WHAT COUNTS. Prove the row's statement (the work); the ties are given (YtckgbalmpddblaaDoorTie.lean); close each card by the builder's one call (the guide's Derived/Test/ToyasCard.lean, 'card_holds'). Laid BY PROGRAM, IN A SANDBOX (cutbox-door.mjs). By AI agents, Wed Nov 11 2026. No macro, syntax, notation, axiom, sorry.
-/
import Derived.Test.YtckgbalmpddblaaDoorRows
import GoSem.ClaimSeven
namespace Go.Proofs.YtckgbalmpddblaaDoor
namespace Rows

/-- THE TIED CARD OF 'clewlaw06.AstParts'. -/
def astPartsCard : Claim7 := { stood := { row := astPartsRow, standIns := [], harness := (true, "0a253e6097d0f4ec29b77805844b8ef35d84d9e225450f20945285311d940c6e"), looks := false }, kinds := [], alts := [], laidByText := true, laidKinds := [.data], laidTests := true, laidLooks := .later }
def AstPartsCardSaid : Prop := Claim7.holds Tryd.pinned (.plain (OpenSpec.ofChange astPartsSpec)) astPartsCard

/-- THE TIED CARD OF 'clewlaw06.AstPaths'. -/
def astPathsCard : Claim7 := { stood := { row := astPathsRow, standIns := [], harness := (true, "0a253e6097d0f4ec29b77805844b8ef35d84d9e225450f20945285311d940c6e"), looks := false }, kinds := [], alts := [], laidByText := true, laidKinds := [.data], laidTests := true, laidLooks := .later }
def AstPathsCardSaid : Prop := Claim7.holds Tryd.pinned (.plain (OpenSpec.ofChange astPathsSpec)) astPathsCard

/-- THE TIED CARD OF 'clewlaw06.AstSame'. -/
def astSameCard : Claim7 := { stood := { row := astSameRow, standIns := [], harness := (true, "0a253e6097d0f4ec29b77805844b8ef35d84d9e225450f20945285311d940c6e"), looks := false }, kinds := [], alts := [], laidByText := true, laidKinds := [.data], laidTests := true, laidLooks := .later }
def AstSameCardSaid : Prop := Claim7.holds Tryd.pinned (.plain (OpenSpec.ofChange astSameSpec)) astSameCard

/-- THE SECOND FORM's CARD OF 'clewlaw06.AstParts'. -/
def astPartsUptoCard : Claim7 := { stood := { row := astPartsUptoRow, standIns := [], harness := (true, "0a253e6097d0f4ec29b77805844b8ef35d84d9e225450f20945285311d940c6e"), looks := false }, kinds := [], alts := [], laidByText := true, laidKinds := [.data], laidTests := true, laidLooks := .later }
def AstPartsUptoCardSaid : Prop := Claim7.holds Tryd.pinned (.plain (OpenSpec.upto astPartsSpec)) astPartsUptoCard

/-- THE SECOND FORM's CARD OF 'clewlaw06.AstPaths'. -/
def astPathsUptoCard : Claim7 := { stood := { row := astPathsUptoRow, standIns := [], harness := (true, "0a253e6097d0f4ec29b77805844b8ef35d84d9e225450f20945285311d940c6e"), looks := false }, kinds := [], alts := [], laidByText := true, laidKinds := [.data], laidTests := true, laidLooks := .later }
def AstPathsUptoCardSaid : Prop := Claim7.holds Tryd.pinned (.plain (OpenSpec.upto astPathsSpec)) astPathsUptoCard

/-- THE SECOND FORM's CARD OF 'clewlaw06.AstSame'. -/
def astSameUptoCard : Claim7 := { stood := { row := astSameUptoRow, standIns := [], harness := (true, "0a253e6097d0f4ec29b77805844b8ef35d84d9e225450f20945285311d940c6e"), looks := false }, kinds := [], alts := [], laidByText := true, laidKinds := [.data], laidTests := true, laidLooks := .later }
def AstSameUptoCardSaid : Prop := Claim7.holds Tryd.pinned (.plain (OpenSpec.upto astSameSpec)) astSameUptoCard
end Rows
end Go.Proofs.YtckgbalmpddblaaDoor
