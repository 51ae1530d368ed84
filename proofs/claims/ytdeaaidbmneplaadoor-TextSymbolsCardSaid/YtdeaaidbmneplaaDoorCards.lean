/-
  DERIVED. GIVEN WITH THE SEED: THE CARDS: each row of YtdeaaidbmneplaaDoorRows.lean that lists a variable, with what it lists TIED to the program's text (the seventh form; the later family's looks); each row that meets fmt, with fmt's text TOLD by the authors' own Lean function (tested against real Go, not proved from fmt's source: count such statements apart). THE CARD IS WHAT COUNTS. Prove the row's statement (the work); the ties are given (YtdeaaidbmneplaaDoorTie.lean); close each card by the builder's one call (the guide's Derived/Test/ToyasCard.lean, 'card_holds'). Laid BY PROGRAM, IN A SANDBOX (cutbox-door.mjs). By AI agents, Wed Nov 11 2026. No macro, syntax, notation, axiom, sorry.
-/
import Derived.Test.YtdeaaidbmneplaaDoorRows
import GoSem.ClaimSeven
namespace Go.Proofs.YtdeaaidbmneplaaDoor
namespace Rows

/-- THE TIED CARD OF 'clewlaw13.TextSymbols'. -/
def textSymbolsCard : Claim7 := { stood := { row := textSymbolsRow, standIns := [], harness := (true, "a5c1348de2ce7bc035dccbbb4918f0b54b3d64bbc5e5140de2e365ebe58730dc"), looks := false }, kinds := [], alts := [], laidByText := true, laidKinds := [.data, .data, .data, .pinned], laidTests := true, laidLooks := .later }
def TextSymbolsCardSaid : Prop := Claim7.holds Tryd.pinned (.plain (OpenSpec.ofChange textSymbolsSpec)) textSymbolsCard

/-- THE TIED CARD OF 'clewlaw13.TextLong'. -/
def textLongCard : Claim7 := { stood := { row := textLongRow, standIns := [], harness := (true, "a5c1348de2ce7bc035dccbbb4918f0b54b3d64bbc5e5140de2e365ebe58730dc"), looks := false }, kinds := [], alts := [], laidByText := true, laidKinds := [.data, .data, .data, .pinned], laidTests := true, laidLooks := .later }
def TextLongCardSaid : Prop := Claim7.holds Tryd.pinned (.plain (OpenSpec.ofChange textLongSpec)) textLongCard

/-- THE TIED CARD OF 'clewlaw13.TextHolds'. -/
def textHoldsCard : Claim7 := { stood := { row := textHoldsRow, standIns := [], harness := (true, "a5c1348de2ce7bc035dccbbb4918f0b54b3d64bbc5e5140de2e365ebe58730dc"), looks := false }, kinds := [], alts := [], laidByText := true, laidKinds := [.data, .data, .data, .pinned], laidTests := true, laidLooks := .later }
def TextHoldsCardSaid : Prop := Claim7.holds Tryd.pinned (.plain (OpenSpec.ofChange textHoldsSpec)) textHoldsCard

/-- THE TIED CARD OF 'clewlaw13.TextIn'. -/
def textInCard : Claim7 := { stood := { row := textInRow, standIns := [], harness := (true, "a5c1348de2ce7bc035dccbbb4918f0b54b3d64bbc5e5140de2e365ebe58730dc"), looks := false }, kinds := [], alts := [], laidByText := true, laidKinds := [.data, .data, .data, .pinned], laidTests := true, laidLooks := .later }
def TextInCardSaid : Prop := Claim7.holds Tryd.pinned (.plain (OpenSpec.ofChange textInSpec)) textInCard

/-- THE TIED CARD OF 'clewlaw13.TextAgain'. -/
def textAgainCard : Claim7 := { stood := { row := textAgainRow, standIns := [], harness := (true, "a5c1348de2ce7bc035dccbbb4918f0b54b3d64bbc5e5140de2e365ebe58730dc"), looks := false }, kinds := [], alts := [], laidByText := true, laidKinds := [.data, .data, .data, .pinned], laidTests := true, laidLooks := .later }
def TextAgainCardSaid : Prop := Claim7.holds Tryd.pinned (.plain (OpenSpec.ofChange textAgainSpec)) textAgainCard

/-- THE SECOND FORM's CARD OF 'clewlaw13.TextSymbols'. -/
def textSymbolsUptoCard : Claim7 := { stood := { row := textSymbolsUptoRow, standIns := [], harness := (true, "a5c1348de2ce7bc035dccbbb4918f0b54b3d64bbc5e5140de2e365ebe58730dc"), looks := false }, kinds := [], alts := [], laidByText := true, laidKinds := [.data, .data, .data, .pinned], laidTests := true, laidLooks := .later }
def TextSymbolsUptoCardSaid : Prop := Claim7.holds Tryd.pinned (.plain (OpenSpec.upto textSymbolsSpec)) textSymbolsUptoCard

/-- THE SECOND FORM's CARD OF 'clewlaw13.TextLong'. -/
def textLongUptoCard : Claim7 := { stood := { row := textLongUptoRow, standIns := [], harness := (true, "a5c1348de2ce7bc035dccbbb4918f0b54b3d64bbc5e5140de2e365ebe58730dc"), looks := false }, kinds := [], alts := [], laidByText := true, laidKinds := [.data, .data, .data, .pinned], laidTests := true, laidLooks := .later }
def TextLongUptoCardSaid : Prop := Claim7.holds Tryd.pinned (.plain (OpenSpec.upto textLongSpec)) textLongUptoCard

/-- THE SECOND FORM's CARD OF 'clewlaw13.TextHolds'. -/
def textHoldsUptoCard : Claim7 := { stood := { row := textHoldsUptoRow, standIns := [], harness := (true, "a5c1348de2ce7bc035dccbbb4918f0b54b3d64bbc5e5140de2e365ebe58730dc"), looks := false }, kinds := [], alts := [], laidByText := true, laidKinds := [.data, .data, .data, .pinned], laidTests := true, laidLooks := .later }
def TextHoldsUptoCardSaid : Prop := Claim7.holds Tryd.pinned (.plain (OpenSpec.upto textHoldsSpec)) textHoldsUptoCard

/-- THE SECOND FORM's CARD OF 'clewlaw13.TextIn'. -/
def textInUptoCard : Claim7 := { stood := { row := textInUptoRow, standIns := [], harness := (true, "a5c1348de2ce7bc035dccbbb4918f0b54b3d64bbc5e5140de2e365ebe58730dc"), looks := false }, kinds := [], alts := [], laidByText := true, laidKinds := [.data, .data, .data, .pinned], laidTests := true, laidLooks := .later }
def TextInUptoCardSaid : Prop := Claim7.holds Tryd.pinned (.plain (OpenSpec.upto textInSpec)) textInUptoCard

/-- THE SECOND FORM's CARD OF 'clewlaw13.TextAgain'. -/
def textAgainUptoCard : Claim7 := { stood := { row := textAgainUptoRow, standIns := [], harness := (true, "a5c1348de2ce7bc035dccbbb4918f0b54b3d64bbc5e5140de2e365ebe58730dc"), looks := false }, kinds := [], alts := [], laidByText := true, laidKinds := [.data, .data, .data, .pinned], laidTests := true, laidLooks := .later }
def TextAgainUptoCardSaid : Prop := Claim7.holds Tryd.pinned (.plain (OpenSpec.upto textAgainSpec)) textAgainUptoCard
end Rows
end Go.Proofs.YtdeaaidbmneplaaDoor
