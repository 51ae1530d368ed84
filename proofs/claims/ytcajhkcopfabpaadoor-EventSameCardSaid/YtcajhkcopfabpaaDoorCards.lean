/-
  DERIVED. GIVEN WITH THE SEED: THE CARDS: each row of YtcajhkcopfabpaaDoorRows.lean that lists a variable, with what it lists TIED to the program's text (the seventh form; the later family's looks); each row that meets fmt, with fmt's text TOLD by the authors' own Lean function (tested against real Go, not proved from fmt's source: count such statements apart). THE CARD IS WHAT COUNTS. Prove the row's statement (the work); the ties are given (YtcajhkcopfabpaaDoorTie.lean); close each card by the builder's one call (the guide's Derived/Test/ToyasCard.lean, 'card_holds'). Laid BY PROGRAM, IN A SANDBOX (cutbox-door.mjs). By AI agents, Wed Nov 11 2026. No macro, syntax, notation, axiom, sorry.
-/
import Derived.Test.YtcajhkcopfabpaaDoorRows
import GoSem.ClaimSeven
namespace Go.Proofs.YtcajhkcopfabpaaDoor
namespace Rows

/-- THE TIED CARD OF 'clewlaw14.EventRight'. -/
def eventRightCard : Claim7 := { stood := { row := eventRightRow, standIns := [], harness := (true, "2ac79e3fe2d972cd69633109fa1db8b55d57cf1ea3ad1bb86b1cd3f283d4fff6"), looks := false }, kinds := [], alts := [], laidByText := true, laidKinds := [.data, .data, .data], laidTests := true, laidLooks := .later }
def EventRightCardSaid : Prop := Claim7.holds Tryd.pinned (.plain (OpenSpec.ofChange eventRightSpec)) eventRightCard

/-- THE TIED CARD OF 'clewlaw14.EventSpans'. -/
def eventSpansCard : Claim7 := { stood := { row := eventSpansRow, standIns := [], harness := (true, "2ac79e3fe2d972cd69633109fa1db8b55d57cf1ea3ad1bb86b1cd3f283d4fff6"), looks := false }, kinds := [], alts := [], laidByText := true, laidKinds := [.data], laidTests := true, laidLooks := .later }
def EventSpansCardSaid : Prop := Claim7.holds Tryd.pinned (.plain (OpenSpec.ofChange eventSpansSpec)) eventSpansCard

/-- THE TIED CARD OF 'clewlaw14.EventSame'. -/
def eventSameCard : Claim7 := { stood := { row := eventSameRow, standIns := [], harness := (true, "2ac79e3fe2d972cd69633109fa1db8b55d57cf1ea3ad1bb86b1cd3f283d4fff6"), looks := false }, kinds := [], alts := [], laidByText := true, laidKinds := [.data], laidTests := true, laidLooks := .later }
def EventSameCardSaid : Prop := Claim7.holds Tryd.pinned (.plain (OpenSpec.ofChange eventSameSpec)) eventSameCard

/-- THE TIED CARD OF 'clewlaw14.EventNames'. -/
def eventNamesCard : Claim7 := { stood := { row := eventNamesRow, standIns := [], harness := (true, "2ac79e3fe2d972cd69633109fa1db8b55d57cf1ea3ad1bb86b1cd3f283d4fff6"), looks := false }, kinds := [], alts := [], laidByText := true, laidKinds := [.data], laidTests := true, laidLooks := .later }
def EventNamesCardSaid : Prop := Claim7.holds Tryd.pinned (.plain (OpenSpec.ofChange eventNamesSpec)) eventNamesCard

/-- THE SECOND FORM's CARD OF 'clewlaw14.EventRight'. -/
def eventRightUptoCard : Claim7 := { stood := { row := eventRightUptoRow, standIns := [], harness := (true, "2ac79e3fe2d972cd69633109fa1db8b55d57cf1ea3ad1bb86b1cd3f283d4fff6"), looks := false }, kinds := [], alts := [], laidByText := true, laidKinds := [.data, .data, .data], laidTests := true, laidLooks := .later }
def EventRightUptoCardSaid : Prop := Claim7.holds Tryd.pinned (.plain (OpenSpec.upto eventRightSpec)) eventRightUptoCard

/-- THE SECOND FORM's CARD OF 'clewlaw14.EventSpans'. -/
def eventSpansUptoCard : Claim7 := { stood := { row := eventSpansUptoRow, standIns := [], harness := (true, "2ac79e3fe2d972cd69633109fa1db8b55d57cf1ea3ad1bb86b1cd3f283d4fff6"), looks := false }, kinds := [], alts := [], laidByText := true, laidKinds := [.data], laidTests := true, laidLooks := .later }
def EventSpansUptoCardSaid : Prop := Claim7.holds Tryd.pinned (.plain (OpenSpec.upto eventSpansSpec)) eventSpansUptoCard

/-- THE SECOND FORM's CARD OF 'clewlaw14.EventSame'. -/
def eventSameUptoCard : Claim7 := { stood := { row := eventSameUptoRow, standIns := [], harness := (true, "2ac79e3fe2d972cd69633109fa1db8b55d57cf1ea3ad1bb86b1cd3f283d4fff6"), looks := false }, kinds := [], alts := [], laidByText := true, laidKinds := [.data], laidTests := true, laidLooks := .later }
def EventSameUptoCardSaid : Prop := Claim7.holds Tryd.pinned (.plain (OpenSpec.upto eventSameSpec)) eventSameUptoCard

/-- THE SECOND FORM's CARD OF 'clewlaw14.EventNames'. -/
def eventNamesUptoCard : Claim7 := { stood := { row := eventNamesUptoRow, standIns := [], harness := (true, "2ac79e3fe2d972cd69633109fa1db8b55d57cf1ea3ad1bb86b1cd3f283d4fff6"), looks := false }, kinds := [], alts := [], laidByText := true, laidKinds := [.data], laidTests := true, laidLooks := .later }
def EventNamesUptoCardSaid : Prop := Claim7.holds Tryd.pinned (.plain (OpenSpec.upto eventNamesSpec)) eventNamesUptoCard
end Rows
end Go.Proofs.YtcajhkcopfabpaaDoor
