/-
  NARROWER THAN 'FOR EVERY INPUT', by the rows' own cells (each row's printed sentence says how): EventRight: laid · EventSpans: laid · EventSame: laid · EventNames: laid.
  DERIVED. THE GIVEN ROWS OF THIS SEAT. 4 by the template 'for every input the law returns true; each argument reads behind the call as it read before'; 0 by the template 'total and deterministic' (their statements: YtcajhkcopfabpaaDoorTotals.lean).
  GIVEN WITH THE SEED: the statements are not yours to turn. If you find one false, say at which input.
  Laid BY PROGRAM, IN A SANDBOX (cutbox-rows.mjs): the forced cells as the released guide's own fill.sh prints them over the translation 2cc427457a9a60b6… (all of the seat's roots in one cut). By AI agents, Wed Nov 11 2026. No macro, syntax, notation, axiom, sorry.
-/
import Derived.Test.YtcajhkcopfabpaaDoorChecked
import GoSem.Claim
import GoSem.ClaimJoined
import GoSem.ClaimMapViews
import Derived.JoinedTies
import Derived.KernelRfl
namespace Go.Proofs.YtcajhkcopfabpaaDoor
/- THE CELL 'sum', in the pinned program and in every row, IS THE sha256 OF THE DUMP (.gsa) THAT YtcajhkcopfabpaaDoorProg.lean LOADS. Nothing in Lean hashes anything: it is a label: what it is worth is what the hold of that sum in a sandbox is worth. -/
noncomputable def Tryd.pinned : Pinned := { name := "ytcajhkcopfabpaadoor", sum := "2cc427457a9a60b6a6f24dd0dd411fd1192cdfb4d3cf992b995281d1e7966d5f", checked := Tryd.checked }
namespace Rows
def none {H : Type} : Left H := { results := [], args := [] }

/- WHAT THE LISTED PACKAGE-LEVEL VARIABLES READ AS WHEN THE CALL BEGINS. Each datum BY PROGRAM (the guide's laid-datum.mjs) off the statement by which the dump's own 'gosem.cut.vars' lays the variable. In a bare row this is a premise. The card (YtcajhkcopfabpaaDoorCards.lean) ties it to the program's text. -/
def laid_clew_event_names {H : Type} : DataW H := .agg [.lit (.string []), .lit (.string [98, 101, 103, 105, 110]), .lit (.string [115, 116, 101, 112]), .lit (.string [109, 105, 115, 115]), .lit (.string [104, 101, 108, 100]), .lit (.string [116, 117, 114, 110]), .lit (.string [102, 111, 114, 107]), .lit (.string [97, 103, 97, 105, 110]), .lit (.string [111, 112, 101, 110]), .lit (.string [99, 108, 111, 115, 101]), .lit (.string [105, 110, 116, 111]), .lit (.string [111, 117, 116]), .lit (.string [100, 114, 111, 112]), .lit (.string [109, 97, 116, 99, 104]), .lit (.string [110, 111, 110, 101])]
def laid_clew_event_least {H : Type} : DataW H := .agg [.lit (.int .i64 1), .lit (.int .i64 0), .lit (.int .i64 0), .lit (.int .i64 0), .lit (.int .i64 0), .lit (.int .i64 0), .lit (.int .i64 (-1))]
def laid_clew_event_greatest {H : Type} : DataW H := .agg [.lit (.int .i64 14), .lit (.int .i64 16384), .lit (.int .i64 16384), .lit (.int .i64 65536), .lit (.int .i64 65536), .lit (.int .i64 65536), .lit (.int .i64 1048576)]

/-- 'clewlaw14.EventRight': WHATEVER THE INPUT: true; the input reads as it did. -/
def eventRightSpec : ChangeSpec := { name := "eventRight", fn := fun _ => fun
  | [d1, d2] => { results := [.lit (.bool true)], args := [d1, d2] }
  | _ => none }
def eventRightRow : OpenClaim := { program := "ytcajhkcopfabpaadoor", sum := "2cc427457a9a60b6a6f24dd0dd411fd1192cdfb4d3cf992b995281d1e7966d5f", func := "clew/clewlaw14.EventRight", spec := "eventRight", unfollowed := true, recurses := true, named := ["clew/event.names", "clew/event.least", "clew/event.greatest"], apart := false, laid := [("clew/event.names", laid_clew_event_names), ("clew/event.least", laid_clew_event_least), ("clew/event.greatest", laid_clew_event_greatest)] }
def EventRightSaid : Prop := eventRightRow.holds Tryd.pinned (OpenSpec.ofChange eventRightSpec)

/-- ITS FALSE NEIGHBOUR: 'it returns false'. Refute it at one input. -/
def eventRightWrong : ChangeSpec := { name := "eventRight", fn := fun _ => fun
  | [d1, d2] => { results := [.lit (.bool false)], args := [d1, d2] }
  | _ => none }
def EventRightWrongFalsely : Prop := eventRightRow.holds Tryd.pinned (OpenSpec.ofChange eventRightWrong)

/-- 'clewlaw14.EventSpans': WHATEVER THE INPUT: true; the input reads as it did. -/
def eventSpansSpec : ChangeSpec := { name := "eventSpans", fn := fun _ => fun
  | [d1, d2] => { results := [.lit (.bool true)], args := [d1, d2] }
  | _ => none }
def eventSpansRow : OpenClaim := { program := "ytcajhkcopfabpaadoor", sum := "2cc427457a9a60b6a6f24dd0dd411fd1192cdfb4d3cf992b995281d1e7966d5f", func := "clew/clewlaw14.EventSpans", spec := "eventSpans", named := ["clew/event.names"], apart := false, laid := [("clew/event.names", laid_clew_event_names)] }
def EventSpansSaid : Prop := eventSpansRow.holds Tryd.pinned (OpenSpec.ofChange eventSpansSpec)

/-- ITS FALSE NEIGHBOUR: 'it returns false'. Refute it at one input. -/
def eventSpansWrong : ChangeSpec := { name := "eventSpans", fn := fun _ => fun
  | [d1, d2] => { results := [.lit (.bool false)], args := [d1, d2] }
  | _ => none }
def EventSpansWrongFalsely : Prop := eventSpansRow.holds Tryd.pinned (OpenSpec.ofChange eventSpansWrong)

/-- 'clewlaw14.EventSame': WHATEVER THE INPUT: true; the input reads as it did. -/
def eventSameSpec : ChangeSpec := { name := "eventSame", fn := fun _ => fun
  | [d1, d2, d3] => { results := [.lit (.bool true)], args := [d1, d2, d3] }
  | _ => none }
def eventSameRow : OpenClaim := { program := "ytcajhkcopfabpaadoor", sum := "2cc427457a9a60b6a6f24dd0dd411fd1192cdfb4d3cf992b995281d1e7966d5f", func := "clew/clewlaw14.EventSame", spec := "eventSame", named := ["clew/event.names"], apart := false, laid := [("clew/event.names", laid_clew_event_names)] }
def EventSameSaid : Prop := eventSameRow.holds Tryd.pinned (OpenSpec.ofChange eventSameSpec)

/-- ITS FALSE NEIGHBOUR: 'it returns false'. Refute it at one input. -/
def eventSameWrong : ChangeSpec := { name := "eventSame", fn := fun _ => fun
  | [d1, d2, d3] => { results := [.lit (.bool false)], args := [d1, d2, d3] }
  | _ => none }
def EventSameWrongFalsely : Prop := eventSameRow.holds Tryd.pinned (OpenSpec.ofChange eventSameWrong)

/-- 'clewlaw14.EventNames': WHATEVER THE INPUT: true; the input reads as it did. -/
def eventNamesSpec : ChangeSpec := { name := "eventNames", fn := fun _ => fun
  | [d1, d2] => { results := [.lit (.bool true)], args := [d1, d2] }
  | _ => none }
def eventNamesRow : OpenClaim := { program := "ytcajhkcopfabpaadoor", sum := "2cc427457a9a60b6a6f24dd0dd411fd1192cdfb4d3cf992b995281d1e7966d5f", func := "clew/clewlaw14.EventNames", spec := "eventNames", named := ["clew/event.names"], apart := false, laid := [("clew/event.names", laid_clew_event_names)] }
def EventNamesSaid : Prop := eventNamesRow.holds Tryd.pinned (OpenSpec.ofChange eventNamesSpec)

/-- ITS FALSE NEIGHBOUR: 'it returns false'. Refute it at one input. -/
def eventNamesWrong : ChangeSpec := { name := "eventNames", fn := fun _ => fun
  | [d1, d2] => { results := [.lit (.bool false)], args := [d1, d2] }
  | _ => none }
def EventNamesWrongFalsely : Prop := eventNamesRow.holds Tryd.pinned (OpenSpec.ofChange eventNamesWrong)

/- THE SECOND FORM. 'bulk': how many values and letters a reading holds, each counted each time it is reached (what is shared counts as often as it is met; a slice's spare places count too). A statement '..UptoSaid' is the law's where the arguments, and the package variables that the reading takes, are together of bulk at most 1048576: NARROWER than '..Said'. Prove '..Said' where nothing that the law and all that it calls make is longer than what came in: it says more and counts as full. Else prove '..UptoSaid'. A law counts once. -/
mutual
def uptoBulk {H : Type} : DataW H → Nat
  | .lit (.string bytes) => bytes.length + 1
  | .lit _ => 1
  | .nil => 1
  | .ptr d => uptoBulk d + 1
  | .slice elems spare => uptoBulkAll elems + uptoBulkAll spare + 1
  | .agg parts => uptoBulkAll parts + 1
  | .iface _ d => uptoBulk d + 1
  | .map entries => uptoBulkEntries entries + 1
  | .held _ => 1
def uptoBulkAll {H : Type} : List (DataW H) → Nat
  | [] => 0
  | d :: r => uptoBulk d + uptoBulkAll r
def uptoBulkEntries {H : Type} : List (Lit × DataW H) → Nat
  | [] => 0
  | x :: r => uptoBulkEntry x + uptoBulkEntries r
def uptoBulkEntry {H : Type} : Lit × DataW H → Nat
  | (.string bytes, d) => bytes.length + uptoBulk d + 1
  | (_, d) => uptoBulk d + 1
 end
def uptoSmall : (H : Type) → List (DataW H) → Bool := fun _ ds => decide (uptoBulkAll ds ≤ 1048576)
def OpenSpec.upto (s : _root_.Go.ChangeSpec) : _root_.Go.OpenSpec := { _root_.Go.OpenSpec.ofChange s with cond := some uptoSmall }

/-- 'clewlaw14.EventRight', WHERE WHAT IT READS IS OF BULK AT MOST 1048576: true; the input reads as it did. -/
def eventRightUptoRow : OpenClaim := { program := "ytcajhkcopfabpaadoor", sum := "2cc427457a9a60b6a6f24dd0dd411fd1192cdfb4d3cf992b995281d1e7966d5f", func := "clew/clewlaw14.EventRight", spec := "eventRight", unfollowed := true, recurses := true, named := ["clew/event.names", "clew/event.least", "clew/event.greatest"], apart := false, laid := [("clew/event.names", laid_clew_event_names), ("clew/event.least", laid_clew_event_least), ("clew/event.greatest", laid_clew_event_greatest)], narrowed := true }
def EventRightUptoSaid : Prop := eventRightUptoRow.holds Tryd.pinned (OpenSpec.upto eventRightSpec)

/-- 'clewlaw14.EventSpans', WHERE WHAT IT READS IS OF BULK AT MOST 1048576: true; the input reads as it did. -/
def eventSpansUptoRow : OpenClaim := { program := "ytcajhkcopfabpaadoor", sum := "2cc427457a9a60b6a6f24dd0dd411fd1192cdfb4d3cf992b995281d1e7966d5f", func := "clew/clewlaw14.EventSpans", spec := "eventSpans", named := ["clew/event.names"], apart := false, laid := [("clew/event.names", laid_clew_event_names)], narrowed := true }
def EventSpansUptoSaid : Prop := eventSpansUptoRow.holds Tryd.pinned (OpenSpec.upto eventSpansSpec)

/-- 'clewlaw14.EventSame', WHERE WHAT IT READS IS OF BULK AT MOST 1048576: true; the input reads as it did. -/
def eventSameUptoRow : OpenClaim := { program := "ytcajhkcopfabpaadoor", sum := "2cc427457a9a60b6a6f24dd0dd411fd1192cdfb4d3cf992b995281d1e7966d5f", func := "clew/clewlaw14.EventSame", spec := "eventSame", named := ["clew/event.names"], apart := false, laid := [("clew/event.names", laid_clew_event_names)], narrowed := true }
def EventSameUptoSaid : Prop := eventSameUptoRow.holds Tryd.pinned (OpenSpec.upto eventSameSpec)

/-- 'clewlaw14.EventNames', WHERE WHAT IT READS IS OF BULK AT MOST 1048576: true; the input reads as it did. -/
def eventNamesUptoRow : OpenClaim := { program := "ytcajhkcopfabpaadoor", sum := "2cc427457a9a60b6a6f24dd0dd411fd1192cdfb4d3cf992b995281d1e7966d5f", func := "clew/clewlaw14.EventNames", spec := "eventNames", named := ["clew/event.names"], apart := false, laid := [("clew/event.names", laid_clew_event_names)], narrowed := true }
def EventNamesUptoSaid : Prop := eventNamesUptoRow.holds Tryd.pinned (OpenSpec.upto eventNamesSpec)

end Rows
end Go.Proofs.YtcajhkcopfabpaaDoor
