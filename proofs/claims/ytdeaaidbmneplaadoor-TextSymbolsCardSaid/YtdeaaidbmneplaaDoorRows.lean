/-
  NARROWER THAN 'FOR EVERY INPUT', by the rows' own cells (each row's printed sentence says how): TextSymbols: laid · TextLong: laid · TextHolds: laid · TextIn: laid · TextAgain: laid.
  DERIVED. THE GIVEN ROWS OF THIS SEAT. 5 by the template 'for every input the law returns true; each argument reads behind the call as it read before'; 0 by the template 'total and deterministic' (their statements: YtdeaaidbmneplaaDoorTotals.lean).
  GIVEN WITH THE SEED: the statements are not yours to turn. If you find one false, say at which input.
  Laid BY PROGRAM, IN A SANDBOX (cutbox-rows.mjs): the forced cells as the released guide's own fill.sh prints them over the translation d4e84e7f2777c0f8… (all of the seat's roots in one cut). By AI agents, Wed Nov 11 2026. No macro, syntax, notation, axiom, sorry.
-/
import Derived.Test.YtdeaaidbmneplaaDoorChecked
import GoSem.PinnedTables
import GoSem.Claim
import GoSem.ClaimJoined
import GoSem.ClaimMapViews
import Derived.JoinedTies
import Derived.KernelRfl
namespace Go.Proofs.YtdeaaidbmneplaaDoor
/- THE CELL 'sum', in the pinned program and in every row, IS THE sha256 OF THE DUMP (.gsa) THAT YtdeaaidbmneplaaDoorProg.lean LOADS. Nothing in Lean hashes anything: it is a label: what it is worth is what the hold of that sum in a sandbox is worth. -/
noncomputable def Tryd.pinned : Pinned := { name := "ytdeaaidbmneplaadoor", sum := "d4e84e7f2777c0f8e3fd0b1a415be961ca8e19b3a9d07419ee597f79e903f06f", checked := Tryd.checked }
namespace Rows
def none {H : Type} : Left H := { results := [], args := [] }

/- WHAT THE LISTED PACKAGE-LEVEL VARIABLES READ AS WHEN THE CALL BEGINS. Each datum BY PROGRAM (the guide's laid-datum.mjs) off the statement by which the dump's own 'gosem.cut.vars' lays the variable. In a bare row this is a premise. The card (YtdeaaidbmneplaaDoorCards.lean) ties it to the program's text. -/
def laid_unicode_utf8_acceptRanges {H : Type} : DataW H := .agg [.agg [.lit (.int .u8 128), .lit (.int .u8 191)], .agg [.lit (.int .u8 160), .lit (.int .u8 191)], .agg [.lit (.int .u8 128), .lit (.int .u8 159)], .agg [.lit (.int .u8 144), .lit (.int .u8 191)], .agg [.lit (.int .u8 128), .lit (.int .u8 143)], .agg [.lit (.int .u8 0), .lit (.int .u8 0)], .agg [.lit (.int .u8 0), .lit (.int .u8 0)], .agg [.lit (.int .u8 0), .lit (.int .u8 0)], .agg [.lit (.int .u8 0), .lit (.int .u8 0)], .agg [.lit (.int .u8 0), .lit (.int .u8 0)], .agg [.lit (.int .u8 0), .lit (.int .u8 0)], .agg [.lit (.int .u8 0), .lit (.int .u8 0)], .agg [.lit (.int .u8 0), .lit (.int .u8 0)], .agg [.lit (.int .u8 0), .lit (.int .u8 0)], .agg [.lit (.int .u8 0), .lit (.int .u8 0)], .agg [.lit (.int .u8 0), .lit (.int .u8 0)]]
def laid_clew_class_sets {H : Type} : DataW H := .slice [.agg [.lit (.string [97, 108, 110, 117, 109]), .lit (.string [48, 57, 65, 90, 97, 122])], .agg [.lit (.string [97, 108, 112, 104, 97]), .lit (.string [65, 90, 97, 122])], .agg [.lit (.string [97, 115, 99, 105, 105]), .lit (.string [0, 127])], .agg [.lit (.string [98, 108, 97, 110, 107]), .lit (.string [9, 9, 32, 32])], .agg [.lit (.string [99, 110, 116, 114, 108]), .lit (.string [0, 31, 127, 127])], .agg [.lit (.string [100, 105, 103, 105, 116]), .lit (.string [48, 57])], .agg [.lit (.string [103, 114, 97, 112, 104]), .lit (.string [33, 126])], .agg [.lit (.string [108, 111, 119, 101, 114]), .lit (.string [97, 122])], .agg [.lit (.string [112, 114, 105, 110, 116]), .lit (.string [32, 126])], .agg [.lit (.string [112, 117, 110, 99, 116]), .lit (.string [33, 47, 58, 64, 91, 96, 123, 126])], .agg [.lit (.string [115, 112, 97, 99, 101]), .lit (.string [9, 13, 32, 32])], .agg [.lit (.string [117, 112, 112, 101, 114]), .lit (.string [65, 90])], .agg [.lit (.string [119, 111, 114, 100]), .lit (.string [48, 57, 65, 90, 95, 95, 97, 122])], .agg [.lit (.string [120, 100, 105, 103, 105, 116]), .lit (.string [48, 57, 65, 70, 97, 102])]] []
def laid_clew_fold_rows {H : Type} : DataW H := .slice [.agg [.lit (.int .i64 65), .lit (.int .i64 90), .lit (.int .i64 1), .lit (.int .i64 32)], .agg [.lit (.int .i64 192), .lit (.int .i64 214), .lit (.int .i64 1), .lit (.int .i64 32)], .agg [.lit (.int .i64 216), .lit (.int .i64 222), .lit (.int .i64 1), .lit (.int .i64 32)], .agg [.lit (.int .i64 256), .lit (.int .i64 302), .lit (.int .i64 2), .lit (.int .i64 1)], .agg [.lit (.int .i64 306), .lit (.int .i64 310), .lit (.int .i64 2), .lit (.int .i64 1)], .agg [.lit (.int .i64 313), .lit (.int .i64 327), .lit (.int .i64 2), .lit (.int .i64 1)], .agg [.lit (.int .i64 330), .lit (.int .i64 374), .lit (.int .i64 2), .lit (.int .i64 1)], .agg [.lit (.int .i64 377), .lit (.int .i64 381), .lit (.int .i64 2), .lit (.int .i64 1)], .agg [.lit (.int .i64 913), .lit (.int .i64 929), .lit (.int .i64 1), .lit (.int .i64 32)], .agg [.lit (.int .i64 931), .lit (.int .i64 939), .lit (.int .i64 1), .lit (.int .i64 32)], .agg [.lit (.int .i64 1024), .lit (.int .i64 1039), .lit (.int .i64 1), .lit (.int .i64 80)], .agg [.lit (.int .i64 1040), .lit (.int .i64 1071), .lit (.int .i64 1), .lit (.int .i64 32)], .agg [.lit (.int .i64 1120), .lit (.int .i64 1152), .lit (.int .i64 2), .lit (.int .i64 1)], .agg [.lit (.int .i64 1329), .lit (.int .i64 1366), .lit (.int .i64 1), .lit (.int .i64 48)], .agg [.lit (.int .i64 7680), .lit (.int .i64 7828), .lit (.int .i64 2), .lit (.int .i64 1)], .agg [.lit (.int .i64 9398), .lit (.int .i64 9423), .lit (.int .i64 1), .lit (.int .i64 26)], .agg [.lit (.int .i64 65313), .lit (.int .i64 65338), .lit (.int .i64 1), .lit (.int .i64 32)], .agg [.lit (.int .i64 66560), .lit (.int .i64 66599), .lit (.int .i64 1), .lit (.int .i64 40)], .agg [.lit (.int .i64 181), .lit (.int .i64 181), .lit (.int .i64 1), .lit (.int .i64 775)], .agg [.lit (.int .i64 376), .lit (.int .i64 376), .lit (.int .i64 1), .lit (.int .i64 (-121))], .agg [.lit (.int .i64 383), .lit (.int .i64 383), .lit (.int .i64 1), .lit (.int .i64 (-268))], .agg [.lit (.int .i64 962), .lit (.int .i64 962), .lit (.int .i64 1), .lit (.int .i64 1)], .agg [.lit (.int .i64 8490), .lit (.int .i64 8490), .lit (.int .i64 1), .lit (.int .i64 (-8383))], .agg [.lit (.int .i64 8491), .lit (.int .i64 8491), .lit (.int .i64 1), .lit (.int .i64 (-8262))]] []
/-- One of Go's own tables, pinned by name: the form's constant. -/
def laid_unicode_utf8_first : DataW Unit := Go.Pinned.utf8First

/-- 'clewlaw13.TextSymbols': WHATEVER THE INPUT: true; the input reads as it did. -/
def textSymbolsSpec : ChangeSpec := { name := "textSymbols", fn := fun _ => fun
  | [d1, d2, d3] => { results := [.lit (.bool true)], args := [d1, d2, d3] }
  | _ => none }
def textSymbolsRow : OpenClaim := { program := "ytdeaaidbmneplaadoor", sum := "d4e84e7f2777c0f8e3fd0b1a415be961ca8e19b3a9d07419ee597f79e903f06f", func := "clew/clewlaw13.TextSymbols", spec := "textSymbols", unfollowed := true, recurses := true, named := ["unicode/utf8.first", "unicode/utf8.acceptRanges", "clew/fold.rows", "clew/class.sets"], apart := false, laid := [("unicode/utf8.acceptRanges", laid_unicode_utf8_acceptRanges), ("clew/class.sets", laid_clew_class_sets), ("clew/fold.rows", laid_clew_fold_rows), ("unicode/utf8.first", laid_unicode_utf8_first)] }
def TextSymbolsSaid : Prop := textSymbolsRow.holds Tryd.pinned (OpenSpec.ofChange textSymbolsSpec)

/-- ITS FALSE NEIGHBOUR: 'it returns false'. Refute it at one input. -/
def textSymbolsWrong : ChangeSpec := { name := "textSymbols", fn := fun _ => fun
  | [d1, d2, d3] => { results := [.lit (.bool false)], args := [d1, d2, d3] }
  | _ => none }
def TextSymbolsWrongFalsely : Prop := textSymbolsRow.holds Tryd.pinned (OpenSpec.ofChange textSymbolsWrong)

/-- 'clewlaw13.TextLong': WHATEVER THE INPUT: true; the input reads as it did. -/
def textLongSpec : ChangeSpec := { name := "textLong", fn := fun _ => fun
  | [d1, d2] => { results := [.lit (.bool true)], args := [d1, d2] }
  | _ => none }
def textLongRow : OpenClaim := { program := "ytdeaaidbmneplaadoor", sum := "d4e84e7f2777c0f8e3fd0b1a415be961ca8e19b3a9d07419ee597f79e903f06f", func := "clew/clewlaw13.TextLong", spec := "textLong", unfollowed := true, recurses := true, named := ["unicode/utf8.first", "unicode/utf8.acceptRanges", "clew/fold.rows", "clew/class.sets"], apart := false, laid := [("unicode/utf8.acceptRanges", laid_unicode_utf8_acceptRanges), ("clew/class.sets", laid_clew_class_sets), ("clew/fold.rows", laid_clew_fold_rows), ("unicode/utf8.first", laid_unicode_utf8_first)] }
def TextLongSaid : Prop := textLongRow.holds Tryd.pinned (OpenSpec.ofChange textLongSpec)

/-- ITS FALSE NEIGHBOUR: 'it returns false'. Refute it at one input. -/
def textLongWrong : ChangeSpec := { name := "textLong", fn := fun _ => fun
  | [d1, d2] => { results := [.lit (.bool false)], args := [d1, d2] }
  | _ => none }
def TextLongWrongFalsely : Prop := textLongRow.holds Tryd.pinned (OpenSpec.ofChange textLongWrong)

/-- 'clewlaw13.TextHolds': WHATEVER THE INPUT: true; the input reads as it did. -/
def textHoldsSpec : ChangeSpec := { name := "textHolds", fn := fun _ => fun
  | [d1, d2, d3] => { results := [.lit (.bool true)], args := [d1, d2, d3] }
  | _ => none }
def textHoldsRow : OpenClaim := { program := "ytdeaaidbmneplaadoor", sum := "d4e84e7f2777c0f8e3fd0b1a415be961ca8e19b3a9d07419ee597f79e903f06f", func := "clew/clewlaw13.TextHolds", spec := "textHolds", unfollowed := true, recurses := true, named := ["unicode/utf8.first", "unicode/utf8.acceptRanges", "clew/fold.rows", "clew/class.sets"], apart := false, laid := [("unicode/utf8.acceptRanges", laid_unicode_utf8_acceptRanges), ("clew/class.sets", laid_clew_class_sets), ("clew/fold.rows", laid_clew_fold_rows), ("unicode/utf8.first", laid_unicode_utf8_first)] }
def TextHoldsSaid : Prop := textHoldsRow.holds Tryd.pinned (OpenSpec.ofChange textHoldsSpec)

/-- ITS FALSE NEIGHBOUR: 'it returns false'. Refute it at one input. -/
def textHoldsWrong : ChangeSpec := { name := "textHolds", fn := fun _ => fun
  | [d1, d2, d3] => { results := [.lit (.bool false)], args := [d1, d2, d3] }
  | _ => none }
def TextHoldsWrongFalsely : Prop := textHoldsRow.holds Tryd.pinned (OpenSpec.ofChange textHoldsWrong)

/-- 'clewlaw13.TextIn': WHATEVER THE INPUT: true; the input reads as it did. -/
def textInSpec : ChangeSpec := { name := "textIn", fn := fun _ => fun
  | [d1, d2, d3] => { results := [.lit (.bool true)], args := [d1, d2, d3] }
  | _ => none }
def textInRow : OpenClaim := { program := "ytdeaaidbmneplaadoor", sum := "d4e84e7f2777c0f8e3fd0b1a415be961ca8e19b3a9d07419ee597f79e903f06f", func := "clew/clewlaw13.TextIn", spec := "textIn", unfollowed := true, recurses := true, named := ["unicode/utf8.first", "unicode/utf8.acceptRanges", "clew/fold.rows", "clew/class.sets"], apart := false, laid := [("unicode/utf8.acceptRanges", laid_unicode_utf8_acceptRanges), ("clew/class.sets", laid_clew_class_sets), ("clew/fold.rows", laid_clew_fold_rows), ("unicode/utf8.first", laid_unicode_utf8_first)] }
def TextInSaid : Prop := textInRow.holds Tryd.pinned (OpenSpec.ofChange textInSpec)

/-- ITS FALSE NEIGHBOUR: 'it returns false'. Refute it at one input. -/
def textInWrong : ChangeSpec := { name := "textIn", fn := fun _ => fun
  | [d1, d2, d3] => { results := [.lit (.bool false)], args := [d1, d2, d3] }
  | _ => none }
def TextInWrongFalsely : Prop := textInRow.holds Tryd.pinned (OpenSpec.ofChange textInWrong)

/-- 'clewlaw13.TextAgain': WHATEVER THE INPUT: true; the input reads as it did. -/
def textAgainSpec : ChangeSpec := { name := "textAgain", fn := fun _ => fun
  | [d1, d2] => { results := [.lit (.bool true)], args := [d1, d2] }
  | _ => none }
def textAgainRow : OpenClaim := { program := "ytdeaaidbmneplaadoor", sum := "d4e84e7f2777c0f8e3fd0b1a415be961ca8e19b3a9d07419ee597f79e903f06f", func := "clew/clewlaw13.TextAgain", spec := "textAgain", unfollowed := true, recurses := true, named := ["unicode/utf8.first", "unicode/utf8.acceptRanges", "clew/fold.rows", "clew/class.sets"], apart := false, laid := [("unicode/utf8.acceptRanges", laid_unicode_utf8_acceptRanges), ("clew/class.sets", laid_clew_class_sets), ("clew/fold.rows", laid_clew_fold_rows), ("unicode/utf8.first", laid_unicode_utf8_first)] }
def TextAgainSaid : Prop := textAgainRow.holds Tryd.pinned (OpenSpec.ofChange textAgainSpec)

/-- ITS FALSE NEIGHBOUR: 'it returns false'. Refute it at one input. -/
def textAgainWrong : ChangeSpec := { name := "textAgain", fn := fun _ => fun
  | [d1, d2] => { results := [.lit (.bool false)], args := [d1, d2] }
  | _ => none }
def TextAgainWrongFalsely : Prop := textAgainRow.holds Tryd.pinned (OpenSpec.ofChange textAgainWrong)

/- THE SECOND FORM. 'bulk': how many values and letters a reading holds, each counted each time it is reached (what is shared counts as often as it is met; a slice's spare places count too). A statement '..UptoSaid' is the law's where the arguments, and the package variables that the reading takes, are together of bulk at most 1048576: NARROWER than '..Said'. Prove '..Said' where nothing that the law and all that it calls make is longer than what came in: it says more and counts as full. Else prove '..UptoSaid'. A law counts once. -/
mutual
def uptoBulk {H : Type} : DataW H → Nat
  | .lit (.string bytes) => bytes.length + 1
  | .lit _ => 1
  | .nil => 1
  | .ptr d => uptoBulk d + 1
  | .slice elems spare => uptoBulkAll elems + uptoBulkAll spare + 1
  | .agg parts => uptoBulkAll parts + 1
  | .iface _ d => uptoBulk d + 1
  | .map entries => uptoBulkEntries entries + 1
  | .held _ => 1
def uptoBulkAll {H : Type} : List (DataW H) → Nat
  | [] => 0
  | d :: r => uptoBulk d + uptoBulkAll r
def uptoBulkEntries {H : Type} : List (Lit × DataW H) → Nat
  | [] => 0
  | x :: r => uptoBulkEntry x + uptoBulkEntries r
def uptoBulkEntry {H : Type} : Lit × DataW H → Nat
  | (.string bytes, d) => bytes.length + uptoBulk d + 1
  | (_, d) => uptoBulk d + 1
 end
def uptoSmall : (H : Type) → List (DataW H) → Bool := fun _ ds => decide (uptoBulkAll ds ≤ 1048576)
def OpenSpec.upto (s : _root_.Go.ChangeSpec) : _root_.Go.OpenSpec := { _root_.Go.OpenSpec.ofChange s with cond := some uptoSmall }

/-- 'clewlaw13.TextSymbols', WHERE WHAT IT READS IS OF BULK AT MOST 1048576: true; the input reads as it did. -/
def textSymbolsUptoRow : OpenClaim := { program := "ytdeaaidbmneplaadoor", sum := "d4e84e7f2777c0f8e3fd0b1a415be961ca8e19b3a9d07419ee597f79e903f06f", func := "clew/clewlaw13.TextSymbols", spec := "textSymbols", unfollowed := true, recurses := true, named := ["unicode/utf8.first", "unicode/utf8.acceptRanges", "clew/fold.rows", "clew/class.sets"], apart := false, laid := [("unicode/utf8.acceptRanges", laid_unicode_utf8_acceptRanges), ("clew/class.sets", laid_clew_class_sets), ("clew/fold.rows", laid_clew_fold_rows), ("unicode/utf8.first", laid_unicode_utf8_first)], narrowed := true }
def TextSymbolsUptoSaid : Prop := textSymbolsUptoRow.holds Tryd.pinned (OpenSpec.upto textSymbolsSpec)

/-- 'clewlaw13.TextLong', WHERE WHAT IT READS IS OF BULK AT MOST 1048576: true; the input reads as it did. -/
def textLongUptoRow : OpenClaim := { program := "ytdeaaidbmneplaadoor", sum := "d4e84e7f2777c0f8e3fd0b1a415be961ca8e19b3a9d07419ee597f79e903f06f", func := "clew/clewlaw13.TextLong", spec := "textLong", unfollowed := true, recurses := true, named := ["unicode/utf8.first", "unicode/utf8.acceptRanges", "clew/fold.rows", "clew/class.sets"], apart := false, laid := [("unicode/utf8.acceptRanges", laid_unicode_utf8_acceptRanges), ("clew/class.sets", laid_clew_class_sets), ("clew/fold.rows", laid_clew_fold_rows), ("unicode/utf8.first", laid_unicode_utf8_first)], narrowed := true }
def TextLongUptoSaid : Prop := textLongUptoRow.holds Tryd.pinned (OpenSpec.upto textLongSpec)

/-- 'clewlaw13.TextHolds', WHERE WHAT IT READS IS OF BULK AT MOST 1048576: true; the input reads as it did. -/
def textHoldsUptoRow : OpenClaim := { program := "ytdeaaidbmneplaadoor", sum := "d4e84e7f2777c0f8e3fd0b1a415be961ca8e19b3a9d07419ee597f79e903f06f", func := "clew/clewlaw13.TextHolds", spec := "textHolds", unfollowed := true, recurses := true, named := ["unicode/utf8.first", "unicode/utf8.acceptRanges", "clew/fold.rows", "clew/class.sets"], apart := false, laid := [("unicode/utf8.acceptRanges", laid_unicode_utf8_acceptRanges), ("clew/class.sets", laid_clew_class_sets), ("clew/fold.rows", laid_clew_fold_rows), ("unicode/utf8.first", laid_unicode_utf8_first)], narrowed := true }
def TextHoldsUptoSaid : Prop := textHoldsUptoRow.holds Tryd.pinned (OpenSpec.upto textHoldsSpec)

/-- 'clewlaw13.TextIn', WHERE WHAT IT READS IS OF BULK AT MOST 1048576: true; the input reads as it did. -/
def textInUptoRow : OpenClaim := { program := "ytdeaaidbmneplaadoor", sum := "d4e84e7f2777c0f8e3fd0b1a415be961ca8e19b3a9d07419ee597f79e903f06f", func := "clew/clewlaw13.TextIn", spec := "textIn", unfollowed := true, recurses := true, named := ["unicode/utf8.first", "unicode/utf8.acceptRanges", "clew/fold.rows", "clew/class.sets"], apart := false, laid := [("unicode/utf8.acceptRanges", laid_unicode_utf8_acceptRanges), ("clew/class.sets", laid_clew_class_sets), ("clew/fold.rows", laid_clew_fold_rows), ("unicode/utf8.first", laid_unicode_utf8_first)], narrowed := true }
def TextInUptoSaid : Prop := textInUptoRow.holds Tryd.pinned (OpenSpec.upto textInSpec)

/-- 'clewlaw13.TextAgain', WHERE WHAT IT READS IS OF BULK AT MOST 1048576: true; the input reads as it did. -/
def textAgainUptoRow : OpenClaim := { program := "ytdeaaidbmneplaadoor", sum := "d4e84e7f2777c0f8e3fd0b1a415be961ca8e19b3a9d07419ee597f79e903f06f", func := "clew/clewlaw13.TextAgain", spec := "textAgain", unfollowed := true, recurses := true, named := ["unicode/utf8.first", "unicode/utf8.acceptRanges", "clew/fold.rows", "clew/class.sets"], apart := false, laid := [("unicode/utf8.acceptRanges", laid_unicode_utf8_acceptRanges), ("clew/class.sets", laid_clew_class_sets), ("clew/fold.rows", laid_clew_fold_rows), ("unicode/utf8.first", laid_unicode_utf8_first)], narrowed := true }
def TextAgainUptoSaid : Prop := textAgainUptoRow.holds Tryd.pinned (OpenSpec.upto textAgainSpec)

end Rows
end Go.Proofs.YtdeaaidbmneplaaDoor
