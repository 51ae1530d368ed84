/-
  NARROWER THAN 'FOR EVERY INPUT', by the rows' own cells (each row's printed sentence says how): FoldOrbits: laid · FoldShares: laid · FoldSame: laid · FoldCloses: laid.
  DERIVED. THE GIVEN ROWS OF THIS SEAT. 4 by the template 'for every input the law returns true; each argument reads behind the call as it read before'; 0 by the template 'total and deterministic' (their statements: YtefjhdllcjjlpaaDoorTotals.lean).
  GIVEN WITH THE SEED: the statements are not yours to turn. If you find one false, say at which input.
  Laid BY PROGRAM, IN A SANDBOX (cutbox-rows.mjs): the forced cells as the released guide's own fill.sh prints them over the translation 1d41acc8a50ce80f… (all of the seat's roots in one cut). By AI agents, Wed Nov 11 2026. No macro, syntax, notation, axiom, sorry.
-/
import Derived.Test.YtefjhdllcjjlpaaDoorChecked
import GoSem.Claim
import GoSem.ClaimJoined
import GoSem.ClaimMapViews
import Derived.JoinedTies
import Derived.KernelRfl
namespace Go.Proofs.YtefjhdllcjjlpaaDoor
/- THE CELL 'sum', in the pinned program and in every row, IS THE sha256 OF THE DUMP (.gsa) THAT YtefjhdllcjjlpaaDoorProg.lean LOADS. Nothing in Lean hashes anything: it is a label: what it is worth is what the hold of that sum in a sandbox is worth. -/
noncomputable def Tryd.pinned : Pinned := { name := "ytefjhdllcjjlpaadoor", sum := "1d41acc8a50ce80f642c1a0a85f49e342b0f76751557abe53ad6ee0ec348bba1", checked := Tryd.checked }
namespace Rows
def none {H : Type} : Left H := { results := [], args := [] }

/- WHAT THE LISTED PACKAGE-LEVEL VARIABLES READ AS WHEN THE CALL BEGINS. Each datum BY PROGRAM (the guide's laid-datum.mjs) off the statement by which the dump's own 'gosem.cut.vars' lays the variable. In a bare row this is a premise. The card (YtefjhdllcjjlpaaDoorCards.lean) ties it to the program's text. -/
def laid_clew_fold_rows {H : Type} : DataW H := .slice [.agg [.lit (.int .i64 65), .lit (.int .i64 90), .lit (.int .i64 1), .lit (.int .i64 32)], .agg [.lit (.int .i64 192), .lit (.int .i64 214), .lit (.int .i64 1), .lit (.int .i64 32)], .agg [.lit (.int .i64 216), .lit (.int .i64 222), .lit (.int .i64 1), .lit (.int .i64 32)], .agg [.lit (.int .i64 256), .lit (.int .i64 302), .lit (.int .i64 2), .lit (.int .i64 1)], .agg [.lit (.int .i64 306), .lit (.int .i64 310), .lit (.int .i64 2), .lit (.int .i64 1)], .agg [.lit (.int .i64 313), .lit (.int .i64 327), .lit (.int .i64 2), .lit (.int .i64 1)], .agg [.lit (.int .i64 330), .lit (.int .i64 374), .lit (.int .i64 2), .lit (.int .i64 1)], .agg [.lit (.int .i64 377), .lit (.int .i64 381), .lit (.int .i64 2), .lit (.int .i64 1)], .agg [.lit (.int .i64 913), .lit (.int .i64 929), .lit (.int .i64 1), .lit (.int .i64 32)], .agg [.lit (.int .i64 931), .lit (.int .i64 939), .lit (.int .i64 1), .lit (.int .i64 32)], .agg [.lit (.int .i64 1024), .lit (.int .i64 1039), .lit (.int .i64 1), .lit (.int .i64 80)], .agg [.lit (.int .i64 1040), .lit (.int .i64 1071), .lit (.int .i64 1), .lit (.int .i64 32)], .agg [.lit (.int .i64 1120), .lit (.int .i64 1152), .lit (.int .i64 2), .lit (.int .i64 1)], .agg [.lit (.int .i64 1329), .lit (.int .i64 1366), .lit (.int .i64 1), .lit (.int .i64 48)], .agg [.lit (.int .i64 7680), .lit (.int .i64 7828), .lit (.int .i64 2), .lit (.int .i64 1)], .agg [.lit (.int .i64 9398), .lit (.int .i64 9423), .lit (.int .i64 1), .lit (.int .i64 26)], .agg [.lit (.int .i64 65313), .lit (.int .i64 65338), .lit (.int .i64 1), .lit (.int .i64 32)], .agg [.lit (.int .i64 66560), .lit (.int .i64 66599), .lit (.int .i64 1), .lit (.int .i64 40)], .agg [.lit (.int .i64 181), .lit (.int .i64 181), .lit (.int .i64 1), .lit (.int .i64 775)], .agg [.lit (.int .i64 376), .lit (.int .i64 376), .lit (.int .i64 1), .lit (.int .i64 (-121))], .agg [.lit (.int .i64 383), .lit (.int .i64 383), .lit (.int .i64 1), .lit (.int .i64 (-268))], .agg [.lit (.int .i64 962), .lit (.int .i64 962), .lit (.int .i64 1), .lit (.int .i64 1)], .agg [.lit (.int .i64 8490), .lit (.int .i64 8490), .lit (.int .i64 1), .lit (.int .i64 (-8383))], .agg [.lit (.int .i64 8491), .lit (.int .i64 8491), .lit (.int .i64 1), .lit (.int .i64 (-8262))]] []

/-- 'clewlaw03.FoldOrbits': WHATEVER THE INPUT: true; the input reads as it did. -/
def foldOrbitsSpec : ChangeSpec := { name := "foldOrbits", fn := fun _ => fun
  | [d] => { results := [.lit (.bool true)], args := [d] }
  | _ => none }
def foldOrbitsRow : OpenClaim := { program := "ytefjhdllcjjlpaadoor", sum := "1d41acc8a50ce80f642c1a0a85f49e342b0f76751557abe53ad6ee0ec348bba1", func := "clew/clewlaw03.FoldOrbits", spec := "foldOrbits", unfollowed := true, recurses := true, named := ["clew/fold.rows"], apart := false, laid := [("clew/fold.rows", laid_clew_fold_rows)] }
def FoldOrbitsSaid : Prop := foldOrbitsRow.holds Tryd.pinned (OpenSpec.ofChange foldOrbitsSpec)

/-- ITS FALSE NEIGHBOUR: 'it returns false'. Refute it at one input. -/
def foldOrbitsWrong : ChangeSpec := { name := "foldOrbits", fn := fun _ => fun
  | [d] => { results := [.lit (.bool false)], args := [d] }
  | _ => none }
def FoldOrbitsWrongFalsely : Prop := foldOrbitsRow.holds Tryd.pinned (OpenSpec.ofChange foldOrbitsWrong)

/-- 'clewlaw03.FoldShares': WHATEVER THE INPUT: true; the input reads as it did. -/
def foldSharesSpec : ChangeSpec := { name := "foldShares", fn := fun _ => fun
  | [d] => { results := [.lit (.bool true)], args := [d] }
  | _ => none }
def foldSharesRow : OpenClaim := { program := "ytefjhdllcjjlpaadoor", sum := "1d41acc8a50ce80f642c1a0a85f49e342b0f76751557abe53ad6ee0ec348bba1", func := "clew/clewlaw03.FoldShares", spec := "foldShares", unfollowed := true, recurses := true, named := ["clew/fold.rows"], apart := false, laid := [("clew/fold.rows", laid_clew_fold_rows)] }
def FoldSharesSaid : Prop := foldSharesRow.holds Tryd.pinned (OpenSpec.ofChange foldSharesSpec)

/-- ITS FALSE NEIGHBOUR: 'it returns false'. Refute it at one input. -/
def foldSharesWrong : ChangeSpec := { name := "foldShares", fn := fun _ => fun
  | [d] => { results := [.lit (.bool false)], args := [d] }
  | _ => none }
def FoldSharesWrongFalsely : Prop := foldSharesRow.holds Tryd.pinned (OpenSpec.ofChange foldSharesWrong)

/-- 'clewlaw03.FoldSame': WHATEVER THE INPUT: true; the input reads as it did. -/
def foldSameSpec : ChangeSpec := { name := "foldSame", fn := fun _ => fun
  | [d1, d2, d3] => { results := [.lit (.bool true)], args := [d1, d2, d3] }
  | _ => none }
def foldSameRow : OpenClaim := { program := "ytefjhdllcjjlpaadoor", sum := "1d41acc8a50ce80f642c1a0a85f49e342b0f76751557abe53ad6ee0ec348bba1", func := "clew/clewlaw03.FoldSame", spec := "foldSame", unfollowed := true, recurses := true, named := ["clew/fold.rows"], apart := false, laid := [("clew/fold.rows", laid_clew_fold_rows)] }
def FoldSameSaid : Prop := foldSameRow.holds Tryd.pinned (OpenSpec.ofChange foldSameSpec)

/-- ITS FALSE NEIGHBOUR: 'it returns false'. Refute it at one input. -/
def foldSameWrong : ChangeSpec := { name := "foldSame", fn := fun _ => fun
  | [d1, d2, d3] => { results := [.lit (.bool false)], args := [d1, d2, d3] }
  | _ => none }
def FoldSameWrongFalsely : Prop := foldSameRow.holds Tryd.pinned (OpenSpec.ofChange foldSameWrong)

/-- 'clewlaw03.FoldCloses': WHATEVER THE INPUT: true; the input reads as it did. -/
def foldClosesSpec : ChangeSpec := { name := "foldCloses", fn := fun _ => fun
  | [d1, d2] => { results := [.lit (.bool true)], args := [d1, d2] }
  | _ => none }
def foldClosesRow : OpenClaim := { program := "ytefjhdllcjjlpaadoor", sum := "1d41acc8a50ce80f642c1a0a85f49e342b0f76751557abe53ad6ee0ec348bba1", func := "clew/clewlaw03.FoldCloses", spec := "foldCloses", unfollowed := true, recurses := true, named := ["clew/fold.rows"], apart := false, laid := [("clew/fold.rows", laid_clew_fold_rows)] }
def FoldClosesSaid : Prop := foldClosesRow.holds Tryd.pinned (OpenSpec.ofChange foldClosesSpec)

/-- ITS FALSE NEIGHBOUR: 'it returns false'. Refute it at one input. -/
def foldClosesWrong : ChangeSpec := { name := "foldCloses", fn := fun _ => fun
  | [d1, d2] => { results := [.lit (.bool false)], args := [d1, d2] }
  | _ => none }
def FoldClosesWrongFalsely : Prop := foldClosesRow.holds Tryd.pinned (OpenSpec.ofChange foldClosesWrong)

/- THE SECOND FORM. 'bulk': how many values and letters a reading holds, each counted each time it is reached (what is shared counts as often as it is met; a slice's spare places count too). A statement '..UptoSaid' is the law's where the arguments, and the package variables that the reading takes, are together of bulk at most 1048576: NARROWER than '..Said'. Prove '..Said' where nothing that the law and all that it calls make is longer than what came in: it says more and counts as full. Else prove '..UptoSaid'. A law counts once. -/
mutual
def uptoBulk {H : Type} : DataW H → Nat
  | .lit (.string bytes) => bytes.length + 1
  | .lit _ => 1
  | .nil => 1
  | .ptr d => uptoBulk d + 1
  | .slice elems spare => uptoBulkAll elems + uptoBulkAll spare + 1
  | .agg parts => uptoBulkAll parts + 1
  | .iface _ d => uptoBulk d + 1
  | .map entries => uptoBulkEntries entries + 1
  | .held _ => 1
def uptoBulkAll {H : Type} : List (DataW H) → Nat
  | [] => 0
  | d :: r => uptoBulk d + uptoBulkAll r
def uptoBulkEntries {H : Type} : List (Lit × DataW H) → Nat
  | [] => 0
  | x :: r => uptoBulkEntry x + uptoBulkEntries r
def uptoBulkEntry {H : Type} : Lit × DataW H → Nat
  | (.string bytes, d) => bytes.length + uptoBulk d + 1
  | (_, d) => uptoBulk d + 1
 end
def uptoSmall : (H : Type) → List (DataW H) → Bool := fun _ ds => decide (uptoBulkAll ds ≤ 1048576)
def OpenSpec.upto (s : _root_.Go.ChangeSpec) : _root_.Go.OpenSpec := { _root_.Go.OpenSpec.ofChange s with cond := some uptoSmall }

/-- 'clewlaw03.FoldOrbits', WHERE WHAT IT READS IS OF BULK AT MOST 1048576: true; the input reads as it did. -/
def foldOrbitsUptoRow : OpenClaim := { program := "ytefjhdllcjjlpaadoor", sum := "1d41acc8a50ce80f642c1a0a85f49e342b0f76751557abe53ad6ee0ec348bba1", func := "clew/clewlaw03.FoldOrbits", spec := "foldOrbits", unfollowed := true, recurses := true, named := ["clew/fold.rows"], apart := false, laid := [("clew/fold.rows", laid_clew_fold_rows)], narrowed := true }
def FoldOrbitsUptoSaid : Prop := foldOrbitsUptoRow.holds Tryd.pinned (OpenSpec.upto foldOrbitsSpec)

/-- 'clewlaw03.FoldShares', WHERE WHAT IT READS IS OF BULK AT MOST 1048576: true; the input reads as it did. -/
def foldSharesUptoRow : OpenClaim := { program := "ytefjhdllcjjlpaadoor", sum := "1d41acc8a50ce80f642c1a0a85f49e342b0f76751557abe53ad6ee0ec348bba1", func := "clew/clewlaw03.FoldShares", spec := "foldShares", unfollowed := true, recurses := true, named := ["clew/fold.rows"], apart := false, laid := [("clew/fold.rows", laid_clew_fold_rows)], narrowed := true }
def FoldSharesUptoSaid : Prop := foldSharesUptoRow.holds Tryd.pinned (OpenSpec.upto foldSharesSpec)

/-- 'clewlaw03.FoldSame', WHERE WHAT IT READS IS OF BULK AT MOST 1048576: true; the input reads as it did. -/
def foldSameUptoRow : OpenClaim := { program := "ytefjhdllcjjlpaadoor", sum := "1d41acc8a50ce80f642c1a0a85f49e342b0f76751557abe53ad6ee0ec348bba1", func := "clew/clewlaw03.FoldSame", spec := "foldSame", unfollowed := true, recurses := true, named := ["clew/fold.rows"], apart := false, laid := [("clew/fold.rows", laid_clew_fold_rows)], narrowed := true }
def FoldSameUptoSaid : Prop := foldSameUptoRow.holds Tryd.pinned (OpenSpec.upto foldSameSpec)

/-- 'clewlaw03.FoldCloses', WHERE WHAT IT READS IS OF BULK AT MOST 1048576: true; the input reads as it did. -/
def foldClosesUptoRow : OpenClaim := { program := "ytefjhdllcjjlpaadoor", sum := "1d41acc8a50ce80f642c1a0a85f49e342b0f76751557abe53ad6ee0ec348bba1", func := "clew/clewlaw03.FoldCloses", spec := "foldCloses", unfollowed := true, recurses := true, named := ["clew/fold.rows"], apart := false, laid := [("clew/fold.rows", laid_clew_fold_rows)], narrowed := true }
def FoldClosesUptoSaid : Prop := foldClosesUptoRow.holds Tryd.pinned (OpenSpec.upto foldClosesSpec)

end Rows
end Go.Proofs.YtefjhdllcjjlpaaDoor
