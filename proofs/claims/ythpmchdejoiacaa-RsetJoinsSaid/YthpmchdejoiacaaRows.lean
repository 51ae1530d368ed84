/-
  No cell of these rows narrows 'for every input' (looked for: loops, veiled, ifaces, maps, wideKeys, modest, calm, conditions, laid).
  DERIVED. THE GIVEN ROWS OF THIS SEAT. 5 by the template 'for every input the law returns true; each argument reads behind the call as it read before'; 0 by the template 'total and deterministic' (their statements: YthpmchdejoiacaaTotals.lean).
  GIVEN WITH THE SEED: the statements are not yours to turn. If you find one false, say at which input.
  Laid BY PROGRAM, IN A SANDBOX (cutbox-rows.mjs): the forced cells as the released guide's own fill.sh prints them over the translation e88d2935272e3426… (all of the seat's roots in one cut). By AI agents, Wed Nov 11 2026. No macro, syntax, notation, axiom, sorry.
-/
import Derived.Test.YthpmchdejoiacaaChecked
import GoSem.Claim
import GoSem.ClaimJoined
import GoSem.ClaimMapViews
import Derived.JoinedTies
import Derived.KernelRfl
namespace Go.Proofs.Ythpmchdejoiacaa
/- THE CELL 'sum', in the pinned program and in every row, IS THE sha256 OF THE DUMP (.gsa) THAT YthpmchdejoiacaaProg.lean LOADS. Nothing in Lean hashes anything: it is a label: what it is worth is what the hold of that sum in a sandbox is worth. -/
noncomputable def Try.pinned : Pinned := { name := "ythpmchdejoiacaa", sum := "e88d2935272e342642a630250e30d7f32d52a243fb800e17e7d7170fb0b2952f", checked := Try.checked }
namespace Rows
def none {H : Type} : Left H := { results := [], args := [] }

/-- 'clewlaw02.RsetMakes': WHATEVER THE INPUT: true; the input reads as it did. -/
def rsetMakesSpec : ChangeSpec := { name := "rsetMakes", fn := fun _ => fun
  | [d] => { results := [.lit (.bool true)], args := [d] }
  | _ => none }
def rsetMakesRow : OpenClaim := { program := "ythpmchdejoiacaa", sum := "e88d2935272e342642a630250e30d7f32d52a243fb800e17e7d7170fb0b2952f", func := "clew/clewlaw02.RsetMakes", spec := "rsetMakes", unfollowed := true, recurses := true, apart := false }
def RsetMakesSaid : Prop := rsetMakesRow.holds Try.pinned (OpenSpec.ofChange rsetMakesSpec)

/-- ITS FALSE NEIGHBOUR: 'it returns false'. Refute it at one input. -/
def rsetMakesWrong : ChangeSpec := { name := "rsetMakes", fn := fun _ => fun
  | [d] => { results := [.lit (.bool false)], args := [d] }
  | _ => none }
def RsetMakesWrongFalsely : Prop := rsetMakesRow.holds Try.pinned (OpenSpec.ofChange rsetMakesWrong)

/-- 'clewlaw02.RsetHas': WHATEVER THE INPUT: true; the input reads as it did. -/
def rsetHasSpec : ChangeSpec := { name := "rsetHas", fn := fun _ => fun
  | [d1, d2] => { results := [.lit (.bool true)], args := [d1, d2] }
  | _ => none }
def rsetHasRow : OpenClaim := { program := "ythpmchdejoiacaa", sum := "e88d2935272e342642a630250e30d7f32d52a243fb800e17e7d7170fb0b2952f", func := "clew/clewlaw02.RsetHas", spec := "rsetHas", unfollowed := true, recurses := true, apart := false }
def RsetHasSaid : Prop := rsetHasRow.holds Try.pinned (OpenSpec.ofChange rsetHasSpec)

/-- ITS FALSE NEIGHBOUR: 'it returns false'. Refute it at one input. -/
def rsetHasWrong : ChangeSpec := { name := "rsetHas", fn := fun _ => fun
  | [d1, d2] => { results := [.lit (.bool false)], args := [d1, d2] }
  | _ => none }
def RsetHasWrongFalsely : Prop := rsetHasRow.holds Try.pinned (OpenSpec.ofChange rsetHasWrong)

/-- 'clewlaw02.RsetJoins': WHATEVER THE INPUT: true; the input reads as it did. -/
def rsetJoinsSpec : ChangeSpec := { name := "rsetJoins", fn := fun _ => fun
  | [d1, d2] => { results := [.lit (.bool true)], args := [d1, d2] }
  | _ => none }
def rsetJoinsRow : OpenClaim := { program := "ythpmchdejoiacaa", sum := "e88d2935272e342642a630250e30d7f32d52a243fb800e17e7d7170fb0b2952f", func := "clew/clewlaw02.RsetJoins", spec := "rsetJoins", unfollowed := true, recurses := true, apart := false }
def RsetJoinsSaid : Prop := rsetJoinsRow.holds Try.pinned (OpenSpec.ofChange rsetJoinsSpec)

/-- ITS FALSE NEIGHBOUR: 'it returns false'. Refute it at one input. -/
def rsetJoinsWrong : ChangeSpec := { name := "rsetJoins", fn := fun _ => fun
  | [d1, d2] => { results := [.lit (.bool false)], args := [d1, d2] }
  | _ => none }
def RsetJoinsWrongFalsely : Prop := rsetJoinsRow.holds Try.pinned (OpenSpec.ofChange rsetJoinsWrong)

/-- 'clewlaw02.RsetCounts': WHATEVER THE INPUT: true; the input reads as it did. -/
def rsetCountsSpec : ChangeSpec := { name := "rsetCounts", fn := fun _ => fun
  | [d1, d2] => { results := [.lit (.bool true)], args := [d1, d2] }
  | _ => none }
def rsetCountsRow : OpenClaim := { program := "ythpmchdejoiacaa", sum := "e88d2935272e342642a630250e30d7f32d52a243fb800e17e7d7170fb0b2952f", func := "clew/clewlaw02.RsetCounts", spec := "rsetCounts", unfollowed := true, recurses := true, apart := false }
def RsetCountsSaid : Prop := rsetCountsRow.holds Try.pinned (OpenSpec.ofChange rsetCountsSpec)

/-- ITS FALSE NEIGHBOUR: 'it returns false'. Refute it at one input. -/
def rsetCountsWrong : ChangeSpec := { name := "rsetCounts", fn := fun _ => fun
  | [d1, d2] => { results := [.lit (.bool false)], args := [d1, d2] }
  | _ => none }
def RsetCountsWrongFalsely : Prop := rsetCountsRow.holds Try.pinned (OpenSpec.ofChange rsetCountsWrong)

/-- 'clewlaw02.RsetOf': WHATEVER THE INPUT: true; the input reads as it did. -/
def rsetOfSpec : ChangeSpec := { name := "rsetOf", fn := fun _ => fun
  | [d1, d2] => { results := [.lit (.bool true)], args := [d1, d2] }
  | _ => none }
def rsetOfRow : OpenClaim := { program := "ythpmchdejoiacaa", sum := "e88d2935272e342642a630250e30d7f32d52a243fb800e17e7d7170fb0b2952f", func := "clew/clewlaw02.RsetOf", spec := "rsetOf", unfollowed := true, recurses := true, apart := false }
def RsetOfSaid : Prop := rsetOfRow.holds Try.pinned (OpenSpec.ofChange rsetOfSpec)

/-- ITS FALSE NEIGHBOUR: 'it returns false'. Refute it at one input. -/
def rsetOfWrong : ChangeSpec := { name := "rsetOf", fn := fun _ => fun
  | [d1, d2] => { results := [.lit (.bool false)], args := [d1, d2] }
  | _ => none }
def RsetOfWrongFalsely : Prop := rsetOfRow.holds Try.pinned (OpenSpec.ofChange rsetOfWrong)

/- THE SECOND FORM. 'bulk': how many values and letters a reading holds, each counted each time it is reached (what is shared counts as often as it is met; a slice's spare places count too). A statement '..UptoSaid' is the law's where the arguments, and the package variables that the reading takes, are together of bulk at most 1048576: NARROWER than '..Said'. Prove '..Said' where nothing that the law and all that it calls make is longer than what came in: it says more and counts as full. Else prove '..UptoSaid'. A law counts once. -/
mutual
def uptoBulk {H : Type} : DataW H → Nat
  | .lit (.string bytes) => bytes.length + 1
  | .lit _ => 1
  | .nil => 1
  | .ptr d => uptoBulk d + 1
  | .slice elems spare => uptoBulkAll elems + uptoBulkAll spare + 1
  | .agg parts => uptoBulkAll parts + 1
  | .iface _ d => uptoBulk d + 1
  | .map entries => uptoBulkEntries entries + 1
  | .held _ => 1
def uptoBulkAll {H : Type} : List (DataW H) → Nat
  | [] => 0
  | d :: r => uptoBulk d + uptoBulkAll r
def uptoBulkEntries {H : Type} : List (Lit × DataW H) → Nat
  | [] => 0
  | x :: r => uptoBulkEntry x + uptoBulkEntries r
def uptoBulkEntry {H : Type} : Lit × DataW H → Nat
  | (.string bytes, d) => bytes.length + uptoBulk d + 1
  | (_, d) => uptoBulk d + 1
 end
def uptoSmall : (H : Type) → List (DataW H) → Bool := fun _ ds => decide (uptoBulkAll ds ≤ 1048576)
def OpenSpec.upto (s : _root_.Go.ChangeSpec) : _root_.Go.OpenSpec := { _root_.Go.OpenSpec.ofChange s with cond := some uptoSmall }

/-- 'clewlaw02.RsetMakes', WHERE WHAT IT READS IS OF BULK AT MOST 1048576: true; the input reads as it did. -/
def rsetMakesUptoRow : OpenClaim := { program := "ythpmchdejoiacaa", sum := "e88d2935272e342642a630250e30d7f32d52a243fb800e17e7d7170fb0b2952f", func := "clew/clewlaw02.RsetMakes", spec := "rsetMakes", unfollowed := true, recurses := true, apart := false, narrowed := true }
def RsetMakesUptoSaid : Prop := rsetMakesUptoRow.holds Try.pinned (OpenSpec.upto rsetMakesSpec)

/-- 'clewlaw02.RsetHas', WHERE WHAT IT READS IS OF BULK AT MOST 1048576: true; the input reads as it did. -/
def rsetHasUptoRow : OpenClaim := { program := "ythpmchdejoiacaa", sum := "e88d2935272e342642a630250e30d7f32d52a243fb800e17e7d7170fb0b2952f", func := "clew/clewlaw02.RsetHas", spec := "rsetHas", unfollowed := true, recurses := true, apart := false, narrowed := true }
def RsetHasUptoSaid : Prop := rsetHasUptoRow.holds Try.pinned (OpenSpec.upto rsetHasSpec)

/-- 'clewlaw02.RsetJoins', WHERE WHAT IT READS IS OF BULK AT MOST 1048576: true; the input reads as it did. -/
def rsetJoinsUptoRow : OpenClaim := { program := "ythpmchdejoiacaa", sum := "e88d2935272e342642a630250e30d7f32d52a243fb800e17e7d7170fb0b2952f", func := "clew/clewlaw02.RsetJoins", spec := "rsetJoins", unfollowed := true, recurses := true, apart := false, narrowed := true }
def RsetJoinsUptoSaid : Prop := rsetJoinsUptoRow.holds Try.pinned (OpenSpec.upto rsetJoinsSpec)

/-- 'clewlaw02.RsetCounts', WHERE WHAT IT READS IS OF BULK AT MOST 1048576: true; the input reads as it did. -/
def rsetCountsUptoRow : OpenClaim := { program := "ythpmchdejoiacaa", sum := "e88d2935272e342642a630250e30d7f32d52a243fb800e17e7d7170fb0b2952f", func := "clew/clewlaw02.RsetCounts", spec := "rsetCounts", unfollowed := true, recurses := true, apart := false, narrowed := true }
def RsetCountsUptoSaid : Prop := rsetCountsUptoRow.holds Try.pinned (OpenSpec.upto rsetCountsSpec)

/-- 'clewlaw02.RsetOf', WHERE WHAT IT READS IS OF BULK AT MOST 1048576: true; the input reads as it did. -/
def rsetOfUptoRow : OpenClaim := { program := "ythpmchdejoiacaa", sum := "e88d2935272e342642a630250e30d7f32d52a243fb800e17e7d7170fb0b2952f", func := "clew/clewlaw02.RsetOf", spec := "rsetOf", unfollowed := true, recurses := true, apart := false, narrowed := true }
def RsetOfUptoSaid : Prop := rsetOfUptoRow.holds Try.pinned (OpenSpec.upto rsetOfSpec)

end Rows
end Go.Proofs.Ythpmchdejoiacaa
