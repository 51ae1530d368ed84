/-
  No cell of these rows narrows 'for every input' (looked for: loops, veiled, ifaces, maps, wideKeys, modest, calm, conditions, laid).
  DERIVED. THE GIVEN ROWS OF THIS SEAT. 3 by the template 'for every input the law returns true; each argument reads behind the call as it read before'; 0 by the template 'total and deterministic' (their statements: YtklmligfljakfaaTotals.lean).
  GIVEN WITH THE SEED: the statements are not yours to turn. If you find one false, say at which input.
  Laid BY PROGRAM, IN A SANDBOX (cutbox-rows.mjs): the forced cells as the released guide's own fill.sh prints them over the translation 7d7893ce2a765f4f… (all of the seat's roots in one cut). By AI agents, Wed Nov 11 2026. No macro, syntax, notation, axiom, sorry.
-/
import Derived.Test.YtklmligfljakfaaChecked
import GoSem.Claim
import GoSem.ClaimJoined
import GoSem.ClaimMapViews
import Derived.JoinedTies
import Derived.KernelRfl
namespace Go.Proofs.Ytklmligfljakfaa
/- THE CELL 'sum', in the pinned program and in every row, IS THE sha256 OF THE DUMP (.gsa) THAT YtklmligfljakfaaProg.lean LOADS. Nothing in Lean hashes anything: it is a label: what it is worth is what the hold of that sum in a sandbox is worth. -/
noncomputable def Try.pinned : Pinned := { name := "ytklmligfljakfaa", sum := "7d7893ce2a765f4fb3e91abf6721db87e094ef03723e22ecb92954f09131f545", checked := Try.checked }
namespace Rows
def none {H : Type} : Left H := { results := [], args := [] }

/-- 'clewlaw16.PilePlays': WHATEVER THE INPUT: true; the input reads as it did. -/
def pilePlaysSpec : ChangeSpec := { name := "pilePlays", fn := fun _ => fun
  | [d1, d2] => { results := [.lit (.bool true)], args := [d1, d2] }
  | _ => none }
def pilePlaysRow : OpenClaim := { program := "ytklmligfljakfaa", sum := "7d7893ce2a765f4fb3e91abf6721db87e094ef03723e22ecb92954f09131f545", func := "clew/clewlaw16.PilePlays", spec := "pilePlays", apart := false }
def PilePlaysSaid : Prop := pilePlaysRow.holds Try.pinned (OpenSpec.ofChange pilePlaysSpec)

/-- ITS FALSE NEIGHBOUR: 'it returns false'. Refute it at one input. -/
def pilePlaysWrong : ChangeSpec := { name := "pilePlays", fn := fun _ => fun
  | [d1, d2] => { results := [.lit (.bool false)], args := [d1, d2] }
  | _ => none }
def PilePlaysWrongFalsely : Prop := pilePlaysRow.holds Try.pinned (OpenSpec.ofChange pilePlaysWrong)

/-- 'clewlaw16.PileTakes': WHATEVER THE INPUT: true; the input reads as it did. -/
def pileTakesSpec : ChangeSpec := { name := "pileTakes", fn := fun _ => fun
  | [d1, d2] => { results := [.lit (.bool true)], args := [d1, d2] }
  | _ => none }
def pileTakesRow : OpenClaim := { program := "ytklmligfljakfaa", sum := "7d7893ce2a765f4fb3e91abf6721db87e094ef03723e22ecb92954f09131f545", func := "clew/clewlaw16.PileTakes", spec := "pileTakes", apart := false }
def PileTakesSaid : Prop := pileTakesRow.holds Try.pinned (OpenSpec.ofChange pileTakesSpec)

/-- ITS FALSE NEIGHBOUR: 'it returns false'. Refute it at one input. -/
def pileTakesWrong : ChangeSpec := { name := "pileTakes", fn := fun _ => fun
  | [d1, d2] => { results := [.lit (.bool false)], args := [d1, d2] }
  | _ => none }
def PileTakesWrongFalsely : Prop := pileTakesRow.holds Try.pinned (OpenSpec.ofChange pileTakesWrong)

/-- 'clewlaw16.PileCuts': WHATEVER THE INPUT: true; the input reads as it did. -/
def pileCutsSpec : ChangeSpec := { name := "pileCuts", fn := fun _ => fun
  | [d1, d2] => { results := [.lit (.bool true)], args := [d1, d2] }
  | _ => none }
def pileCutsRow : OpenClaim := { program := "ytklmligfljakfaa", sum := "7d7893ce2a765f4fb3e91abf6721db87e094ef03723e22ecb92954f09131f545", func := "clew/clewlaw16.PileCuts", spec := "pileCuts", apart := false }
def PileCutsSaid : Prop := pileCutsRow.holds Try.pinned (OpenSpec.ofChange pileCutsSpec)

/-- ITS FALSE NEIGHBOUR: 'it returns false'. Refute it at one input. -/
def pileCutsWrong : ChangeSpec := { name := "pileCuts", fn := fun _ => fun
  | [d1, d2] => { results := [.lit (.bool false)], args := [d1, d2] }
  | _ => none }
def PileCutsWrongFalsely : Prop := pileCutsRow.holds Try.pinned (OpenSpec.ofChange pileCutsWrong)

/- THE SECOND FORM. 'bulk': how many values and letters a reading holds, each counted each time it is reached (what is shared counts as often as it is met; a slice's spare places count too). A statement '..UptoSaid' is the law's where the arguments, and the package variables that the reading takes, are together of bulk at most 1048576: NARROWER than '..Said'. Prove '..Said' where nothing that the law and all that it calls make is longer than what came in: it says more and counts as full. Else prove '..UptoSaid'. A law counts once. -/
mutual
def uptoBulk {H : Type} : DataW H → Nat
  | .lit (.string bytes) => bytes.length + 1
  | .lit _ => 1
  | .nil => 1
  | .ptr d => uptoBulk d + 1
  | .slice elems spare => uptoBulkAll elems + uptoBulkAll spare + 1
  | .agg parts => uptoBulkAll parts + 1
  | .iface _ d => uptoBulk d + 1
  | .map entries => uptoBulkEntries entries + 1
  | .held _ => 1
def uptoBulkAll {H : Type} : List (DataW H) → Nat
  | [] => 0
  | d :: r => uptoBulk d + uptoBulkAll r
def uptoBulkEntries {H : Type} : List (Lit × DataW H) → Nat
  | [] => 0
  | x :: r => uptoBulkEntry x + uptoBulkEntries r
def uptoBulkEntry {H : Type} : Lit × DataW H → Nat
  | (.string bytes, d) => bytes.length + uptoBulk d + 1
  | (_, d) => uptoBulk d + 1
 end
def uptoSmall : (H : Type) → List (DataW H) → Bool := fun _ ds => decide (uptoBulkAll ds ≤ 1048576)
def OpenSpec.upto (s : _root_.Go.ChangeSpec) : _root_.Go.OpenSpec := { _root_.Go.OpenSpec.ofChange s with cond := some uptoSmall }

/-- 'clewlaw16.PilePlays', WHERE WHAT IT READS IS OF BULK AT MOST 1048576: true; the input reads as it did. -/
def pilePlaysUptoRow : OpenClaim := { program := "ytklmligfljakfaa", sum := "7d7893ce2a765f4fb3e91abf6721db87e094ef03723e22ecb92954f09131f545", func := "clew/clewlaw16.PilePlays", spec := "pilePlays", apart := false, narrowed := true }
def PilePlaysUptoSaid : Prop := pilePlaysUptoRow.holds Try.pinned (OpenSpec.upto pilePlaysSpec)

/-- 'clewlaw16.PileTakes', WHERE WHAT IT READS IS OF BULK AT MOST 1048576: true; the input reads as it did. -/
def pileTakesUptoRow : OpenClaim := { program := "ytklmligfljakfaa", sum := "7d7893ce2a765f4fb3e91abf6721db87e094ef03723e22ecb92954f09131f545", func := "clew/clewlaw16.PileTakes", spec := "pileTakes", apart := false, narrowed := true }
def PileTakesUptoSaid : Prop := pileTakesUptoRow.holds Try.pinned (OpenSpec.upto pileTakesSpec)

/-- 'clewlaw16.PileCuts', WHERE WHAT IT READS IS OF BULK AT MOST 1048576: true; the input reads as it did. -/
def pileCutsUptoRow : OpenClaim := { program := "ytklmligfljakfaa", sum := "7d7893ce2a765f4fb3e91abf6721db87e094ef03723e22ecb92954f09131f545", func := "clew/clewlaw16.PileCuts", spec := "pileCuts", apart := false, narrowed := true }
def PileCutsUptoSaid : Prop := pileCutsUptoRow.holds Try.pinned (OpenSpec.upto pileCutsSpec)

end Rows
end Go.Proofs.Ytklmligfljakfaa
