/-
  No cell of these rows narrows 'for every input' (looked for: loops, veiled, ifaces, maps, wideKeys, modest, calm, conditions, laid).
  DERIVED. THE GIVEN ROWS OF THIS SEAT. 5 by the template 'for every input the law returns true; each argument reads behind the call as it read before'; 0 by the template 'total and deterministic' (their statements: YtldahjgafkhobaaTotals.lean).
  GIVEN WITH THE SEED: the statements are not yours to turn. If you find one false, say at which input.
  Laid BY PROGRAM, IN A SANDBOX (cutbox-rows.mjs): the forced cells as the released guide's own fill.sh prints them over the translation c51ac26f2b4450f3… (all of the seat's roots in one cut). By AI agents, Wed Nov 11 2026. No macro, syntax, notation, axiom, sorry.
-/
import Derived.Test.YtldahjgafkhobaaChecked
import GoSem.Claim
import GoSem.ClaimJoined
import GoSem.ClaimMapViews
import Derived.JoinedTies
import Derived.KernelRfl
namespace Go.Proofs.Ytldahjgafkhobaa
/- THE CELL 'sum', in the pinned program and in every row, IS THE sha256 OF THE DUMP (.gsa) THAT YtldahjgafkhobaaProg.lean LOADS. Nothing in Lean hashes anything: it is a label: what it is worth is what the hold of that sum in a sandbox is worth. -/
noncomputable def Try.pinned : Pinned := { name := "ytldahjgafkhobaa", sum := "c51ac26f2b4450f3fae858376c5b82aef34d05a2fe7ed4beb861423dd65116b4", checked := Try.checked }
namespace Rows
def none {H : Type} : Left H := { results := [], args := [] }

/-- 'clewlaw04.VintBytes': WHATEVER THE INPUT: true; the input reads as it did. -/
def vintBytesSpec : ChangeSpec := { name := "vintBytes", fn := fun _ => fun
  | [d1, d2, d3] => { results := [.lit (.bool true)], args := [d1, d2, d3] }
  | _ => none }
def vintBytesRow : OpenClaim := { program := "ytldahjgafkhobaa", sum := "c51ac26f2b4450f3fae858376c5b82aef34d05a2fe7ed4beb861423dd65116b4", func := "clew/clewlaw04.VintBytes", spec := "vintBytes", recurses := true, apart := false }
def VintBytesSaid : Prop := vintBytesRow.holds Try.pinned (OpenSpec.ofChange vintBytesSpec)

/-- ITS FALSE NEIGHBOUR: 'it returns false'. Refute it at one input. -/
def vintBytesWrong : ChangeSpec := { name := "vintBytes", fn := fun _ => fun
  | [d1, d2, d3] => { results := [.lit (.bool false)], args := [d1, d2, d3] }
  | _ => none }
def VintBytesWrongFalsely : Prop := vintBytesRow.holds Try.pinned (OpenSpec.ofChange vintBytesWrong)

/-- 'clewlaw04.VintGets': WHATEVER THE INPUT: true; the input reads as it did. -/
def vintGetsSpec : ChangeSpec := { name := "vintGets", fn := fun _ => fun
  | [d1, d2] => { results := [.lit (.bool true)], args := [d1, d2] }
  | _ => none }
def vintGetsRow : OpenClaim := { program := "ytldahjgafkhobaa", sum := "c51ac26f2b4450f3fae858376c5b82aef34d05a2fe7ed4beb861423dd65116b4", func := "clew/clewlaw04.VintGets", spec := "vintGets", apart := false }
def VintGetsSaid : Prop := vintGetsRow.holds Try.pinned (OpenSpec.ofChange vintGetsSpec)

/-- ITS FALSE NEIGHBOUR: 'it returns false'. Refute it at one input. -/
def vintGetsWrong : ChangeSpec := { name := "vintGets", fn := fun _ => fun
  | [d1, d2] => { results := [.lit (.bool false)], args := [d1, d2] }
  | _ => none }
def VintGetsWrongFalsely : Prop := vintGetsRow.holds Try.pinned (OpenSpec.ofChange vintGetsWrong)

/-- 'clewlaw04.VintOnce': WHATEVER THE INPUT: true; the input reads as it did. -/
def vintOnceSpec : ChangeSpec := { name := "vintOnce", fn := fun _ => fun
  | [d1, d2] => { results := [.lit (.bool true)], args := [d1, d2] }
  | _ => none }
def vintOnceRow : OpenClaim := { program := "ytldahjgafkhobaa", sum := "c51ac26f2b4450f3fae858376c5b82aef34d05a2fe7ed4beb861423dd65116b4", func := "clew/clewlaw04.VintOnce", spec := "vintOnce", apart := false }
def VintOnceSaid : Prop := vintOnceRow.holds Try.pinned (OpenSpec.ofChange vintOnceSpec)

/-- ITS FALSE NEIGHBOUR: 'it returns false'. Refute it at one input. -/
def vintOnceWrong : ChangeSpec := { name := "vintOnce", fn := fun _ => fun
  | [d1, d2] => { results := [.lit (.bool false)], args := [d1, d2] }
  | _ => none }
def VintOnceWrongFalsely : Prop := vintOnceRow.holds Try.pinned (OpenSpec.ofChange vintOnceWrong)

/-- 'clewlaw04.VintSigns': WHATEVER THE INPUT: true; the input reads as it did. -/
def vintSignsSpec : ChangeSpec := { name := "vintSigns", fn := fun _ => fun
  | [d1, d2] => { results := [.lit (.bool true)], args := [d1, d2] }
  | _ => none }
def vintSignsRow : OpenClaim := { program := "ytldahjgafkhobaa", sum := "c51ac26f2b4450f3fae858376c5b82aef34d05a2fe7ed4beb861423dd65116b4", func := "clew/clewlaw04.VintSigns", spec := "vintSigns", recurses := true, apart := false }
def VintSignsSaid : Prop := vintSignsRow.holds Try.pinned (OpenSpec.ofChange vintSignsSpec)

/-- ITS FALSE NEIGHBOUR: 'it returns false'. Refute it at one input. -/
def vintSignsWrong : ChangeSpec := { name := "vintSigns", fn := fun _ => fun
  | [d1, d2] => { results := [.lit (.bool false)], args := [d1, d2] }
  | _ => none }
def VintSignsWrongFalsely : Prop := vintSignsRow.holds Try.pinned (OpenSpec.ofChange vintSignsWrong)

/-- 'clewlaw04.VintSigned': WHATEVER THE INPUT: true; the input reads as it did. -/
def vintSignedSpec : ChangeSpec := { name := "vintSigned", fn := fun _ => fun
  | [d1, d2] => { results := [.lit (.bool true)], args := [d1, d2] }
  | _ => none }
def vintSignedRow : OpenClaim := { program := "ytldahjgafkhobaa", sum := "c51ac26f2b4450f3fae858376c5b82aef34d05a2fe7ed4beb861423dd65116b4", func := "clew/clewlaw04.VintSigned", spec := "vintSigned", apart := false }
def VintSignedSaid : Prop := vintSignedRow.holds Try.pinned (OpenSpec.ofChange vintSignedSpec)

/-- ITS FALSE NEIGHBOUR: 'it returns false'. Refute it at one input. -/
def vintSignedWrong : ChangeSpec := { name := "vintSigned", fn := fun _ => fun
  | [d1, d2] => { results := [.lit (.bool false)], args := [d1, d2] }
  | _ => none }
def VintSignedWrongFalsely : Prop := vintSignedRow.holds Try.pinned (OpenSpec.ofChange vintSignedWrong)

/- THE SECOND FORM. 'bulk': how many values and letters a reading holds, each counted each time it is reached (what is shared counts as often as it is met; a slice's spare places count too). A statement '..UptoSaid' is the law's where the arguments, and the package variables that the reading takes, are together of bulk at most 1048576: NARROWER than '..Said'. Prove '..Said' where nothing that the law and all that it calls make is longer than what came in: it says more and counts as full. Else prove '..UptoSaid'. A law counts once. -/
mutual
def uptoBulk {H : Type} : DataW H → Nat
  | .lit (.string bytes) => bytes.length + 1
  | .lit _ => 1
  | .nil => 1
  | .ptr d => uptoBulk d + 1
  | .slice elems spare => uptoBulkAll elems + uptoBulkAll spare + 1
  | .agg parts => uptoBulkAll parts + 1
  | .iface _ d => uptoBulk d + 1
  | .map entries => uptoBulkEntries entries + 1
  | .held _ => 1
def uptoBulkAll {H : Type} : List (DataW H) → Nat
  | [] => 0
  | d :: r => uptoBulk d + uptoBulkAll r
def uptoBulkEntries {H : Type} : List (Lit × DataW H) → Nat
  | [] => 0
  | x :: r => uptoBulkEntry x + uptoBulkEntries r
def uptoBulkEntry {H : Type} : Lit × DataW H → Nat
  | (.string bytes, d) => bytes.length + uptoBulk d + 1
  | (_, d) => uptoBulk d + 1
 end
def uptoSmall : (H : Type) → List (DataW H) → Bool := fun _ ds => decide (uptoBulkAll ds ≤ 1048576)
def OpenSpec.upto (s : _root_.Go.ChangeSpec) : _root_.Go.OpenSpec := { _root_.Go.OpenSpec.ofChange s with cond := some uptoSmall }

/-- 'clewlaw04.VintBytes', WHERE WHAT IT READS IS OF BULK AT MOST 1048576: true; the input reads as it did. -/
def vintBytesUptoRow : OpenClaim := { program := "ytldahjgafkhobaa", sum := "c51ac26f2b4450f3fae858376c5b82aef34d05a2fe7ed4beb861423dd65116b4", func := "clew/clewlaw04.VintBytes", spec := "vintBytes", recurses := true, apart := false, narrowed := true }
def VintBytesUptoSaid : Prop := vintBytesUptoRow.holds Try.pinned (OpenSpec.upto vintBytesSpec)

/-- 'clewlaw04.VintGets', WHERE WHAT IT READS IS OF BULK AT MOST 1048576: true; the input reads as it did. -/
def vintGetsUptoRow : OpenClaim := { program := "ytldahjgafkhobaa", sum := "c51ac26f2b4450f3fae858376c5b82aef34d05a2fe7ed4beb861423dd65116b4", func := "clew/clewlaw04.VintGets", spec := "vintGets", apart := false, narrowed := true }
def VintGetsUptoSaid : Prop := vintGetsUptoRow.holds Try.pinned (OpenSpec.upto vintGetsSpec)

/-- 'clewlaw04.VintOnce', WHERE WHAT IT READS IS OF BULK AT MOST 1048576: true; the input reads as it did. -/
def vintOnceUptoRow : OpenClaim := { program := "ytldahjgafkhobaa", sum := "c51ac26f2b4450f3fae858376c5b82aef34d05a2fe7ed4beb861423dd65116b4", func := "clew/clewlaw04.VintOnce", spec := "vintOnce", apart := false, narrowed := true }
def VintOnceUptoSaid : Prop := vintOnceUptoRow.holds Try.pinned (OpenSpec.upto vintOnceSpec)

/-- 'clewlaw04.VintSigns', WHERE WHAT IT READS IS OF BULK AT MOST 1048576: true; the input reads as it did. -/
def vintSignsUptoRow : OpenClaim := { program := "ytldahjgafkhobaa", sum := "c51ac26f2b4450f3fae858376c5b82aef34d05a2fe7ed4beb861423dd65116b4", func := "clew/clewlaw04.VintSigns", spec := "vintSigns", recurses := true, apart := false, narrowed := true }
def VintSignsUptoSaid : Prop := vintSignsUptoRow.holds Try.pinned (OpenSpec.upto vintSignsSpec)

/-- 'clewlaw04.VintSigned', WHERE WHAT IT READS IS OF BULK AT MOST 1048576: true; the input reads as it did. -/
def vintSignedUptoRow : OpenClaim := { program := "ytldahjgafkhobaa", sum := "c51ac26f2b4450f3fae858376c5b82aef34d05a2fe7ed4beb861423dd65116b4", func := "clew/clewlaw04.VintSigned", spec := "vintSigned", apart := false, narrowed := true }
def VintSignedUptoSaid : Prop := vintSignedUptoRow.holds Try.pinned (OpenSpec.upto vintSignedSpec)

end Rows
end Go.Proofs.Ytldahjgafkhobaa
