/-
  The document's examples (clewlaw04.anchor), walked: true. No conditions.
-/
import Derived.Test.YtldahjgafkhobaaViBytes
import Derived.Test.YtldahjgafkhobaaSymStr
set_option linter.unusedVariables false
set_option linter.unusedSimpArgs false
namespace Go.Proofs.Ytldahjgafkhobaa.Vi
open Go.RowKit Go.Proofs.Ytldahjgafkhobaa.Mem

theorem enc_300 : enc 300 = [172, 2] := by
  rw [enc_ge (by decide), enc_lt (by decide)]
  rfl
theorem enc_m1 : enc (zig (-1)) = [1] := by
  rw [enc_lt (by decide)]
  rfl
/-- the string of what lies behind v -/
theorem Row.str {bs : List UInt8} {w w' : World} {A : Option Addr} {n c : Nat} (h : Row bs w (.slice A n c) w') : n = bs.length ∧ (convert 23 9 (.slice A n c)).run Try.prog w' = .ok (.string ⟨bs.toArray⟩) w' := by
  obtain ⟨A2, c2, e, -, -, hr⟩ := own_slice h.1
  injection e with e1 e2 e3
  subst e1 e2 e3
  exact ⟨rfl, Str.conv_str bs _ _ _ _ w' rfl hr⟩

set_option maxRecDepth 100000 in
set_option maxHeartbeats 1000000 in
theorem anchor_any (w : World) : Calls Try.prog 8 #[] w fun e w' => e = .returned (.bool true) ∧ Below w.heap.size w w' := by
  have C := hide (bytes_any 300 (by decide) w)
  have D := hide (fun W => signed_any (-1) (by decide) (by decide) W)
  rw [enc_300] at C
  rw [enc_m1] at D
  go_enter Try.func8, Try.ntmps8
  go_wp2_with fail
  refine (unhide C).mono ?_
  rintro e w1 ⟨v1, rfl, hv1⟩
  have HB := hide hv1.2
  have HV1 := hide hv1
  clear hv1 C
  go_wp2_with fail
  refine (unhide D w1).mono ?_
  rintro e w2 ⟨v2, rfl, hv2⟩
  have HV2 := hide hv2
  have HV3 := hide ((unhide HV1).kept hv2.2)
  have HB2 := hide ((unhide HB).trans (hv2.2.mono (unhide HB).size))
  obtain ⟨A1, c1, rfl, -, -, -⟩ := own_slice (unhide HV3).1
  obtain ⟨A2, c2, rfl, -, -, -⟩ := own_slice hv2.1
  have s1 : Sem.run Try.prog (convert 23 9 (.slice A1 2 c1)) w2 = .ok (.string ⟨#[172, 2]⟩) w2 := (unhide HV3).str.2
  have s2 : Sem.run Try.prog (convert 23 9 (.slice A2 1 c2)) w2 = .ok (.string ⟨#[1]⟩) w2 := hv2.str.2
  clear hv2 D
  go_wp2
  go_ret
  exact ⟨rfl, unhide HB2⟩
end Go.Proofs.Ytldahjgafkhobaa.Vi
