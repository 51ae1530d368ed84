/-
  The law ClassOf, walked: true at any letter, any number. Conditions: those of the program's contracts.
-/
import Derived.Test.YthhgbanhoogmfaaDoorClAnchor
set_option linter.unusedVariables false
set_option linter.unusedSimpArgs false
namespace Go.Proofs.YthhgbanhoogmfaaDoor.Cl
open Go.RowKit Go.Proofs.YthhgbanhoogmfaaDoor.Mem Go.Proofs.YthhgbanhoogmfaaDoor.Rs

set_option maxRecDepth 100000 in
set_option maxHeartbeats 2000000 in
theorem walkOf (c : Nat) (hc256 : c < 256) (x : Int) (w : World) (hT : Tb w) : Calls Tryd.prog 5 #[.int .u8 (c : Int), .int .i64 x] w fun e w' => e = .returned (.bool true) ∧ Below w.heap.size w w' := by
  have HT := hide hT
  obtain ⟨hl4, hl0⟩ := listOf_len c
  have hle := listOf_least c
  have HR := hide (fun W => of_any' c x W)
  obtain ⟨l, hl⟩ : ∃ l, listOf c = l := ⟨_, rfl⟩
  obtain ⟨q, hq⟩ : ∃ q, isOf c = q := ⟨_, rfl⟩
  have HLE := hide hle
  have C := hide (fun W h => pof_any c hc256 W h)
  rw [hl] at hl4 hl0 HLE C HR
  rw [hq] at hl0 C HR
  have HL0 := hide hl0
  clear hT hle hl hq hl0
  go_enter Tryd.func5, Tryd.ntmps5
  go_wp2_with fail
  refine (anchor_any w (unhide HT)).mono ?_
  rintro e w1 ⟨rfl, hb⟩
  have HB1 := hide hb
  have HT1 := hide ((unhide HT).below hb)
  clear hb HT
  go_wp2_with fail
  refine (unhide C w1 (unhide HT1)).mono ?_
  rintro e w2 ⟨v2, rfl, A, cap, rfl, hcp, hm, hlst, hb⟩
  have HB2 := hide ((unhide HB1).trans (hb.mono (unhide HB1).size))
  have HL := hide hlst
  clear C HB1 HT1 hlst hb
  go_wp2_with fail
  refine (unhide HR w2).mono ?_
  rintro e w3 ⟨rfl, hb⟩
  have HB3 := hide ((unhide HB2).trans (hb.mono (unhide HB2).size))
  have HL3 := hide (((unhide HL).below hb).more hb.size)
  clear HR HB2 HL hb
  have C4 := hide (Rs.has_any l x A cap w3 (by omega) (unhide HL3))
  generalize hasL l x = h at *
  go_wp2_with fail
  refine (unhide C4).mono ?_
  rintro e w4 ⟨rfl, hb⟩
  have HB4 := hide ((unhide HB3).trans (hb.mono (unhide HB3).size))
  have HL4 := hide (((unhide HL3).below hb).more hb.size)
  clear C4 HB3 HL3 hb
  go_wp2_with fail
  refine (right_any l A cap w4 (by omega) hcp (unhide HL4)).mono ?_
  rintro e w5 ⟨rfl, hb⟩
  rw [decide_eq_true (unhide HLE)]
  have HB5 := hide ((unhide HB4).trans (hb.mono (unhide HB4).size))
  clear HB4 HL4 hb
  cases q with
  | true =>
    go_wp2_with fail
    go_ret
    exact ⟨rfl, unhide HB5⟩
  | false =>
    have h0 := unhide HL0 rfl
    subst h0
    go_wp2_with fail
    go_ret
    exact ⟨rfl, unhide HB5⟩
end Go.Proofs.YthhgbanhoogmfaaDoor.Cl
