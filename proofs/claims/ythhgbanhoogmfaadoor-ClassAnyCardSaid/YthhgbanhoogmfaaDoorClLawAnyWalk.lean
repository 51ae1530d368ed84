/-
  The law ClassAny, walked: true at either bool, any number. Conditions: those of the program's contracts.
-/
import Derived.Test.YthhgbanhoogmfaaDoorClAnchor
set_option linter.unusedVariables false
set_option linter.unusedSimpArgs false
namespace Go.Proofs.YthhgbanhoogmfaaDoor.Cl
open Go.RowKit Go.Proofs.YthhgbanhoogmfaaDoor.Mem Go.Proofs.YthhgbanhoogmfaaDoor.Rs

theorem anyL_len (b : Bool) : (anyL b).length ≤ 2 := by cases b <;> decide
set_option maxRecDepth 100000 in
set_option maxHeartbeats 4000000 in
theorem walkAny (b : Bool) (x : Int) (w : World) (hT : Tb w) : Calls Tryd.prog 6 #[.bool b, .int .i64 x] w fun e w' => e = .returned (.bool true) ∧ Below w.heap.size w w' := by
  have HT := hide hT
  have hlen := anyL_len b
  have hle := anyL_least b
  have hhas := anyL_has b x
  have HR := hide (fun W => has_any' [119, 111, 114, 100] x W)
  have HW := hide (fun W h => word_any x W h)
  generalize hasL (nameL [119, 111, 114, 100]) x = p at HR HW
  have C := hide (fun W h => dot_any b W h)
  obtain ⟨l, hl⟩ : ∃ l, anyL b = l := ⟨_, rfl⟩
  rw [hl] at hlen hle hhas C
  have HLE := hide hle
  have HHAS := hide hhas
  clear hT hle hl hhas
  have hx : (x < 0) ∨ (0 ≤ x ∧ 1114367 < x) ∨ (0 ≤ x ∧ x ≤ 1114367 ∧ x = 10) ∨ (0 ≤ x ∧ x ≤ 1114367 ∧ ¬ x = 10) := by omega
  go_enter Tryd.func6, Tryd.ntmps6
  go_wp2_with fail
  refine (anchor_any w (unhide HT)).mono ?_
  rintro e w1 ⟨rfl, hb⟩
  have HB1 := hide hb
  have HT1 := hide ((unhide HT).below hb)
  clear hb HT
  go_wp2_with fail
  refine (unhide C w1 (unhide HT1)).mono ?_
  rintro e w2 ⟨v2, rfl, A, cap, rfl, hc, hm, hlst, hb⟩
  have HB2 := hide ((unhide HB1).trans (hb.mono (unhide HB1).size))
  have HT2 := hide ((unhide HT1).below hb)
  have HL := hide hlst
  clear C HB1 HT1 hlst hb
  go_wp2_with fail
  refine (unhide HR w2).mono ?_
  rintro e w3 ⟨rfl, hb⟩
  have HB3 := hide ((unhide HB2).trans (hb.mono (unhide HB2).size))
  have HT3 := hide ((unhide HT2).below hb)
  have HL3 := hide (((unhide HL).below hb).more hb.size)
  clear HR HB2 HL HT2 hb
  have C4 := hide (Rs.has_any l x A cap w3 (by omega) (unhide HL3))
  rw [unhide HHAS] at C4
  have last : ∀ w4 : World, Below w3.heap.size w3 w4 → Hid (Calls Tryd.prog 11 #[.slice A l.length cap] w4 fun e w' => e = .returned (.bool true) ∧ Below w4.heap.size w4 w') := fun w4 hb => by
    have h := right_any l A cap w4 (by omega) hc (((unhide HL3).below hb).more hb.size)
    rw [decide_eq_true (unhide HLE)] at h
    exact h
  have LAST := hide last
  clear last
  rcases hx with h | ⟨h, h2⟩ | ⟨h, h2, h3⟩ | ⟨h, h2, h3⟩
  · have e0 : (decide (0 ≤ x) && decide (x ≤ 1114367) && (b || x != 10)) = false := by simp; omega
    rw [e0] at C4
    clear e0
    go_wp2_with fail
    refine (unhide C4).mono ?_
    rintro e w4 ⟨rfl, hb⟩
    have HB4 := hide ((unhide HB3).trans (hb.mono (unhide HB3).size))
    have HT4 := hide ((unhide HT3).below hb)
    have C5 := unhide LAST w4 hb
    clear C4 HB3 HT3 HL3 LAST hb
    go_wp2_with fail
    refine (unhide C5).mono ?_
    rintro e w5 ⟨rfl, hb⟩
    have HB5 := hide ((unhide HB4).trans (hb.mono (unhide HB4).size))
    have HT5 := hide ((unhide HT4).below hb)
    clear C5 HB4 HT4 hb
    go_wp2_with fail
    refine (unhide HW w5 (unhide HT5)).mono ?_
    rintro e w6 ⟨rfl, hb⟩
    have HB6 := hide ((unhide HB5).trans (hb.mono (unhide HB5).size))
    clear HW hb HB5
    go_wp2_with fail
    go_ret
    exact ⟨by simp, unhide HB6⟩
  · have e0 : (decide (0 ≤ x) && decide (x ≤ 1114367) && (b || x != 10)) = false := by simp; omega
    rw [e0] at C4
    clear e0
    go_wp2_with fail
    refine (unhide C4).mono ?_
    rintro e w4 ⟨rfl, hb⟩
    have HB4 := hide ((unhide HB3).trans (hb.mono (unhide HB3).size))
    have HT4 := hide ((unhide HT3).below hb)
    have C5 := unhide LAST w4 hb
    clear C4 HB3 HT3 HL3 LAST hb
    go_wp2_with fail
    refine (unhide C5).mono ?_
    rintro e w5 ⟨rfl, hb⟩
    have HB5 := hide ((unhide HB4).trans (hb.mono (unhide HB4).size))
    have HT5 := hide ((unhide HT4).below hb)
    clear C5 HB4 HT4 hb
    go_wp2_with fail
    refine (unhide HW w5 (unhide HT5)).mono ?_
    rintro e w6 ⟨rfl, hb⟩
    have HB6 := hide ((unhide HB5).trans (hb.mono (unhide HB5).size))
    clear HW hb HB5
    go_wp2_with fail
    go_ret
    exact ⟨by simp, unhide HB6⟩
  · have ne : (x != 10) = false := by rw [bne_eq_false_iff_eq]; exact h3
    have H3 := hide h3
    clear h3
    cases b with
    | true =>
      have e0 : (decide (0 ≤ x) && decide (x ≤ 1114367) && (true || x != 10)) = true := by rw [ne]; simp; try omega
      rw [e0] at C4
      clear e0
      go_wp2_with fail
      refine (unhide C4).mono ?_
      rintro e w4 ⟨rfl, hb⟩
      have HB4 := hide ((unhide HB3).trans (hb.mono (unhide HB3).size))
      have HT4 := hide ((unhide HT3).below hb)
      have C5 := unhide LAST w4 hb
      clear C4 HB3 HT3 HL3 LAST hb
      go_wp2_with fail
      refine (unhide C5).mono ?_
      rintro e w5 ⟨rfl, hb⟩
      have HB5 := hide ((unhide HB4).trans (hb.mono (unhide HB4).size))
      have HT5 := hide ((unhide HT4).below hb)
      clear C5 HB4 HT4 hb
      go_wp2_with fail
      refine (unhide HW w5 (unhide HT5)).mono ?_
      rintro e w6 ⟨rfl, hb⟩
      have HB6 := hide ((unhide HB5).trans (hb.mono (unhide HB5).size))
      clear HW hb HB5
      go_wp2_with fail
      go_ret
      exact ⟨by simp, unhide HB6⟩
    | false =>
      have e0 : (decide (0 ≤ x) && decide (x ≤ 1114367) && (false || x != 10)) = false := by rw [ne]; simp; try omega
      rw [e0] at C4
      clear e0
      go_wp2_with fail
      refine (unhide C4).mono ?_
      rintro e w4 ⟨rfl, hb⟩
      have HB4 := hide ((unhide HB3).trans (hb.mono (unhide HB3).size))
      have HT4 := hide ((unhide HT3).below hb)
      have C5 := unhide LAST w4 hb
      clear C4 HB3 HT3 HL3 LAST hb
      go_wp2_with fail
      refine (unhide C5).mono ?_
      rintro e w5 ⟨rfl, hb⟩
      have HB5 := hide ((unhide HB4).trans (hb.mono (unhide HB4).size))
      have HT5 := hide ((unhide HT4).below hb)
      clear C5 HB4 HT4 hb
      go_wp2_with fail
      refine (unhide HW w5 (unhide HT5)).mono ?_
      rintro e w6 ⟨rfl, hb⟩
      have HB6 := hide ((unhide HB5).trans (hb.mono (unhide HB5).size))
      clear HW hb HB5
      go_wp2_with fail
      go_ret
      exact ⟨by simp, unhide HB6⟩
  · have ne : (x != 10) = true := by rw [bne_iff_ne]; exact h3
    have H3 := hide h3
    clear h3
    cases b with
    | true =>
      have e0 : (decide (0 ≤ x) && decide (x ≤ 1114367) && (true || x != 10)) = true := by rw [ne]; simp; try omega
      rw [e0] at C4
      clear e0
      go_wp2_with fail
      refine (unhide C4).mono ?_
      rintro e w4 ⟨rfl, hb⟩
      have HB4 := hide ((unhide HB3).trans (hb.mono (unhide HB3).size))
      have HT4 := hide ((unhide HT3).below hb)
      have C5 := unhide LAST w4 hb
      clear C4 HB3 HT3 HL3 LAST hb
      go_wp2_with fail
      refine (unhide C5).mono ?_
      rintro e w5 ⟨rfl, hb⟩
      have HB5 := hide ((unhide HB4).trans (hb.mono (unhide HB4).size))
      have HT5 := hide ((unhide HT4).below hb)
      clear C5 HB4 HT4 hb
      go_wp2_with fail
      refine (unhide HW w5 (unhide HT5)).mono ?_
      rintro e w6 ⟨rfl, hb⟩
      have HB6 := hide ((unhide HB5).trans (hb.mono (unhide HB5).size))
      clear HW hb HB5
      go_wp2_with fail
      go_ret
      exact ⟨by simp, unhide HB6⟩
    | false =>
      have e0 : (decide (0 ≤ x) && decide (x ≤ 1114367) && (false || x != 10)) = true := by rw [ne]; simp; try omega
      rw [e0] at C4
      clear e0
      go_wp2_with fail
      refine (unhide C4).mono ?_
      rintro e w4 ⟨rfl, hb⟩
      have HB4 := hide ((unhide HB3).trans (hb.mono (unhide HB3).size))
      have HT4 := hide ((unhide HT3).below hb)
      have C5 := unhide LAST w4 hb
      clear C4 HB3 HT3 HL3 LAST hb
      go_wp2_with fail
      refine (unhide C5).mono ?_
      rintro e w5 ⟨rfl, hb⟩
      have HB5 := hide ((unhide HB4).trans (hb.mono (unhide HB4).size))
      have HT5 := hide ((unhide HT4).below hb)
      clear C5 HB4 HT4 hb
      go_wp2_with fail
      refine (unhide HW w5 (unhide HT5)).mono ?_
      rintro e w6 ⟨rfl, hb⟩
      have HB6 := hide ((unhide HB5).trans (hb.mono (unhide HB5).size))
      clear HW hb HB5
      go_wp2_with fail
      go_ret
      exact ⟨by simp, unhide HB6⟩
end Go.Proofs.YthhgbanhoogmfaaDoor.Cl
