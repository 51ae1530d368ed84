/-
  The laws RsetOf and RsetHas, walked.
-/
import Derived.Test.YthpmchdejoiacaaRsAnchor
import Derived.Test.YthpmchdejoiacaaRsLeast
set_option linter.unusedVariables false
set_option linter.unusedSimpArgs false
namespace Go.Proofs.Ythpmchdejoiacaa.Rs
open Go.Shelf Go.RowKit Go.Proofs.Ythpmchdejoiacaa.Mem

theorem ofL_len (x : Int) : ((ofL x).length == 1) = decide (0 ≤ x ∧ x ≤ 1114367) := by
  rw [ofL_eq]
  split
  · rename_i h; simp [h]
  · rename_i h; simp; omega
theorem ofL_least (x : Int) : Least (ofL x) := mk_least _
theorem ofL_has (x y : Int) : hasL (ofL x) y = (decide (0 ≤ x ∧ x ≤ 1114367) && decide (x = y)) := by
  rw [ofL, mk_has, Bool.eq_iff_iff]
  simp [inR]; omega
theorem eql_bool (a b : Bool) (w : World) : Sem.run Try.prog (binOp .eql 4 (.bool a) (.bool b)) w = .ok (.bool (a == b)) w := by
  have h := run_equal_bool (P := Try.prog) w 4 a b Try.underlying4
  simp [binOp, h]
attribute [local go_sem] run_not_true run_not_false eql_bool

set_option maxHeartbeats 2000000 in
theorem walkOf (x y : Int) (w : World) : Calls Try.prog 7 #[.int .i64 x, .int .i64 y] w fun e w' => e = .returned (.bool true) ∧ Below w.heap.size w w' := by
  have hlen := ofL_len x
  have hhas := ofL_has x y
  have hlst := ofL_least x
  have hlen2 : (ofL x).length ≤ 1 := by rw [ofL_eq]; split <;> simp
  go_enter Try.func7, Try.ntmps7
  go_wp2_with fail
  refine (anchor_any w).mono ?_
  rintro e w1 ⟨rfl, hb1⟩
  have HB1 := hide hb1
  have HLEN := hide hlen
  have HHAS := hide hhas
  have HLST := hide hlst
  clear hb1 hlen hhas hlst
  go_wp2_with fail
  refine (of_any x w1).mono ?_
  rintro e w2 ⟨v2, rfl, hcut⟩
  obtain ⟨A2, cap2, rfl, hl2, hc2, hcm2⟩ := own_lst hcut.1
  have HB2 := hide ((unhide HB1).trans (hcut.2.mono (unhide HB1).size))
  have HL2 := hide hl2
  clear hcut hl2
  generalize ofL x = l at *
  by_cases h0 : 0 ≤ x
  · by_cases h1 : x ≤ 1114367
    · have E1 := hide (show l.length = 1 by have h := unhide HLEN; simpa [h0, h1] using h)
      by_cases hxy : x = y
      · subst hxy
        have e2 : hasL l x = true := by rw [unhide HHAS]; simp [h0, h1]
        have E2 := hide e2
        clear e2
        go_wp2_with fail
        refine (has_any l x A2 cap2 w2 (by omega) (unhide HL2)).mono ?_
        rintro e w3 ⟨rfl, hb3⟩
        rw [unhide E2]
        have HL3 := hide ((unhide HL2).below hb3 |>.more hb3.size)
        have HB3 := hide ((unhide HB2).trans (hb3.mono (unhide HB2).size))
        clear hb3
        have d1 : ((l.length : Int) == 1) = true := by have := unhide E1; simp; omega
        go_wp2_with fail
        refine (right_any l A2 cap2 w3 (by omega) hc2 (unhide HL3)).mono ?_
        rintro e w4 ⟨rfl, hb4⟩
        rw [decide_eq_true (unhide HLST)]
        go_wp2
        go_ret
        exact ⟨rfl, (unhide HB3).trans (hb4.mono (unhide HB3).size)⟩
      · have dxy : (x == y) = false := by simpa using hxy
        have e2 : hasL l y = false := by rw [unhide HHAS]; simp [hxy]
        have E2 := hide e2
        clear e2
        go_wp2_with fail
        refine (has_any l y A2 cap2 w2 (by omega) (unhide HL2)).mono ?_
        rintro e w3 ⟨rfl, hb3⟩
        rw [unhide E2]
        have HL3 := hide ((unhide HL2).below hb3 |>.more hb3.size)
        have HB3 := hide ((unhide HB2).trans (hb3.mono (unhide HB2).size))
        clear hb3
        have d1 : ((l.length : Int) == 1) = true := by have := unhide E1; simp; omega
        go_wp2_with fail
        refine (right_any l A2 cap2 w3 (by omega) hc2 (unhide HL3)).mono ?_
        rintro e w4 ⟨rfl, hb4⟩
        rw [decide_eq_true (unhide HLST)]
        go_wp2
        go_ret
        exact ⟨rfl, (unhide HB3).trans (hb4.mono (unhide HB3).size)⟩
    · have dh : decide (x ≤ 1114367) = false := by simp; omega
      have E1 := hide (show l.length ≠ 1 by have h := unhide HLEN; simpa [h1] using h)
      have e2 : hasL l y = false := by rw [unhide HHAS]; simp; omega
      have E2 := hide e2
      clear e2
      go_wp2_with fail
      refine (has_any l y A2 cap2 w2 (by omega) (unhide HL2)).mono ?_
      rintro e w3 ⟨rfl, hb3⟩
      rw [unhide E2]
      have HL3 := hide ((unhide HL2).below hb3 |>.more hb3.size)
      have HB3 := hide ((unhide HB2).trans (hb3.mono (unhide HB2).size))
      clear hb3
      have d1 : ((l.length : Int) == 1) = false := by have := unhide E1; simp; omega
      go_wp2_with fail
      refine (right_any l A2 cap2 w3 (by omega) hc2 (unhide HL3)).mono ?_
      rintro e w4 ⟨rfl, hb4⟩
      rw [decide_eq_true (unhide HLST)]
      go_wp2
      go_ret
      exact ⟨rfl, (unhide HB3).trans (hb4.mono (unhide HB3).size)⟩
  · have dh : decide (0 ≤ x) = false := by simp; omega
    have E1 := hide (show l.length ≠ 1 by have h := unhide HLEN; simpa [h0] using h)
    have e2 : hasL l y = false := by rw [unhide HHAS]; simp; omega
    have E2 := hide e2
    clear e2
    go_wp2_with fail
    refine (has_any l y A2 cap2 w2 (by omega) (unhide HL2)).mono ?_
    rintro e w3 ⟨rfl, hb3⟩
    rw [unhide E2]
    have HL3 := hide ((unhide HL2).below hb3 |>.more hb3.size)
    have HB3 := hide ((unhide HB2).trans (hb3.mono (unhide HB2).size))
    clear hb3
    have d1 : ((l.length : Int) == 1) = false := by have := unhide E1; simp; omega
    go_wp2_with fail
    refine (right_any l A2 cap2 w3 (by omega) hc2 (unhide HL3)).mono ?_
    rintro e w4 ⟨rfl, hb4⟩
    rw [decide_eq_true (unhide HLST)]
    go_wp2
    go_ret
    exact ⟨rfl, (unhide HB3).trans (hb4.mono (unhide HB3).size)⟩

end Go.Proofs.Ythpmchdejoiacaa.Rs
