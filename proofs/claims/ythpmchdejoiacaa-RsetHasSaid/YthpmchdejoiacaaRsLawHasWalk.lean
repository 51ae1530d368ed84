/-
  The law RsetHas, walked.
-/
import Derived.Test.YthpmchdejoiacaaRsAnchor
import Derived.Test.YthpmchdejoiacaaRsLeast
set_option linter.unusedVariables false
set_option linter.unusedSimpArgs false
namespace Go.Proofs.Ythpmchdejoiacaa.Rs
open Go.Shelf Go.RowKit Go.Proofs.Ythpmchdejoiacaa.Mem

theorem eql_bool' (a b : Bool) (w : World) : Sem.run Try.prog (binOp .eql 4 (.bool a) (.bool b)) w = .ok (.bool (a == b)) w := by
  have h := run_equal_bool (P := Try.prog) w 4 a b Try.underlying4
  simp [binOp, h]
attribute [local go_sem] run_not_true run_not_false eql_bool'

set_option maxHeartbeats 2000000 in
theorem walkHas (l : List R) (A : Option Addr) (cap : Nat) (x : Int) (w : World) (hcap : l.length ≤ cap) (hm : cap ≤ 9223372036854775807) (hint : ∀ r ∈ l, -9223372036854775808 ≤ r.1 ∧ r.1 ≤ 9223372036854775807) (h : Lst w w.heap.size A l) :
    Calls Try.prog 4 #[.slice A l.length cap, .int .i64 x] w fun e w' => e = .returned (.bool true) ∧ Below w.heap.size w w' := by
  have H := hide h
  have HI := hide hint
  clear h hint
  by_cases hbig : 200 < (l.length : Int)
  · go_enter Try.func4, Try.ntmps4
    go_wp2_with fail
    refine (anchor_any w).mono ?_
    rintro e w1 ⟨rfl, hb1⟩
    go_wp2
    go_ret
    exact ⟨rfl, hb1⟩
  · have hlen : l.length ≤ 200 := by omega
    go_enter Try.func4, Try.ntmps4
    go_wp2_with fail
    refine (anchor_any w).mono ?_
    rintro e w1 ⟨rfl, hb1⟩
    have HB1 := hide hb1
    have HL1 := hide ((unhide H).below hb1 |>.more hb1.size)
    clear hb1
    go_wp2_with fail
    refine (has_any l x A cap w1 (by omega) (unhide HL1)).mono ?_
    rintro e w2 ⟨rfl, hb2⟩
    have HL2 := hide ((unhide HL1).below hb2 |>.more hb2.size)
    have HB2 := hide ((unhide HB1).trans (hb2.mono (unhide HB1).size))
    clear hb2
    go_wp2_with fail
    refine (lawOf_any l A cap w2 (by omega) (unhide HL2)).mono ?_
    rintro e w3 ⟨v3, rfl, hcut⟩
    obtain ⟨A3, cap3, rfl, hl3, hc3, hcm3⟩ := own_lst hcut.1
    have hb3 := hcut.2
    have HL3 := hide ((unhide HL2).below hb3 |>.more hb3.size)
    have HB3 := hide ((unhide HB2).trans (hb3.mono (unhide HB2).size))
    have HR3 := hide hl3
    clear hcut hb3 hl3
    go_wp2_with fail
    refine (refHas_any l x A3 cap3 w3 (by omega) (unhide HR3)).mono ?_
    rintro e w4 ⟨rfl, rfl⟩
    generalize hasL l x = b at *
    go_wp2_with fail
    refine (right_any l A cap w4 (by omega) hcap (unhide HL3)).mono ?_
    rintro e w5 ⟨rfl, hb5⟩
    have HL5 := hide ((unhide HL3).below hb5 |>.more hb5.size)
    have HB5 := hide ((unhide HB3).trans (hb5.mono (unhide HB3).size))
    clear hb5
    go_wp2_with fail
    refine (lawOf_any l A cap w5 (by omega) (unhide HL5)).mono ?_
    rintro e w6 ⟨v6, rfl, hcut⟩
    obtain ⟨A6, cap6, rfl, hl6, hc6, hcm6⟩ := own_lst hcut.1
    have HB6 := hide ((unhide HB5).trans (hcut.2.mono (unhide HB5).size))
    have HR6 := hide hl6
    clear hcut hl6
    go_wp2_with fail
    refine (refLeast_any l A6 cap6 w6 (by omega) (unhide HI) (unhide HR6)).mono ?_
    rintro e w7 ⟨rfl, hb7⟩
    have HB7 := hide ((unhide HB6).trans (hb7.mono (unhide HB6).size))
    clear hb7
    generalize decide (Least l) = b2 at *
    go_wp2
    go_ret
    exact ⟨by simp, unhide HB7⟩
end Go.Proofs.Ythpmchdejoiacaa.Rs
