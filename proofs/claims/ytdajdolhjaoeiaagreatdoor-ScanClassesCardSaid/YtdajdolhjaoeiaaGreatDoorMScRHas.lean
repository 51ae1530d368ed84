/-
  The reference's Has (clewref07), walked: has an item's set a number? Conditions: none.
-/
import Derived.Test.YtdajdolhjaoeiaaGreatDoorMScRE
import Derived.Test.YtdajdolhjaoeiaaGreatDoorMClHas
import Derived.Test.YtdajdolhjaoeiaaGreatDoorMClOf
set_option linter.unusedVariables false
set_option linter.unusedSimpArgs false
namespace Go.Proofs.YtdajdolhjaoeiaaGreatDoor.Sc
open Go.RowKit Go.Proofs.YtdajdolhjaoeiaaGreatDoor.Mem
open Go.Proofs.YtdajdolhjaoeiaaGreatDoor.Sy (g g_of g_lt isS)
open Go.Proofs.YtdajdolhjaoeiaaGreatDoor.Cl (isOf)

set_option maxRecDepth 100000 in
set_option maxHeartbeats 4000000 in
theorem rhas_raw (a b c : Int) (s : List UInt8) (l : Nat) (t : Bool) (n : Int) (w : World) :
    Calls Tryz.prog 43 #[.agg #[.int .i64 a, .int .i64 b, .int .i64 c, .string ⟨s.toArray⟩, .int .u8 (l : Int), .bool t], .int .i64 n] w fun e w' => e = .returned (.bool (decide (0 ≤ n ∧ n ≤ 1114367) && (if 0 < l then (Cl.ofP l n).1 else ((Cl.hasP s n).1 != t)))) ∧ Below w.heap.size w w' := by
  have hb0 : Below w.heap.size w (w.alloc (.cells #[.int .i64 a, .int .i64 b, .int .i64 c, .string ⟨s.toArray⟩, .int .u8 (l : Int), .bool t] 31)) := (Below.refl w.heap.size w).alloc (Nat.le_refl _) _
  have HB0 := hide hb0
  have HK := hide (Blk.new w 31 #[.int .i64 a, .int .i64 b, .int .i64 c, .string ⟨s.toArray⟩, .int .u8 (l : Int), .bool t])
  clear hb0
  by_cases h0 : n < 0
  · rw [decide_eq_false (show ¬ (0 ≤ n ∧ n ≤ 1114367) by omega), Bool.false_and]
    go_enter Tryz.func43, Tryz.ntmps43
    go_wp2_with fail
    go_ret
    exact ⟨rfl, unhide HB0⟩
  · by_cases h1 : 1114367 < n
    · rw [decide_eq_false (show ¬ (0 ≤ n ∧ n ≤ 1114367) by omega), Bool.false_and]
      go_enter Tryz.func43, Tryz.ntmps43
      go_wp2_with fail
      go_ret
      exact ⟨rfl, unhide HB0⟩
    · rw [decide_eq_true (show 0 ≤ n ∧ n ≤ 1114367 by omega), Bool.true_and]
      have h0' : 0 ≤ n := by omega
      have h1' : n ≤ 1114367 := by omega
      clear h0 h1
      by_cases hl : 0 < l
      · rw [if_pos hl]
        have C1 := hide (fun W => Cl.of_any l n W)
        have hl1 : (0 : Int) < (l : Int) := by omega
        generalize Cl.ofP l n = q at *
        unfold Cl.H2 at C1
        clear hl
        go_enter Tryz.func43, Tryz.ntmps43
        go_wp2_with fail
        refine ((unhide C1) _).mono ?_
        rintro e w2 ⟨rfl, hB⟩
        have HB2 := hide ((unhide HB0).trans (hB.mono (unhide HB0).size))
        clear hB
        go_wp2_with fail
        go_ret
        exact ⟨rfl, unhide HB2⟩
      · rw [if_neg hl]
        obtain rfl : l = 0 := by omega
        have C1 := hide (fun W => Cl.has_any s n W)
        generalize Cl.hasP s n = q at *
        unfold Cl.H2 at C1
        clear hl
        go_enter Tryz.func43, Tryz.ntmps43
        go_wp2_with fail
        refine ((unhide C1) _).mono ?_
        rintro e w2 ⟨rfl, hB⟩
        have HB2 := hide ((unhide HB0).trans (hB.mono (unhide HB0).size))
        have hk := (unhide HK).below hB (unhide HK).lt
        have d5 := hk.cell 5
        clear hB hk
        go_wp2_with fail
        go_ret
        exact ⟨rfl, unhide HB2⟩
end Go.Proofs.YtdajdolhjaoeiaaGreatDoor.Sc
