/-
  The laws' anchor, walked.
-/
import Derived.Test.YtcajhkcopfabpaaDoorMEvBlank
set_option linter.unusedSimpArgs false
set_option linter.unusedVariables false
namespace Go.Proofs.YtcajhkcopfabpaaDoor.Ev
open Go.RowKit Go.Proofs.YtcajhkcopfabpaaDoor.Mem
theorem intA_at {n j : Nat} {x : Int} (h : j < n) : (intA (List.replicate n x))[j]? = some (.int .i64 x) := by
  unfold intA
  rw [List.getElem?_toArray, List.getElem?_map, List.getElem?_replicate, if_pos h]
  rfl
set_option maxRecDepth 100000 in
set_option maxHeartbeats 4000000 in
theorem anchor_any (w : World) (hT : Nm w) : Calls Tryd.prog 7 #[] w fun e w' => e = .returned (.bool true) ∧ Below w.heap.size w w' := by
  have CB := hide (blank_any 1 4 (by decide) w)
  have HT := hide hT
  have h2 := zero_state.1
  clear hT
  go_enter Tryd.func7, Tryd.ntmps7
  go_wp2_with fail
  refine (unhide CB).mono ?_
  rintro e w1 ⟨gb, rfl, hbk, hb⟩
  have k3 := ((hbk.alloc (.cells #[.int .i64 0, .int .i64 0, .int .i64 0, .int .i64 0, .int .i64 0, .int .i64 0, .int .i64 (-1), .slice (some ⟨gb, 0, none⟩) 4 4] 24)).cell 3).trans (intA_at (by omega))
  have HB := hide (hb.alloc hb.size (.cells #[.int .i64 0, .int .i64 0, .int .i64 0, .int .i64 0, .int .i64 0, .int .i64 0, .int .i64 (-1), .slice (some ⟨gb, 0, none⟩) 4 4] 24))
  have CN := hide (name_any 7 _ ((unhide HT).below (unhide HB) (Nat.le_refl _)))
  clear CB hbk hb
  go_wp2_with fail
  refine (unhide CN).mono ?_
  rintro e w2 ⟨rfl, rfl⟩
  clear CN
  go_wp2
  go_ret
  exact ⟨rfl, unhide HB⟩
end Go.Proofs.YtcajhkcopfabpaaDoor.Ev
