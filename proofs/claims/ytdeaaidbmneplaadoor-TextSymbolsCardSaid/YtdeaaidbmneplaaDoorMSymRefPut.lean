/-
  The reference's Put, walked: a symbol's bytes in new memory.
-/
import Derived.Test.YtdeaaidbmneplaaDoorMSymPut
set_option linter.unusedSimpArgs false
set_option linter.unusedVariables false
namespace Go.Proofs.YtdeaaidbmneplaaDoor.Put
open Go.RowKit Go.Proofs.YtdeaaidbmneplaaDoor.Sy Go.Proofs.YtdeaaidbmneplaaDoor.Mem
theorem row_lit (w : World) (zs : List Int) (hz : zs.length ≤ 4) : Row zs w (.slice (some ⟨w.heap.size, 0, none⟩) zs.length zs.length) (w.alloc (.cells (zs.map (Value.int .u8)).toArray 5)) := by
  refine ⟨?_, (Below.refl _ _).alloc (Nat.le_refl _) _⟩
  have h := World.ownsRow_lit (base := w.heap.size) (e := 5) (size := 1) w (zs.map (Value.int .u8)).toArray zs.length (Nat.le_refl _) (by unfold maxLen; omega) (by simp)
  simpa using h
def Gives (zs : List Int) (w : World) (e : Ending) (w' : World) : Prop := ∃ v, e = .returned v ∧ Row zs w v w'
set_option maxHeartbeats 1000000 in
theorem ref_raw (x : Int) (h0 : 1114240 ≤ x) (h1 : x ≤ 1114367) (w : World) : Calls Tryd.prog 11 #[.int .i64 x] w (Gives [x - 1114112] w) := by
  have hr := hide (row_lit w [x - 1114112] (by simp))
  go_enter Tryd.func11, Tryd.ntmps11
  go_wp2
  go_ret
  exact ⟨_, rfl, unhide hr⟩
set_option maxHeartbeats 1000000 in
theorem ref_one (x : Int) (h0 : 0 ≤ x) (h1 : x < 128) (w : World) : Calls Tryd.prog 11 #[.int .i64 x] w (Gives [x] w) := by
  have hr := hide (row_lit w [x] (by simp))
  go_enter Tryd.func11, Tryd.ntmps11
  go_wp2
  go_ret
  exact ⟨_, rfl, unhide hr⟩
set_option maxHeartbeats 1000000 in
theorem ref_two (x : Int) (h0 : 128 ≤ x) (h1 : x < 2048) (w : World) : Calls Tryd.prog 11 #[.int .i64 x] w (Gives [192 + x / 64, 128 + x % 64] w) := by
  have hr := hide (row_lit w [192 + x / 64, 128 + x % 64] (by simp))
  go_enter Tryd.func11, Tryd.ntmps11
  go_wp2
  go_ret
  exact ⟨_, rfl, unhide hr⟩
set_option maxHeartbeats 1000000 in
theorem ref_three (x : Int) (h0 : 2048 ≤ x) (h1 : x < 65536) (w : World) : Calls Tryd.prog 11 #[.int .i64 x] w (Gives [224 + x / 4096, 128 + x / 64 % 64, 128 + x % 64] w) := by
  have hr := hide (row_lit w [224 + x / 4096, 128 + x / 64 % 64, 128 + x % 64] (by simp))
  go_enter Tryd.func11, Tryd.ntmps11
  go_wp2
  go_ret
  exact ⟨_, rfl, unhide hr⟩
set_option maxHeartbeats 1000000 in
theorem ref_four (x : Int) (h0 : 65536 ≤ x) (h1 : x ≤ 1114111) (w : World) : Calls Tryd.prog 11 #[.int .i64 x] w (Gives [240 + x / 262144, 128 + x / 4096 % 64, 128 + x / 64 % 64, 128 + x % 64] w) := by
  have hr := hide (row_lit w [240 + x / 262144, 128 + x / 4096 % 64, 128 + x / 64 % 64, 128 + x % 64] (by simp))
  go_enter Tryd.func11, Tryd.ntmps11
  go_wp2
  go_ret
  exact ⟨_, rfl, unhide hr⟩
theorem ref_any (x : Int) (hs : isS x = true) (w : World) : Calls Tryd.prog 11 #[.int .i64 x] w (Gives (encZ x) w) := by
  unfold isS at hs
  simp only [decide_eq_true_eq] at hs
  unfold encZ
  by_cases g : 1114112 ≤ x
  · rw [if_pos g]; exact ref_raw x (by omega) (by omega) w
  rw [if_neg g]
  by_cases g0 : x < 128
  · rw [if_pos g0]; exact ref_one x (by omega) (by omega) w
  rw [if_neg g0]
  by_cases g1 : x < 2048
  · rw [if_pos g1]; exact ref_two x (by omega) (by omega) w
  rw [if_neg g1]
  by_cases g2 : x < 65536
  · rw [if_pos g2]; exact ref_three x (by omega) (by omega) w
  · rw [if_neg g2]; exact ref_four x (by omega) (by omega) w
end Go.Proofs.YtdeaaidbmneplaaDoor.Put
