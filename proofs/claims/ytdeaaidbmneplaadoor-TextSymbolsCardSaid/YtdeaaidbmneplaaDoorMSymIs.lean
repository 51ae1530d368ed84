/-
  Is a number a symbol: sym.Is and the reference's Is, walked at every number; sym.isRaw.
-/
import Derived.Test.YtdeaaidbmneplaaDoorMPuB
import Derived.Test.YtdeaaidbmneplaaDoorMSymMem
import Derived.Test.YtdeaaidbmneplaaDoorProg
import Derived.WalkKit
set_option linter.unusedSimpArgs false
set_option linter.unusedVariables false
namespace Go.Proofs.YtdeaaidbmneplaaDoor.Is
open Go.RowKit Go.Proofs.YtdeaaidbmneplaaDoor.Sy Go.Proofs.YtdeaaidbmneplaaDoor.Mem
theorem ret_bool {a b : Bool} (h : a = b) : Ending.returned (.bool a) = .returned (.bool b) := by rw [h]
set_option maxHeartbeats 400000 in
theorem is_a (x : Int) (w : World) (h1 : x < 0) : Calls Tryd.prog 34 #[.int .i64 x] w fun e w' => e = .returned (.bool false) ∧ w' = w := by
  go_enter Tryd.func34, Tryd.ntmps34
  go_wp2
  go_ret
  first
    | exact ⟨rfl, rfl⟩
    | exact ⟨ret_bool (decide_eq_false (by omega)), rfl⟩
    | exact ⟨ret_bool (decide_eq_true (by omega)), rfl⟩
    | (refine ⟨ret_bool (?_ : (_ || _) = false), rfl⟩; simp <;> omega)
set_option maxHeartbeats 400000 in
theorem is_b (x : Int) (w : World) (h1 : 0 ≤ x) (h2 : x ≤ 55295) : Calls Tryd.prog 34 #[.int .i64 x] w fun e w' => e = .returned (.bool true) ∧ w' = w := by
  go_enter Tryd.func34, Tryd.ntmps34
  go_wp2
  go_ret
  first
    | exact ⟨rfl, rfl⟩
    | exact ⟨ret_bool (decide_eq_false (by omega)), rfl⟩
    | exact ⟨ret_bool (decide_eq_true (by omega)), rfl⟩
    | (refine ⟨ret_bool (?_ : (_ || _) = false), rfl⟩; simp <;> omega)
set_option maxHeartbeats 400000 in
theorem is_c (x : Int) (w : World) (h1 : 55296 ≤ x) (h2 : x ≤ 57343) : Calls Tryd.prog 34 #[.int .i64 x] w fun e w' => e = .returned (.bool false) ∧ w' = w := by
  go_enter Tryd.func34, Tryd.ntmps34
  go_wp2
  go_ret
  first
    | exact ⟨rfl, rfl⟩
    | exact ⟨ret_bool (decide_eq_false (by omega)), rfl⟩
    | exact ⟨ret_bool (decide_eq_true (by omega)), rfl⟩
    | (refine ⟨ret_bool (?_ : (_ || _) = false), rfl⟩; simp <;> omega)
set_option maxHeartbeats 400000 in
theorem is_d (x : Int) (w : World) (h1 : 57344 ≤ x) (h2 : x ≤ 1114111) : Calls Tryd.prog 34 #[.int .i64 x] w fun e w' => e = .returned (.bool true) ∧ w' = w := by
  go_enter Tryd.func34, Tryd.ntmps34
  go_wp2
  go_ret
  first
    | exact ⟨rfl, rfl⟩
    | exact ⟨ret_bool (decide_eq_false (by omega)), rfl⟩
    | exact ⟨ret_bool (decide_eq_true (by omega)), rfl⟩
    | (refine ⟨ret_bool (?_ : (_ || _) = false), rfl⟩; simp <;> omega)
set_option maxHeartbeats 400000 in
theorem is_e (x : Int) (w : World) (h1 : 1114112 ≤ x) (h2 : x ≤ 1114239) : Calls Tryd.prog 34 #[.int .i64 x] w fun e w' => e = .returned (.bool false) ∧ w' = w := by
  go_enter Tryd.func34, Tryd.ntmps34
  go_wp2
  go_ret
  first
    | exact ⟨rfl, rfl⟩
    | exact ⟨ret_bool (decide_eq_false (by omega)), rfl⟩
    | exact ⟨ret_bool (decide_eq_true (by omega)), rfl⟩
    | (refine ⟨ret_bool (?_ : (_ || _) = false), rfl⟩; simp <;> omega)
set_option maxHeartbeats 400000 in
theorem is_f (x : Int) (w : World) (h1 : 1114240 ≤ x) (h2 : x ≤ 1114367) : Calls Tryd.prog 34 #[.int .i64 x] w fun e w' => e = .returned (.bool true) ∧ w' = w := by
  go_enter Tryd.func34, Tryd.ntmps34
  go_wp2
  go_ret
  first
    | exact ⟨rfl, rfl⟩
    | exact ⟨ret_bool (decide_eq_false (by omega)), rfl⟩
    | exact ⟨ret_bool (decide_eq_true (by omega)), rfl⟩
    | (refine ⟨ret_bool (?_ : (_ || _) = false), rfl⟩; simp <;> omega)
set_option maxHeartbeats 400000 in
theorem is_g (x : Int) (w : World) (h1 : 1114368 ≤ x) : Calls Tryd.prog 34 #[.int .i64 x] w fun e w' => e = .returned (.bool false) ∧ w' = w := by
  go_enter Tryd.func34, Tryd.ntmps34
  go_wp2
  go_ret
  first
    | exact ⟨rfl, rfl⟩
    | exact ⟨ret_bool (decide_eq_false (by omega)), rfl⟩
    | exact ⟨ret_bool (decide_eq_true (by omega)), rfl⟩
    | (refine ⟨ret_bool (?_ : (_ || _) = false), rfl⟩; simp <;> omega)
theorem is_any (x : Int) (w : World) : Calls Tryd.prog 34 #[.int .i64 x] w fun e w' => e = .returned (.bool (isS x)) ∧ w' = w := by
  have ht : ∀ {q : Prop} [Decidable q], q → decide q = true := fun h => decide_eq_true h
  have hf : ∀ {q : Prop} [Decidable q], ¬ q → decide q = false := fun h => decide_eq_false h
  unfold isS
  by_cases g0 : x < 0
  · rw [hf (by omega)]; exact is_a x w (by omega)
  by_cases g1 : x ≤ 55295
  · rw [ht (by omega)]; exact is_b x w (by omega) (by omega)
  by_cases g2 : x ≤ 57343
  · rw [hf (by omega)]; exact is_c x w (by omega) (by omega)
  by_cases g3 : x ≤ 1114111
  · rw [ht (by omega)]; exact is_d x w (by omega) (by omega)
  by_cases g4 : x ≤ 1114239
  · rw [hf (by omega)]; exact is_e x w (by omega) (by omega)
  by_cases g5 : x ≤ 1114367
  · rw [ht (by omega)]; exact is_f x w (by omega) (by omega)
  rw [hf (by omega)]; exact is_g x w (by omega)
set_option maxHeartbeats 400000 in
theorem raw_a (x : Int) (w : World) (h1 : x < 0) : Calls Tryd.prog 44 #[.int .i64 x] w fun e w' => e = .returned (.bool false) ∧ w' = w := by
  go_enter Tryd.func44, Tryd.ntmps44
  go_wp2
  go_ret
  first
    | exact ⟨rfl, rfl⟩
    | exact ⟨ret_bool (decide_eq_false (by omega)), rfl⟩
    | exact ⟨ret_bool (decide_eq_true (by omega)), rfl⟩
    | (refine ⟨ret_bool (?_ : (_ || _) = false), rfl⟩; simp <;> omega)
set_option maxHeartbeats 400000 in
theorem raw_b (x : Int) (w : World) (h1 : 0 ≤ x) (h2 : x ≤ 55295) : Calls Tryd.prog 44 #[.int .i64 x] w fun e w' => e = .returned (.bool false) ∧ w' = w := by
  go_enter Tryd.func44, Tryd.ntmps44
  go_wp2
  go_ret
  first
    | exact ⟨rfl, rfl⟩
    | exact ⟨ret_bool (decide_eq_false (by omega)), rfl⟩
    | exact ⟨ret_bool (decide_eq_true (by omega)), rfl⟩
    | (refine ⟨ret_bool (?_ : (_ || _) = false), rfl⟩; simp <;> omega)
set_option maxHeartbeats 400000 in
theorem raw_c (x : Int) (w : World) (h1 : 55296 ≤ x) (h2 : x ≤ 57343) : Calls Tryd.prog 44 #[.int .i64 x] w fun e w' => e = .returned (.bool false) ∧ w' = w := by
  go_enter Tryd.func44, Tryd.ntmps44
  go_wp2
  go_ret
  first
    | exact ⟨rfl, rfl⟩
    | exact ⟨ret_bool (decide_eq_false (by omega)), rfl⟩
    | exact ⟨ret_bool (decide_eq_true (by omega)), rfl⟩
    | (refine ⟨ret_bool (?_ : (_ || _) = false), rfl⟩; simp <;> omega)
set_option maxHeartbeats 400000 in
theorem raw_d (x : Int) (w : World) (h1 : 57344 ≤ x) (h2 : x ≤ 1114111) : Calls Tryd.prog 44 #[.int .i64 x] w fun e w' => e = .returned (.bool false) ∧ w' = w := by
  go_enter Tryd.func44, Tryd.ntmps44
  go_wp2
  go_ret
  first
    | exact ⟨rfl, rfl⟩
    | exact ⟨ret_bool (decide_eq_false (by omega)), rfl⟩
    | exact ⟨ret_bool (decide_eq_true (by omega)), rfl⟩
    | (refine ⟨ret_bool (?_ : (_ || _) = false), rfl⟩; simp <;> omega)
set_option maxHeartbeats 400000 in
theorem raw_e (x : Int) (w : World) (h1 : 1114112 ≤ x) (h2 : x ≤ 1114239) : Calls Tryd.prog 44 #[.int .i64 x] w fun e w' => e = .returned (.bool false) ∧ w' = w := by
  go_enter Tryd.func44, Tryd.ntmps44
  go_wp2
  go_ret
  first
    | exact ⟨rfl, rfl⟩
    | exact ⟨ret_bool (decide_eq_false (by omega)), rfl⟩
    | exact ⟨ret_bool (decide_eq_true (by omega)), rfl⟩
    | (refine ⟨ret_bool (?_ : (_ || _) = false), rfl⟩; simp <;> omega)
set_option maxHeartbeats 400000 in
theorem raw_f (x : Int) (w : World) (h1 : 1114240 ≤ x) (h2 : x ≤ 1114367) : Calls Tryd.prog 44 #[.int .i64 x] w fun e w' => e = .returned (.bool true) ∧ w' = w := by
  go_enter Tryd.func44, Tryd.ntmps44
  go_wp2
  go_ret
  first
    | exact ⟨rfl, rfl⟩
    | exact ⟨ret_bool (decide_eq_false (by omega)), rfl⟩
    | exact ⟨ret_bool (decide_eq_true (by omega)), rfl⟩
    | (refine ⟨ret_bool (?_ : (_ || _) = false), rfl⟩; simp <;> omega)
set_option maxHeartbeats 400000 in
theorem raw_g (x : Int) (w : World) (h1 : 1114368 ≤ x) : Calls Tryd.prog 44 #[.int .i64 x] w fun e w' => e = .returned (.bool false) ∧ w' = w := by
  go_enter Tryd.func44, Tryd.ntmps44
  go_wp2
  go_ret
  first
    | exact ⟨rfl, rfl⟩
    | exact ⟨ret_bool (decide_eq_false (by omega)), rfl⟩
    | exact ⟨ret_bool (decide_eq_true (by omega)), rfl⟩
    | (refine ⟨ret_bool (?_ : (_ || _) = false), rfl⟩; simp <;> omega)
theorem raw_any (x : Int) (w : World) : Calls Tryd.prog 44 #[.int .i64 x] w fun e w' => e = .returned (.bool (isRaw x)) ∧ w' = w := by
  have ht : ∀ {q : Prop} [Decidable q], q → decide q = true := fun h => decide_eq_true h
  have hf : ∀ {q : Prop} [Decidable q], ¬ q → decide q = false := fun h => decide_eq_false h
  unfold isRaw
  by_cases g0 : x < 0
  · rw [hf (by omega)]; exact raw_a x w (by omega)
  by_cases g1 : x ≤ 55295
  · rw [hf (by omega)]; exact raw_b x w (by omega) (by omega)
  by_cases g2 : x ≤ 57343
  · rw [hf (by omega)]; exact raw_c x w (by omega) (by omega)
  by_cases g3 : x ≤ 1114111
  · rw [hf (by omega)]; exact raw_d x w (by omega) (by omega)
  by_cases g4 : x ≤ 1114239
  · rw [hf (by omega)]; exact raw_e x w (by omega) (by omega)
  by_cases g5 : x ≤ 1114367
  · rw [ht (by omega)]; exact raw_f x w (by omega) (by omega)
  rw [hf (by omega)]; exact raw_g x w (by omega)
end Go.Proofs.YtdeaaidbmneplaaDoor.Is
