/-
  code.Count's right, walked; IndexFunc and ContainsFunc at counts and sets; code.named. Condition: counts and sets lie in memory.
-/
import Derived.Test.YtiaelaepfhiabaaDoorCoIdx
set_option linter.unusedVariables false
set_option linter.unusedSimpArgs false
namespace Go.Proofs.YtiaelaepfhiabaaDoor.Co
open Go.RowKit Go.Proofs.YtiaelaepfhiabaaDoor.Mem Go.Proofs.YtiaelaepfhiabaaDoor.Rs
attribute [local go_sem] run_not_true run_not_false
abbrev Cn := Int × Int × Int

set_option maxHeartbeats 2000000 in
theorem rightc_unb (lo md : Int) (w : World) : Calls Tryd.prog 26 #[.agg #[.int .i64 lo, .int .i64 (-1), .int .i64 md]] w fun e w' => e = .returned (.bool (rightC (lo, -1, md))) ∧ Below w.heap.size w w' := by
  go_enter Tryd.func26, Tryd.ntmps26
  go_wp2_with fail
  refine (within_any lo 0 1000 _).mono ?_
  rintro e w1 ⟨rfl, rfl⟩
  cases q : withinB lo 0 1000
  · have Q := hide q
    clear q
    go_wp2_with fail
    all_goals
      go_ret
      exact ⟨by simp_all [rightC, unhide Q] <;> omega, below_al (Below.refl _ _) (Nat.le_refl _) _⟩
  · have Q := hide q
    clear q
    go_wp2_with fail
    all_goals
      go_ret
      exact ⟨by simp_all [rightC, unhide Q] <;> omega, below_al (Below.refl _ _) (Nat.le_refl _) _⟩
set_option maxHeartbeats 2000000 in
theorem rightc_bnd (lo hi md : Int) (hx : (hi == -1) = false) (w : World) : Calls Tryd.prog 26 #[.agg #[.int .i64 lo, .int .i64 hi, .int .i64 md]] w fun e w' => e = .returned (.bool (rightC (lo, hi, md))) ∧ Below w.heap.size w w' := by
  have HNE := hide (beq_eq_false_iff_ne.1 hx)
  go_enter Tryd.func26, Tryd.ntmps26
  go_wp2_with fail
  refine (within_any hi (max 1 lo) 1000 _).mono ?_
  rintro e w1 ⟨rfl, rfl⟩
  cases q : withinB hi (max 1 lo) 1000
  · have Q := hide q
    clear q
    go_wp2_with fail
    all_goals
      go_ret
      exact ⟨by simp [rightC, unhide Q, unhide HNE], below_al (Below.refl _ _) (Nat.le_refl _) _⟩
  · have Q := hide q
    clear q
    go_wp2_with fail
    refine (within_any lo 0 1000 _).mono ?_
    rintro e w1 ⟨rfl, rfl⟩
    cases q2 : withinB lo 0 1000
    · have Q2 := hide q2
      clear q2
      go_wp2_with fail
      all_goals
        go_ret
        exact ⟨by simp [rightC, unhide Q, unhide Q2, unhide HNE], below_al (Below.refl _ _) (Nat.le_refl _) _⟩
    · have Q2 := hide q2
      clear q2
      go_wp2_with fail
      all_goals
        go_ret
        exact ⟨by simp_all [rightC, unhide Q, unhide Q2, unhide HNE] <;> omega, below_al (Below.refl _ _) (Nat.le_refl _) _⟩
theorem rightc_any (c : Cn) (w : World) : Calls Tryd.prog 26 #[.agg #[.int .i64 c.1, .int .i64 c.2.1, .int .i64 c.2.2]] w fun e w' => e = .returned (.bool (rightC c)) ∧ Below w.heap.size w w' := by
  obtain ⟨lo, hi, md⟩ := c
  dsimp only
  by_cases h : hi = -1
  · subst h; exact rightc_unb lo md w
  · exact rightc_bnd lo hi md (beq_eq_false_iff_ne.2 h) w
set_option maxHeartbeats 1000000 in
theorem wrongc_any (c : Cn) (w : World) : Calls Tryd.prog 25 #[.agg #[.int .i64 c.1, .int .i64 c.2.1, .int .i64 c.2.2]] w fun e w' => e = .returned (.bool (!rightC c)) ∧ Below w.heap.size w w' := by
  go_enter Tryd.func25, Tryd.ntmps25
  go_wp2_with fail
  refine (rightc_any c _).mono ?_
  rintro e w1 ⟨rfl, hb⟩
  have HB := hide hb
  clear hb
  cases q : rightC c
  all_goals
    have Q := hide q
    clear q
    go_wp2_with fail
    go_ret
    exact ⟨by simp [unhide Q], (below_al (Below.refl _ _) (Nat.le_refl _) _).trans ((unhide HB).mono (by simp))⟩
set_option maxHeartbeats 1000000 in
theorem wrongs_any (s : List R) (A : Option Addr) (cap : Nat) (w : World) (hlen : s.length ≤ 8796093021952) (hcap : s.length ≤ cap) (h : Lst w w.heap.size A s) : Calls Tryd.prog 23 #[.slice A s.length cap] w fun e w' => e = .returned (.bool (!decide (Least s))) ∧ Below w.heap.size w w' := by
  have H := hide (right_any s A cap w hlen hcap h)
  clear h
  go_enter Tryd.func23, Tryd.ntmps23
  go_wp2_with fail
  refine (unhide H).mono ?_
  rintro e w1 ⟨rfl, hb⟩
  have HB := hide hb
  clear hb
  cases q : decide (Least s)
  all_goals
    have Q := hide q
    clear q
    go_wp2_with fail
    go_ret
    exact ⟨by rw [unhide Q]; rfl, unhide HB⟩
end Go.Proofs.YtiaelaepfhiabaaDoor.Co
