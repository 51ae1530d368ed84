/-
  The law's digits at every int. No other condition.
-/
import Derived.Test.YtiaelaepfhiabaaDoorCoDigits
set_option linter.unusedVariables false
set_option linter.unusedSimpArgs false
namespace Go.Proofs.YtiaelaepfhiabaaDoor.Co
open Go.RowKit Go.Proofs.YtiaelaepfhiabaaDoor.Mem Go.Proofs.YtiaelaepfhiabaaDoor.Rs
attribute [local go_sem] run_not_true run_not_false
attribute [local go_sem high] s_add

theorem itoa_least : Lib.itoa (-9223372036854775808) = [45, 57, 50, 50, 51, 51, 55, 50, 48, 51, 54, 56, 53, 52, 55, 55, 53, 56, 48, 56] := by
  unfold Lib.itoa
  rw [if_pos (by decide)]
  simp [dec_step]
theorem itoa_neg {n : Int} (h : n < 0) : Lib.itoa n = 45 :: Lib.decDigits n.natAbs := by unfold Lib.itoa; rw [if_pos h]
theorem itoa_pos {n : Nat} : Lib.itoa (n : Int) = Lib.decDigits n := by unfold Lib.itoa; rw [if_neg (by omega)]; rfl
set_option maxRecDepth 100000 in
set_option maxHeartbeats 4000000 in
/-- **digits**. -/
theorem digits_any (n : Int) (w : World) (h0 : -9223372036854775808 ≤ n) (h1 : n ≤ 9223372036854775807) : Calls Tryd.prog 10 #[.int .i64 n] w fun e w' => e = .returned (.string ⟨(Lib.itoa n).toArray⟩) ∧ w' = w := by
  by_cases hl : n = -9223372036854775808
  · subst hl
    rw [itoa_least]
    clear h0 h1
    go_enter Tryd.func10, Tryd.ntmps10
    go_wp2
    go_ret
    exact ⟨rfl, rfl⟩
  by_cases hn : n < 0
  · obtain ⟨m, rfl⟩ : ∃ m : Nat, n = -(m : Int) := ⟨n.natAbs, by omega⟩
    have hm : (m : Int) ≤ 9223372036854775807 := by omega
    have HD := hide (digits_pos m w hm)
    have HE := hide (show Lib.itoa (-(m : Int)) = cat [45] (Lib.decDigits m) by rw [itoa_neg hn]; simp [cat])
    have HSM := (show Small [45] (Lib.decDigits m) by
      have := dec_len 18 m (by have : (10 : Nat) ^ 19 = 10000000000000000000 := by decide
                               omega)
      unfold Small
      rw [List.length_singleton]
      omega)
    have e0 : (-(m : Int) == -9223372036854775808) = false := by rw [beq_eq_false_iff_ne]; exact hl
    have e2 : IntKind.i64.wrap (m : Int) = (m : Int) := wrap_id _ (by omega) (by omega)
    have e3 : wrap64 (m : Int) = (m : Int) := by rw [← IntWalk.i64_left]; exact e2
    have e4 : -(m : Int) < 0 := hn
    clear hl hn h0 h1 hm
    go_enter Tryd.func10, Tryd.ntmps10
    go_wp2_with fail
    refine (unhide HD).mono ?_
    rintro e w1 ⟨rfl, rfl⟩
    go_wp2_with fail
    go_ret
    exact ⟨by rw [unhide HE]; rfl, rfl⟩
  · obtain ⟨m, rfl⟩ : ∃ m : Nat, n = (m : Int) := ⟨n.toNat, by omega⟩
    rw [itoa_pos]
    exact digits_pos m w h1
end Go.Proofs.YtiaelaepfhiabaaDoor.Co
