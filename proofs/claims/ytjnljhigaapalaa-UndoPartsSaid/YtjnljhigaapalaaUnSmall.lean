/-
  Len, Mark, has and Get of a book, walked. No conditions but that the book lies in memory.
-/
import Derived.Test.YtjnljhigaapalaaUnMem
import Derived.Test.YtjnljhigaapalaaProg
import Derived.WalkKit
import Derived.WalkHide
import Derived.KernelRfl
set_option linter.unusedVariables false
set_option linter.unusedSimpArgs false
namespace Go.Proofs.Ytjnljhigaapalaa.Un
open Go.RowKit Go.Proofs.Ytjnljhigaapalaa.Mem
open Go.Proofs.Ytjnljhigaapalaa.Ev (intA own_reads own_below ret_b run_not_true run_not_false)
section
variable {K : Nat → Prop} {base bb nb : Nat} {tv : Value} {ns : List Int} {tr : List Ch} {w : World}
set_option maxHeartbeats 400000 in
theorem len_any (h : BX K base bb nb tv ns tr w) : Calls Try.prog 14 #[.pointer (some ⟨bb, 0, none⟩)] w fun e w' => e = .returned (.int .i64 (ns.length : Int)) ∧ w' = w := by
  obtain ⟨c0, c1⟩ := cells2 h.box
  generalize ns.length = n at *
  clear h
  go_enter Try.func14, Try.ntmps14
  go_wp2
  go_ret
  exact ⟨rfl, rfl⟩
set_option maxHeartbeats 400000 in
theorem mark_any (h : BX K base bb nb tv ns tr w) : Calls Try.prog 13 #[.pointer (some ⟨bb, 0, none⟩)] w fun e w' => e = .returned (.int .i64 (tr.length : Int)) ∧ w' = w := by
  obtain ⟨A, cap, rfl, -, -, -⟩ := own_reads h.trail
  obtain ⟨c0, c1⟩ := cells2 h.box
  clear h
  go_enter Try.func13, Try.ntmps13
  go_wp2
  go_ret
  exact ⟨rfl, rfl⟩
set_option maxHeartbeats 400000 in
theorem has_any (h : BX K base bb nb tv ns tr w) (i : Int) : Calls Try.prog 20 #[.pointer (some ⟨bb, 0, none⟩), .int .i64 i] w fun e w' => e = .returned (.bool (hasB ns i)) ∧ w' = w := by
  have C := hide (len_any h)
  clear h
  by_cases h0 : i < 0
  · have HE := hide (show false = hasB ns i by unfold hasB; simp; omega)
    have d0 : decide (0 ≤ i) = false := by simp; omega
    go_enter Try.func20, Try.ntmps20
    go_wp2
    go_ret
    exact ⟨ret_b (unhide HE), rfl⟩
  · have HE := hide (show decide (i < (ns.length : Int)) = hasB ns i by unfold hasB; simp; omega)
    have d0 : decide (0 ≤ i) = true := by simp; omega
    generalize ns.length = n at *
    go_enter Try.func20, Try.ntmps20
    go_wp2_with fail
    refine (unhide C).mono ?_
    rintro e w1 ⟨rfl, rfl⟩
    go_wp2
    go_ret
    exact ⟨ret_b (unhide HE), rfl⟩
set_option maxHeartbeats 800000 in
theorem get_in (h : BX K base bb nb tv ns tr w) (k : Nat) (x : Int) (hx : ns[k]? = some x) : Calls Try.prog 18 #[.pointer (some ⟨bb, 0, none⟩), .int .i64 (k : Int)] w fun e w' => e = .returned (.tuple #[.int .i64 x, .bool true]) ∧ w' = w := by
  have hk := (List.getElem?_eq_some_iff.1 hx).1
  have C := hide (has_any h (k : Int))
  rw [show hasB ns (k : Int) = true by unfold hasB; simp; omega] at C
  obtain ⟨c0, c1⟩ := cells2 h.box
  have c2 := h.num hx
  have hki : (k : Int) < (ns.length : Int) := by omega
  generalize ns.length = n at *
  clear h hx
  go_enter Try.func18, Try.ntmps18
  go_wp2_with fail
  refine (unhide C).mono ?_
  rintro e w1 ⟨rfl, rfl⟩
  go_wp2
  go_ret2
  exact ⟨rfl, rfl⟩
set_option maxHeartbeats 800000 in
theorem get_out (h : BX K base bb nb tv ns tr w) (i : Int) (hi : hasB ns i = false) : Calls Try.prog 18 #[.pointer (some ⟨bb, 0, none⟩), .int .i64 i] w fun e w' => e = .returned (.tuple #[.int .i64 0, .bool false]) ∧ w' = w := by
  have C := hide (has_any h i)
  rw [hi] at C
  clear h hi
  go_enter Try.func18, Try.ntmps18
  go_wp2_with fail
  refine (unhide C).mono ?_
  rintro e w1 ⟨rfl, rfl⟩
  go_wp2
  go_ret2
  exact ⟨rfl, rfl⟩
end
end Go.Proofs.Ytjnljhigaapalaa.Un
