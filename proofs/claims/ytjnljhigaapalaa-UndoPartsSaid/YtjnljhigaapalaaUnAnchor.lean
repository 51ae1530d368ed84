/-
  The document's example, walked. No conditions.
-/
import Derived.Test.YtjnljhigaapalaaUnNew
import Derived.Test.YtjnljhigaapalaaUnSet
import Derived.Test.YtjnljhigaapalaaUnPart
import Derived.Test.YtjnljhigaapalaaUnUndo
set_option linter.unusedVariables false
set_option linter.unusedSimpArgs false
namespace Go.Proofs.Ytjnljhigaapalaa.Un
open Go.RowKit Go.Proofs.Ytjnljhigaapalaa.Mem
theorem bv_get {K : Nat → Prop} {base bb : Nat} {ns : List Int} {tr : List Ch} {w : World} (h : BV K base bb ns tr w) (k : Nat) (x : Int) (hx : ns[k]? = some x) : Calls Try.prog 18 #[.pointer (some ⟨bb, 0, none⟩), .int .i64 (k : Int)] w fun e w' => e = .returned (.tuple #[.int .i64 x, .bool true]) ∧ w' = w := by
  obtain ⟨nb, tv, h⟩ := h
  exact get_in h k x hx
theorem bv_out {K : Nat → Prop} {base bb : Nat} {ns : List Int} {tr : List Ch} {w : World} (h : BV K base bb ns tr w) (i : Int) (hi : hasB ns i = false) : Calls Try.prog 18 #[.pointer (some ⟨bb, 0, none⟩), .int .i64 i] w fun e w' => e = .returned (.tuple #[.int .i64 0, .bool false]) ∧ w' = w := by
  obtain ⟨nb, tv, h⟩ := h
  exact get_out h i hi
theorem bv_mark {K : Nat → Prop} {base bb : Nat} {ns : List Int} {tr : List Ch} {w : World} (h : BV K base bb ns tr w) : Calls Try.prog 13 #[.pointer (some ⟨bb, 0, none⟩)] w fun e w' => e = .returned (.int .i64 (tr.length : Int)) ∧ w' = w := by
  obtain ⟨nb, tv, h⟩ := h
  exact mark_any h
theorem bv_len {K : Nat → Prop} {base bb : Nat} {ns : List Int} {tr : List Ch} {w : World} (h : BV K base bb ns tr w) : Calls Try.prog 14 #[.pointer (some ⟨bb, 0, none⟩)] w fun e w' => e = .returned (.int .i64 (ns.length : Int)) ∧ w' = w := by
  obtain ⟨nb, tv, h⟩ := h
  exact len_any h
set_option maxRecDepth 100000 in
set_option maxHeartbeats 2000000 in
theorem anchor_any (w : World) : Calls Try.prog 6 #[] w fun e w' => e = .returned (.bool true) ∧ Below w.heap.size w w' := by
  have C0 := hide (new_in (fun k => k < w.heap.size) w.heap.size 2 0 w (by omega) (fun k h => h) (fun k h => h) (Nat.le_refl _))
  go_enter Try.func6, Try.ntmps6
  go_wp2_with fail
  refine (unhide C0).mono ?_
  rintro e w1 ⟨⟨bb, rfl, h1⟩, hb1⟩
  have h1' : BV (fun k => k < w.heap.size) w.heap.size bb [0, 0] [] w1 := h1
  have C1 := hide (set_any h1' 1 5 (by simp))
  have HB1 := hide (Keep.of_below hb1 (fun k (h : k < w.heap.size) => h))
  clear C0 h1 h1' hb1
  go_wp2_with fail
  refine (unhide C1).mono ?_
  rintro e w2 ⟨rfl, h2, k2⟩
  have h2' : BV (fun k => k < w.heap.size) w.heap.size bb [0, 5] [(1, 0)] w2 := h2
  have C2 := hide (set_any h2' 1 5 (by simp))
  have HB2 := hide ((unhide HB1).trans k2)
  clear C1 h2 h2' k2 HB1
  go_wp2_with fail
  refine (unhide C2).mono ?_
  rintro e w3 ⟨rfl, h3, k3⟩
  have h3' : BV (fun k => k < w.heap.size) w.heap.size bb [0, 5] [(1, 0)] w3 := h3
  have C3 := hide (set_any h3' 0 2 (by simp))
  have HB3 := hide ((unhide HB2).trans k3)
  clear C2 h3 h3' k3 HB2
  go_wp2_with fail
  refine (unhide C3).mono ?_
  rintro e w4 ⟨rfl, h4, k4⟩
  have h4' : BV (fun k => k < w.heap.size) w.heap.size bb [2, 5] [(1, 0), (0, 0)] w4 := h4
  have C4 := hide (bv_mark h4')
  have C5 := hide (undo_any h4' 1 (by simp))
  have HB4 := hide ((unhide HB3).trans k4)
  clear C3 h4 h4' k4 HB3
  go_wp2_with fail
  refine (unhide C4).mono ?_
  rintro e w5 ⟨rfl, rfl⟩
  clear C4
  go_wp2_with fail
  refine (unhide C5).mono ?_
  rintro e w6 ⟨rfl, h6, k6⟩
  have h6' : BV (fun k => k < w.heap.size) w.heap.size bb [0, 5] [(1, 0)] w6 := h6
  have C6 := hide (bv_get h6' 0 0 rfl)
  have C7 := hide (bv_get h6' 1 5 rfl)
  have HB6 := hide ((unhide HB4).trans k6)
  clear C5 h6 h6' k6 HB4
  go_wp2_with fail
  refine (unhide C6).mono ?_
  rintro e w7 ⟨rfl, rfl⟩
  clear C6
  go_wp2_with fail
  refine (unhide C7).mono ?_
  rintro e w8 ⟨rfl, rfl⟩
  clear C7
  go_wp2
  go_ret
  exact ⟨rfl, (unhide HB6).below fun k h => h⟩
end Go.Proofs.Ytjnljhigaapalaa.Un
