/-
  The reference's within and Names, walked.
-/
import Derived.Test.YtdeaaidbmneplaaDoorMClEnds
import Derived.Test.YtdeaaidbmneplaaDoorProg
import Derived.LoopTactic
import Derived.Lib.Walk
import Derived.IntWalk
import Derived.KernelRfl
import Derived.Outline
import Derived.Deep.CutRange
import Derived.Deep.WholeRow
set_option linter.unusedSimpArgs false
set_option linter.unusedVariables false
namespace Go.Proofs.YtdeaaidbmneplaaDoor.Cl
open Go.RowKit Go.Proofs.YtdeaaidbmneplaaDoor.Mem
set_option maxHeartbeats 1000000 in
theorem within_any (x a b : Int) (w : World) : Calls Tryd.prog 49 #[.int .i64 x, .int .i64 a, .int .i64 b] w fun e w' => e = .returned (.bool (wi x a b)) ∧ w' = w := by
  unfold wi
  by_cases h : a ≤ x
  · go_enter Tryd.func49, Tryd.ntmps49
    go_wp2
    go_ret
    exact ⟨ret_b (by simp [h]), rfl⟩
  · have h' : x < a := by omega
    go_enter Tryd.func49, Tryd.ntmps49
    go_wp2
    go_ret
    exact ⟨ret_b (by simp; omega), rfl⟩
def namesA : Array Value := (nmB.map str).toArray
theorem namesA_at {k : Nat} {n : List UInt8} (h : nmB[k]? = some n) : namesA[k]? = some (str n) := by
  unfold namesA
  rw [List.getElem?_toArray, List.getElem?_map, h]
  rfl
def zeroA : Array Value := Array.replicate 14 (.string ⟨#[]⟩)
theorem build_names (w : World) : Sem.run Tryd.prog (Instr.build 79 #[(0, .string ⟨#[97, 108, 110, 117, 109]⟩), (1, .string ⟨#[97, 108, 112, 104, 97]⟩), (2, .string ⟨#[97, 115, 99, 105, 105]⟩), (3, .string ⟨#[98, 108, 97, 110, 107]⟩), (4, .string ⟨#[99, 110, 116, 114, 108]⟩), (5, .string ⟨#[100, 105, 103, 105, 116]⟩), (6, .string ⟨#[103, 114, 97, 112, 104]⟩), (7, .string ⟨#[108, 111, 119, 101, 114]⟩), (8, .string ⟨#[112, 114, 105, 110, 116]⟩), (9, .string ⟨#[112, 117, 110, 99, 116]⟩), (10, .string ⟨#[115, 112, 97, 99, 101]⟩), (11, .string ⟨#[117, 112, 112, 101, 114]⟩), (12, .string ⟨#[119, 111, 114, 100]⟩), (13, .string ⟨#[120, 100, 105, 103, 105, 116]⟩)]) w = .ok (.agg namesA) w := run_build w 79 _ _ (by kernel_rfl)
theorem zero_names : (∀ w, (zeroValue 79).run Tryd.prog w = .ok (.agg zeroA) w) ∧ (Tryd.prog.info? 79).map (·.size) = some 14 := zero_of_info (by kernel_rfl)
theorem store_names (w : World) : (storeCells ⟨w.heap.size, 0, none⟩ namesA.toList 0).run Tryd.prog (w.alloc (.cells zeroA 79)) = .ok () (w.alloc (.cells namesA 79)) :=
  run_storeCells_new w 79 zeroA namesA zero_names.2 rfl (by decide +kernel)
theorem store_names' (w : World) : (Instr.storeAt 79 (.pointer (some ⟨w.heap.size, 0, none⟩)) (.agg namesA)).run Tryd.prog (w.alloc (.cells zeroA 79)) = .ok () (w.alloc (.cells namesA 79)) :=
  run_storeAt_new w 79 zeroA namesA zero_names.2 rfl (by decide +kernel)
set_option maxRecDepth 100000 in
set_option maxHeartbeats 1000000 in
theorem names_any (w : World) : Calls Tryd.prog 50 #[] w fun e w' => e = .returned (.agg namesA) ∧ Below w.heap.size w w' := by
  have h1 := build_names
  have h2 := zero_names.1
  have h3 := store_names w
  have h4 := store_names' w
  go_enter Tryd.func50, Tryd.ntmps50
  go_wp2
  exact bodyPost_ret (results_cell_row rfl _ _ w.heap.size 79 namesA (0, 0) _ rfl (heap_alloc_new w _) Tryd.underlying79 rfl (by kernel_rfl)) rfl ⟨rfl, (Below.refl _ _).alloc (Nat.le_refl _) _⟩
end Go.Proofs.YtdeaaidbmneplaaDoor.Cl
