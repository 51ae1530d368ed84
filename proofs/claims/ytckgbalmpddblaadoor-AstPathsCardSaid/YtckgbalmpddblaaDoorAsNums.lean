/-
  numbersOf, walked; two arrays of five ints compared; how many the kids are, and what goes with them. No conditions.
-/
import Derived.DeepKeys
import Derived.Deep.WholeRow
import Derived.Laws.Tables
import Derived.Test.YtckgbalmpddblaaDoorAsEq
set_option linter.unusedVariables false
set_option linter.unusedSimpArgs false
namespace Go.Proofs.YtckgbalmpddblaaDoor.As
open Go.Shelf Go.RowKit Go.Proofs.YtckgbalmpddblaaDoor.Mem Go.Proofs.YtckgbalmpddblaaDoor.Rs

abbrev five (a b c d e : Int) : Array Value := #[.int .i64 a, .int .i64 b, .int .i64 c, .int .i64 d, .int .i64 e]
theorem build_numbers (a b c d e : Int) (w : World) : Sem.run Tryd.prog (Instr.build 65 #[(0, .int .i64 a), (1, .int .i64 b), (2, .int .i64 c), (3, .int .i64 d), (4, .int .i64 e)]) w = .ok (.agg (five a b c d e)) w := run_build w 65 _ _ (by kernel_rfl)
theorem zero_numbers : (∀ w, (zeroValue 65).run Tryd.prog w = .ok (.agg (five 0 0 0 0 0)) w) ∧ (Tryd.prog.info? 65).map (·.size) = some 5 := zero_of_info (by kernel_rfl)
set_option maxRecDepth 100000 in
set_option maxHeartbeats 1000000 in
/-- **numbersOf** -/
theorem nums_any (nd : Nd) (s : Value) (K : Option Addr) (m ck : Nat) (w : World) : Calls Tryd.prog 36 #[.agg #[.int .i64 nd.kind, .int .i64 nd.from_, .int .i64 nd.to_, .int .i64 nd.num, .int .i64 nd.mn, .int .i64 nd.mx, .int .i64 nd.mode, str nd.name, s, .slice K m ck]] w fun e w' => e = .returned (.agg (five nd.num nd.mn nd.mx nd.mode m)) ∧ Below w.heap.size w w' := by
  have h2 := zero_numbers.1
  go_enter Tryd.func36, Tryd.ntmps36
  go_wp2
  refine bodyPost_ret (results_cell_row rfl _ _ (w.heap.size + 1) 65 (five nd.num nd.mn nd.mx nd.mode m) (0, 0) _ rfl (by simpa using heap_alloc_new (w.alloc _) _) Tryd.underlying65 rfl (by kernel_rfl)) rfl ⟨rfl, ((Below.refl _ _).alloc (Nat.le_refl _) _).alloc (by simp) _⟩
theorem eqIn_five (a b c d e a' b' c' d' e' : Int) (w : World) : Sem.run Tryd.prog (Op.equalIn 10000 65 (.agg (five a b c d e)) (.agg (five a' b' c' d' e'))) w = .ok (decide (a = a' ∧ b = b' ∧ c = c' ∧ d = d' ∧ e = e')) w := by
  have u3 := Tryd.underlying3
  have a3 := Tryd.isAgg3
  have z3 := Tryd.sizeOf3
  obtain ⟨i0, hi0⟩ := Option.isSome_iff_exists.1 (show (Tryd.prog.info? 3).isSome = true by kernel_rfl)
  rw [show (10000 : Nat) = 9999 + 1 from rfl, run_equalIn_array w 9999 _ _ Tryd.underlying65 hi0]
  rw [show Tryd.prog.cellsOf 3 = 1 by kernel_rfl, show List.range 5 = [0, 1, 2, 3, 4] from rfl]
  simp only [Op.eqItems]
  go_simp
  by_cases h1 : a = a' <;> by_cases h2 : b = b' <;> by_cases h3 : c = c' <;> by_cases h4 : d = d' <;> by_cases h5 : e = e' <;> simp [h1, h2, h3, h4, h5]
theorem guard_five (op : BinOp) (x y : Operand) (a b c d e a' b' c' d' e' : Int) (w : World) : Sem.run Tryd.prog (eqGuard op 65 x y (.agg (five a b c d e)) (.agg (five a' b' c' d' e'))) w = .ok () w := run_eqGuard_agg w op 65 x y _ _ (by kernel_rfl)
end Go.Proofs.YtckgbalmpddblaaDoor.As
