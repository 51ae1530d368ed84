/-
  == and != at ranges.
-/
import Derived.Laws.StructEq
import Derived.Shelf.Lay
import Derived.Shelf.SlicesQ.Equal
import Derived.Shelf.SlGeneric
import Derived.Test.YtiaelaepfhiabaaDoorRsMem
set_option linter.unusedVariables false
set_option linter.unusedSimpArgs false
namespace Go.Proofs.YtiaelaepfhiabaaDoor.Rs
open Go.Shelf Go.RowKit Go.Proofs.YtiaelaepfhiabaaDoor.Mem

/- == and != at ranges -/
theorem neq_at : NeqAt Tryd.prog 52 (fun x : R => .agg (enc x).toArray) (fun x y => x.1 == y.1 && x.2 == y.2) := by
  refine ⟨fun x y w => ?_, GuardAt.agg _ (by kernel_rfl)⟩
  have u3 := Tryd.underlying3
  have a3 := Tryd.isAgg3
  have z3 := Tryd.sizeOf3
  have hS : Tryd.prog.underlying 52 = some (.struct (Tryd.prog.fieldsOf 52)) := by kernel_rfl
  have hp : Tryd.prog.stoodInHeld 52 = false := by kernel_rfl
  simp only [enc]
  rw [run_neq_struct, show (10000 : Nat) = 9999 + 1 from rfl, run_equalIn_agg w 9999 52 _ _ hS hp]
  simp only [Program.fieldsOf, Tryd.underlying52]
  go_simp
  by_cases h1 : x.fst = y.fst <;> by_cases h2 : x.snd = y.snd <;> simp [h1, h2]
theorem neq_range (a b c d : Int) (w : World) : Sem.run Tryd.prog (binOp .neq 52 (.agg #[.int .i64 a, .int .i64 b]) (.agg #[.int .i64 c, .int .i64 d])) w = .ok (.bool (!(a == c && b == d))) w := Rs.neq_at.1 (a, b) (c, d) w
theorem neq_guard (op : BinOp) (x y : Operand) (a b c d : Int) (w : World) : Sem.run Tryd.prog (eqGuard op 52 x y (.agg #[.int .i64 a, .int .i64 b]) (.agg #[.int .i64 c, .int .i64 d])) w = .ok () w := Rs.neq_at.2 op x y (a, b) (c, d) w
end Go.Proofs.YtiaelaepfhiabaaDoor.Rs
