/-
  clewref11's named, walked, an Op a theorem (). Condition: the instructions lie in memory, the place is one of theirs.
-/
import Derived.Test.YtiaelaepfhiabaaDoorCoRWay
import Derived.StillTailTactics
set_option linter.unusedVariables false
set_option linter.unusedSimpArgs false
namespace Go.Proofs.YtiaelaepfhiabaaDoor.Co
open Go.RowKit Go.Proofs.YtiaelaepfhiabaaDoor.Mem Go.Proofs.YtiaelaepfhiabaaDoor.Rs
attribute [local go_sem] run_not_true run_not_false
theorem rboxes {w w1 : World} {v1 v2 v3 v4 : Value} {k x y z nd ph : Int} (hb : Below ((w.alloc (.cells #[v1, v2, v3, v4] 33)).alloc (.cells #[.int .i64 k, .int .i64 x, .int .i64 y, .int .i64 z, .int .i64 nd, .int .i64 ph] 48)).heap.size ((w.alloc (.cells #[v1, v2, v3, v4] 33)).alloc (.cells #[.int .i64 k, .int .i64 x, .int .i64 y, .int .i64 z, .int .i64 nd, .int .i64 ph] 48)) w1) :
    (w1.cell? ⟨w.heap.size, 0, none⟩ = some v1 ∧ w1.cell? ⟨w.heap.size, 1, none⟩ = some v2 ∧ w1.cell? ⟨w.heap.size, 2, none⟩ = some v3 ∧ w1.cell? ⟨w.heap.size, 3, none⟩ = some v4) ∧ (w1.cell? ⟨w.heap.size + 1, 1, none⟩ = some (.int .i64 x) ∧ w1.cell? ⟨w.heap.size + 1, 2, none⟩ = some (.int .i64 y) ∧ w1.cell? ⟨w.heap.size + 1, 3, none⟩ = some (.int .i64 z)) := by
  have k1 := ((Blk.new w 33 #[v1, v2, v3, v4]).alloc (.cells #[.int .i64 k, .int .i64 x, .int .i64 y, .int .i64 z, .int .i64 nd, .int .i64 ph] 48)).below hb (by simp; omega)
  have k2 : Blk w1 (w.heap.size + 1) 48 #[.int .i64 k, .int .i64 x, .int .i64 y, .int .i64 z, .int .i64 nd, .int .i64 ph] := Blk.below (g := w.heap.size + 1) (by simpa using Blk.new (w.alloc (.cells #[v1, v2, v3, v4] 33)) 48 #[.int .i64 k, .int .i64 x, .int .i64 y, .int .i64 z, .int .i64 nd, .int .i64 ph]) hb (by simp)
  exact ⟨⟨k1.cell 0, k1.cell 1, k1.cell 2, k1.cell 3⟩, k2.cell 1, k2.cell 2, k2.cell 3⟩
theorem y01 (y : Int) : withinB y 0 1 = (y == 0 || y == 1) := by
  rw [Bool.eq_iff_iff]
  simp [withinB]
  omega
section
variable (l : List In) (As Al : Option Addr) (A : Option Addr) (c ns cs nk ck : Nat) (g : Int) (a : Nat) (w : World)
end
end Go.Proofs.YtiaelaepfhiabaaDoor.Co
