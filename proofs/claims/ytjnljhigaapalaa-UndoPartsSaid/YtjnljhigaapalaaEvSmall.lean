/-
  The small functions of layer event, walked (within, wrong, capsOf, Name, numbersOf); how a state and its places lie. Conditions: the table of names holds what the program's text lays.
-/
import Derived.Test.YtjnljhigaapalaaSymMem
import Derived.Test.YtjnljhigaapalaaProg
import Derived.DeepKeys
import Derived.Deep.WholeRow
import Derived.Laws.Tables
import Derived.IntWalk
import Derived.LoopTactic
import Derived.RegionTactic
import Derived.BigQuiet
import Derived.Deep.QuietTactic
import Derived.KernelRfl
set_option linter.unusedVariables false
set_option linter.unusedSimpArgs false
namespace Go.Proofs.Ytjnljhigaapalaa.Ev
open Go.RowKit Go.Proofs.Ytjnljhigaapalaa.Mem
structure CV (l : List Int) (A : Option Addr) (cap : Nat) (w : World) : Prop where
  room : l.length ≤ cap
  top : cap ≤ 9223372036854775807
  reads : Reads w w.heap.size 1 A l.length (l.map Mem.i64)
theorem CV.below {l : List Int} {A : Option Addr} {cap : Nat} {w w' : World} (h : CV l A cap w) (hb : Below w.heap.size w w') : CV l A cap w' := ⟨h.room, h.top, (h.reads.below hb).more hb.size⟩
theorem ret_b {a b : Bool} (h : a = b) : Ending.returned (.bool a) = .returned (.bool b) := by rw [h]
theorem below_box (w : World) (o : Obj) : Below w.heap.size w (w.alloc o) := (Below.refl _ _).alloc (Nat.le_refl _) _
theorem run_not_true {P : Program} (w : World) : Sem.run P (Op.unary UnOp.not (.bool true)) w = .ok (.bool false) w := rfl
theorem run_not_false {P : Program} (w : World) : Sem.run P (Op.unary UnOp.not (.bool false)) w = .ok (.bool true) w := rfl
section
end
end Go.Proofs.Ytjnljhigaapalaa.Ev
