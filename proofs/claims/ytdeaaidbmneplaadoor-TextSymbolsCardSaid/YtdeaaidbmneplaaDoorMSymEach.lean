/-
  sym.each and its closure, walked: a function value that hands every symbol of the bytes, with where it begins,
-/
import Derived.RangeFuncBox
import Derived.RangeFuncNested
import Derived.RangeFuncLeaves
import Derived.RangeFuncBound
import Derived.RangeFuncCalls
import Derived.Shelf.Abstract
import Derived.Shelf.RegionOpen
import Derived.OwnWalkIn
import Derived.TacticsInMore
import Derived.LoopNIn
import Derived.LoopIn
import Derived.Test.YtdeaaidbmneplaaDoorMSymAt
set_option linter.unusedSimpArgs false
set_option linter.unusedVariables false
namespace Go.Proofs.YtdeaaidbmneplaaDoor.Each
open Go.RowKit Go.Shelf Go.Proofs.YtdeaaidbmneplaaDoor.Sy Go.Proofs.YtdeaaidbmneplaaDoor.Mem Go.Proofs.YtdeaaidbmneplaaDoor.Utf Go.Proofs.YtdeaaidbmneplaaDoor.At
def Stays (K : Nat → Prop) (A B : World) : Prop := ∀ k, K k → B.heap[k]? = A.heap[k]?
theorem Stays.refl (K : Nat → Prop) (A : World) : Stays K A A := fun _ _ => rfl
theorem Stays.trans {K : Nat → Prop} {A B C : World} (h : Stays K A B) (k : Stays K B C) : Stays K A C := fun i hi => (k i hi).trans (h i hi)
theorem Stays.cell {K : Nat → Prop} {A B : World} (h : Stays K A B) {p : Addr} (hp : K p.block) : B.cell? p = A.cell? p := World.cell?_of_block (w := A) (h _ hp)
theorem Stays.tabs {K : Nat → Prop} {A B : World} (h : Stays K A B) (h0 : K 0) (h1 : K 1) (hT : Tabs A) : Tabs B :=
  ⟨fun c hc => (h.cell (p := ⟨0, c, none⟩) h0).trans (hT.1 c hc),
   fun i hi => ⟨(h.cell (p := ⟨1, 2 * i, none⟩) h1).trans (hT.2 i hi).1, (h.cell (p := ⟨1, 2 * i + 1, none⟩) h1).trans (hT.2 i hi).2⟩⟩
end Go.Proofs.YtdeaaidbmneplaaDoor.Each
