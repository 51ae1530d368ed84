/-
  fold.Orbit, Fold, Same, walked: a number's orbit, rising; the least of it.
-/
import Derived.Deep.DeepMust
import Derived.Test.YtdeaaidbmneplaaDoorMFoUps
import Derived.Test.YtdeaaidbmneplaaDoorMFoB
set_option linter.unusedSimpArgs false
set_option linter.unusedVariables false
namespace Go.Proofs.YtdeaaidbmneplaaDoor.Fo
open Go.RowKit Go.Shelf Go.Proofs.YtdeaaidbmneplaaDoor.Mem
def KB (B Bs : Nat) (k : Nat) : Prop := k < B ∨ k = Bs
end Go.Proofs.YtdeaaidbmneplaaDoor.Fo
