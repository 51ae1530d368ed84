/-
  rset.overlap, rset.empty, rset.within, walked.
-/
import Derived.Test.YtdeaaidbmneplaaDoorMRsMem
import Derived.Laws.Tables
import Derived.IntWalk
set_option linter.unusedSimpArgs false
set_option linter.unusedVariables false
namespace Go.Proofs.YtdeaaidbmneplaaDoor.Rs
open Go.RowKit Go.Proofs.YtdeaaidbmneplaaDoor.Mem
theorem build_range (a b : Int) (w : World) : Sem.run Tryd.prog (Instr.build 44 #[(0, .int .i64 a), (1, .int .i64 b)]) w = .ok (.agg #[.int .i64 a, .int .i64 b]) w := run_build w 44 _ _ (by kernel_rfl)
end Go.Proofs.YtdeaaidbmneplaaDoor.Rs
