/-
  rset.Of, walked.
-/
import Derived.Test.YthhgbanhoogmfaaDoorRsMake
set_option linter.unusedVariables false
set_option linter.unusedSimpArgs false
namespace Go.Proofs.YthhgbanhoogmfaaDoor.Rs
open Go.RowKit Go.Proofs.YthhgbanhoogmfaaDoor.Mem

set_option maxHeartbeats 1000000 in
theorem of_any (x : Int) (w : World) : Calls Tryd.prog 28 #[.int .i64 x] w fun e w' => ∃ v, e = .returned v ∧ Cut w (ofL x) v w' := by
  have hl : Lst (w.alloc (.cells #[.int .i64 x, .int .i64 x] 42)) (w.alloc (.cells #[.int .i64 x, .int .i64 x] 42)).heap.size (some ⟨w.heap.size, 0, none⟩) [(x, x)] :=
    Lst.of_reads ((reads_new w #[.int .i64 x, .int .i64 x] 42 1 2 rfl).more (by simp))
  have HL := hide hl
  clear hl
  go_enter Tryd.func28, Tryd.ntmps28
  go_wp2_with fail
  refine (make_any [(x, x)] (some ⟨w.heap.size, 0, none⟩) 1 _ (by simp) (by simp) (unhide HL)).mono ?_
  rintro e w1 ⟨v1, rfl, hcut⟩
  have HC := hide hcut
  clear hcut
  go_wp2
  go_ret
  refine ⟨_, rfl, own_lower (unhide HC).1 (by simp), ?_⟩
  exact (below_al (Below.refl _ _) (Nat.le_refl _) _).trans ((unhide HC).2.mono (by simp))
end Go.Proofs.YthhgbanhoogmfaaDoor.Rs
