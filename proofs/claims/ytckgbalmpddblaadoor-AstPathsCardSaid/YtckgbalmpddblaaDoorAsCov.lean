/-
  covers, walked: are another node's bytes within a node's? No conditions.
-/
import Derived.Test.YtckgbalmpddblaaDoorAsBack
set_option linter.unusedVariables false
set_option linter.unusedSimpArgs false
namespace Go.Proofs.YtckgbalmpddblaaDoor.As
open Go.RowKit Go.Proofs.YtckgbalmpddblaaDoor.Mem Go.Proofs.YtckgbalmpddblaaDoor.Rs
set_option maxRecDepth 100000 in
set_option maxHeartbeats 2000000 in
theorem covers_any (a b : Nd) (s1 k1 s2 k2 : Value) (w : World) :
    Calls Tryd.prog 34 #[.agg #[.int .i64 a.kind, .int .i64 a.from_, .int .i64 a.to_, .int .i64 a.num, .int .i64 a.mn, .int .i64 a.mx, .int .i64 a.mode, str a.name, s1, k1], .agg #[.int .i64 b.kind, .int .i64 b.from_, .int .i64 b.to_, .int .i64 b.num, .int .i64 b.mn, .int .i64 b.mx, .int .i64 b.mode, str b.name, s2, k2]] w fun e w' => e = .returned (.bool (covB a b)) ∧ Below w.heap.size w w' := by
  have HB := hide (((Below.refl w.heap.size w).alloc (Nat.le_refl _) (.cells #[.int .i64 a.kind, .int .i64 a.from_, .int .i64 a.to_, .int .i64 a.num, .int .i64 a.mn, .int .i64 a.mx, .int .i64 a.mode, str a.name, s1, k1] 42)).alloc (by simp) (.cells #[.int .i64 b.kind, .int .i64 b.from_, .int .i64 b.to_, .int .i64 b.num, .int .i64 b.mn, .int .i64 b.mx, .int .i64 b.mode, str b.name, s2, k2] 42))
  by_cases h1 : a.from_ ≤ b.from_
  · have e1 : decide (a.from_ ≤ b.from_) = true := by simpa using h1
    obtain ⟨q, hq⟩ : ∃ q, decide (b.to_ ≤ a.to_) = q := ⟨_, rfl⟩
    have HR := hide (show covB a b = q from by unfold covB; rw [e1, hq, Bool.true_and])
    clear h1
    go_enter Tryd.func34, Tryd.ntmps34
    go_wp2_with fail
    go_ret
    exact ⟨by rw [unhide HR]; rfl, unhide HB⟩
  · have e1 : decide (a.from_ ≤ b.from_) = false := by simpa using h1
    have HR := hide (show covB a b = false from by unfold covB; rw [e1, Bool.false_and])
    clear h1
    go_enter Tryd.func34, Tryd.ntmps34
    go_wp2_with fail
    go_ret
    exact ⟨by rw [unhide HR]; rfl, unhide HB⟩
end Go.Proofs.YtckgbalmpddblaaDoor.As
