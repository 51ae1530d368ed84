/-
  clewref11.in, ahead, way, walked. Condition: the instructions lie in memory.
-/
import Derived.Test.YtiaelaepfhiabaaDoorCoWay
import Derived.Test.YtiaelaepfhiabaaDoorCoFits1
import Derived.Test.YtiaelaepfhiabaaDoorCoAround
set_option linter.unusedVariables false
set_option linter.unusedSimpArgs false
namespace Go.Proofs.YtiaelaepfhiabaaDoor.Co
open Go.RowKit Go.Proofs.YtiaelaepfhiabaaDoor.Mem Go.Proofs.YtiaelaepfhiabaaDoor.Rs
attribute [local go_sem] run_not_true run_not_false

set_option maxHeartbeats 1000000 in
theorem rin_any (x a b : Int) (w : World) : Calls Tryd.prog 17 #[.int .i64 x, .int .i64 a, .int .i64 b] w fun e w' => e = .returned (.bool (withinB x a b)) ∧ w' = w := by
  unfold withinB
  by_cases h1 : a ≤ x <;> by_cases h2 : x ≤ b
  all_goals
    go_enter Tryd.func17, Tryd.ntmps17
    go_wp2
    go_ret
    exact ⟨by simp [h1, h2], rfl⟩
set_option maxHeartbeats 1000000 in
theorem rahead_any (v2 v3 : Value) (A : Option Addr) (n c : Nat) (g a t : Int) (w : World) : Calls Tryd.prog 35 #[.agg #[.slice A n c, v2, v3, .int .i64 g], .int .i64 a, .int .i64 t] w fun e w' => e = .returned (.bool (decide (a < t) && decide (t < n))) ∧ Below w.heap.size w w' := by
  by_cases h1 : a < t <;> by_cases h2 : t < n
  all_goals
    go_enter Tryd.func35, Tryd.ntmps35
    go_wp2
    go_ret
    exact ⟨by simp [h1, h2], below_al (Below.refl _ _) (Nat.le_refl _) _⟩

set_option maxHeartbeats 1000000 in
theorem rway_any (l : List In) (v2 v3 : Value) (A : Option Addr) (c : Nat) (g a t : Int) (w : World) (ha : 0 ≤ a) (h : Ins w w.heap.size A l) : Calls Tryd.prog 34 #[.agg #[.slice A l.length c, v2, v3, .int .i64 g], .int .i64 a, .int .i64 t] w fun e w' => e = .returned (.bool (wayB l a t)) ∧ Below w.heap.size w w' := by
  unfold wayB
  cases hq : aheadB l a t
  · have H := hide hq
    clear h hq
    go_enter Tryd.func34, Tryd.ntmps34
    go_wp2_with fail
    refine (rahead_any v2 v3 A l.length c g a t _).mono ?_
    rintro e w1 ⟨rfl, hb⟩
    have hq := unhide H
    unfold aheadB at hq
    rw [hq]
    clear hq
    have HB := hide hb
    clear hb
    go_wp2_with fail
    go_ret
    exact ⟨rfl, (below_al (Below.refl _ _) (Nat.le_refl _) _).trans ((unhide HB).mono (by simp))⟩
  · obtain ⟨k, i, rfl, hk, hlt⟩ := aheadB_at ha hq
    obtain ⟨b, off, rfl, hb, hc⟩ := h (by omega)
    have C := hide (hc k i hk).1
    have H := hide hq
    have eo : opAt l (k : Int) = i.op := by simp [opAt, List.getD, hk]
    rw [eo]
    clear hc hq h eo
    go_enter Tryd.func34, Tryd.ntmps34
    go_wp2_with fail
    refine (rahead_any v2 v3 _ l.length c g a k _).mono ?_
    rintro e w1 ⟨rfl, hb1⟩
    have hq := unhide H
    unfold aheadB at hq
    rw [hq]
    clear hq
    have cb : w1.cell? ⟨w.heap.size, 0, none⟩ = some (.slice (some ⟨b, off, none⟩) l.length c) := (hb1.cell (p := ⟨w.heap.size, 0, none⟩) (by simp)).trans (by rw [World.cell?_alloc_new]; rfl)
    have cc : w1.cell? ⟨b, off + k * 6, none⟩ = some (.int .i64 i.op) := (hb1.cell (p := ⟨b, off + k * 6, none⟩) (by simp; omega)).trans ((World.cell?_alloc_lt w _ ⟨b, off + k * 6, none⟩ hb).trans (unhide C))
    have HB := hide hb1
    clear hb1 C H
    by_cases h5 : i.op = 5
    all_goals
      go_wp2_with fail
      go_ret
      exact ⟨by simp [h5], (below_al (Below.refl _ _) (Nat.le_refl _) _).trans ((unhide HB).mono (by simp))⟩

theorem raheadL_any (l : List In) (v2 v3 : Value) (A : Option Addr) (c : Nat) (g a t : Int) (w : World) : Calls Tryd.prog 35 #[.agg #[.slice A l.length c, v2, v3, .int .i64 g], .int .i64 a, .int .i64 t] w fun e w' => e = .returned (.bool (aheadB l a t)) ∧ Below w.heap.size w w' := rahead_any v2 v3 A l.length c g a t w
end Go.Proofs.YtiaelaepfhiabaaDoor.Co
