/-
  code.loop, ahead, way, around, bears, walked. Condition: the instructions lie in memory.
-/
import Derived.Test.YtiaelaepfhiabaaDoorCoSmall
set_option linter.unusedVariables false
set_option linter.unusedSimpArgs false
namespace Go.Proofs.YtiaelaepfhiabaaDoor.Co
open Go.RowKit Go.Proofs.YtiaelaepfhiabaaDoor.Mem Go.Proofs.YtiaelaepfhiabaaDoor.Rs
attribute [local go_sem] run_not_true run_not_false

set_option maxHeartbeats 1000000 in
theorem loop_any (v1 v2 : Value) (A : Option Addr) (n c : Nat) (g x : Int) (w : World) (hn : (n : Int) ≤ 9000000000000000000) : Calls Tryd.prog 45 #[.agg #[v1, v2, .slice A n c, .int .i64 g], .int .i64 x] w fun e w' => e = .returned (.bool (withinB x 0 ((n : Int) - 1))) ∧ Below w.heap.size w w' := by
  have hw : IntKind.i64.wrap ((n : Int) - 1) = (n : Int) - 1 := wrap_id _ (by omega) (by omega)
  go_enter Tryd.func45, Tryd.ntmps45
  go_wp2_with fail
  refine (within_any x 0 _ _).mono ?_
  rintro e w1 ⟨rfl, rfl⟩
  go_wp2
  go_ret
  exact ⟨rfl, below_al (Below.refl _ _) (Nat.le_refl _) _⟩

set_option maxHeartbeats 1000000 in
theorem ahead_any (v2 v3 : Value) (A : Option Addr) (n c : Nat) (g a t : Int) (w : World) : Calls Tryd.prog 44 #[.agg #[.slice A n c, v2, v3, .int .i64 g], .int .i64 a, .int .i64 t] w fun e w' => e = .returned (.bool (decide (a < t) && decide (t < n))) ∧ Below w.heap.size w w' := by
  by_cases h1 : a < t <;> by_cases h2 : t < n
  all_goals
    go_enter Tryd.func44, Tryd.ntmps44
    go_wp2
    go_ret
    exact ⟨by simp [h1, h2], below_al (Below.refl _ _) (Nat.le_refl _) _⟩

theorem aheadB_at {l : List In} {a t : Int} (ha : 0 ≤ a) (h : aheadB l a t = true) : ∃ (k : Nat) (i : In), t = (k : Int) ∧ l[k]? = some i ∧ k < l.length := by
  simp [aheadB] at h
  exact ⟨t.toNat, l[t.toNat]'(by omega), by omega, List.getElem?_eq_getElem _, by omega⟩
set_option maxHeartbeats 1000000 in
theorem way_any (l : List In) (v2 v3 : Value) (A : Option Addr) (c : Nat) (g a t : Int) (w : World) (ha : 0 ≤ a) (h : Ins w w.heap.size A l) : Calls Tryd.prog 43 #[.agg #[.slice A l.length c, v2, v3, .int .i64 g], .int .i64 a, .int .i64 t] w fun e w' => e = .returned (.bool (wayB l a t)) ∧ Below w.heap.size w w' := by
  unfold wayB
  cases hq : aheadB l a t
  · have H := hide hq
    clear h hq
    go_enter Tryd.func43, Tryd.ntmps43
    go_wp2_with fail
    refine (ahead_any v2 v3 A l.length c g a t _).mono ?_
    rintro e w1 ⟨rfl, hb⟩
    have hq := unhide H
    unfold aheadB at hq
    rw [hq]
    clear hq
    have HB := hide hb
    clear hb
    go_wp2_with fail
    go_ret
    exact ⟨rfl, (below_al (Below.refl _ _) (Nat.le_refl _) _).trans ((unhide HB).mono (by simp))⟩
  · obtain ⟨k, i, rfl, hk, hlt⟩ := aheadB_at ha hq
    obtain ⟨b, off, rfl, hb, hc⟩ := h (by omega)
    have C := hide (hc k i hk).1
    have H := hide hq
    have eo : opAt l (k : Int) = i.op := by simp [opAt, List.getD, hk]
    rw [eo]
    clear hc hq h eo
    go_enter Tryd.func43, Tryd.ntmps43
    go_wp2_with fail
    refine (ahead_any v2 v3 _ l.length c g a k _).mono ?_
    rintro e w1 ⟨rfl, hb1⟩
    have hq := unhide H
    unfold aheadB at hq
    rw [hq]
    clear hq
    have cb : w1.cell? ⟨w.heap.size, 0, none⟩ = some (.slice (some ⟨b, off, none⟩) l.length c) := (hb1.cell (p := ⟨w.heap.size, 0, none⟩) (by simp)).trans (by rw [World.cell?_alloc_new]; rfl)
    have cc : w1.cell? ⟨b, off + k * 6, none⟩ = some (.int .i64 i.op) := (hb1.cell (p := ⟨b, off + k * 6, none⟩) (by simp; omega)).trans ((World.cell?_alloc_lt w _ ⟨b, off + k * 6, none⟩ hb).trans (unhide C))
    have HB := hide hb1
    clear hb1 C H
    by_cases h5 : i.op = 5
    all_goals
      go_wp2_with fail
      go_ret
      exact ⟨by simp [h5], (below_al (Below.refl _ _) (Nat.le_refl _) _).trans ((unhide HB).mono (by simp))⟩

set_option maxHeartbeats 1000000 in
theorem bears_any (op m : Int) (w : World) : Calls Tryd.prog 32 #[.int .i64 op, .int .i64 m] w fun e w' => e = .returned (.bool (bearsB op m)) ∧ w' = w := by
  unfold bearsB
  by_cases h1 : op = 14
  · subst h1
    go_enter Tryd.func32, Tryd.ntmps32
    go_wp2
    go_ret
    exact ⟨by simp, rfl⟩
  by_cases h2 : op = 15
  · subst h2
    go_enter Tryd.func32, Tryd.ntmps32
    go_wp2
    go_ret
    exact ⟨by simp, rfl⟩
  by_cases h3 : op = 16
  · subst h3
    go_enter Tryd.func32, Tryd.ntmps32
    go_wp2
    go_ret
    exact ⟨by simp, rfl⟩
  by_cases h4 : op = 17
  · subst h4
    go_enter Tryd.func32, Tryd.ntmps32
    go_wp2
    go_ret
    exact ⟨by simp, rfl⟩
  by_cases h5 : op = 18
  · subst h5
    go_enter Tryd.func32, Tryd.ntmps32
    go_wp2
    go_ret
    exact ⟨by simp, rfl⟩
  by_cases h6 : op = 19
  · subst h6
    go_enter Tryd.func32, Tryd.ntmps32
    go_wp2
    go_ret
    exact ⟨by simp; try rfl, rfl⟩
  · have e1 : (op == 14) = false := beq_eq_false_iff_ne.2 h1
    have e2 : (op == 15) = false := beq_eq_false_iff_ne.2 h2
    have e3 : (op == 16) = false := beq_eq_false_iff_ne.2 h3
    have e4 : (op == 17) = false := beq_eq_false_iff_ne.2 h4
    have e5 : (op == 18) = false := beq_eq_false_iff_ne.2 h5
    have e6 : (op == 19) = false := beq_eq_false_iff_ne.2 h6
    go_enter Tryd.func32, Tryd.ntmps32
    go_wp2
    go_ret
    exact ⟨by simp [h1, h2, h3, h4, h5, h6], rfl⟩
end Go.Proofs.YtiaelaepfhiabaaDoor.Co
