/-
  code.around, walked. Condition: the instructions lie in memory, the place is one of theirs.
-/
import Derived.Test.YtiaelaepfhiabaaDoorCoWay
import Derived.Deep.QuietTactic
import Derived.BigQuiet
set_option linter.unusedVariables false
set_option linter.unusedSimpArgs false
namespace Go.Proofs.YtiaelaepfhiabaaDoor.Co
open Go.RowKit Go.Proofs.YtiaelaepfhiabaaDoor.Mem Go.Proofs.YtiaelaepfhiabaaDoor.Rs
attribute [local go_sem] run_not_true run_not_false

set_option maxHeartbeats 2000000 in
theorem around_any (l : List In) (v2 v3 : Value) (A : Option Addr) (c : Nat) (g t : Int) (a : Nat) (ia : In) (w : World) (ha : l[a]? = some ia) (hl : (l.length : Int) ≤ 9000000000000000000) (h : Ins w w.heap.size A l) :
    Calls Tryd.prog 46 #[.agg #[.slice A l.length c, v2, v3, .int .i64 g], .int .i64 (a : Int), .int .i64 t] w fun e w' => e = .returned (.bool (aroundB l a t)) ∧ Below w.heap.size w w' := by
  have hlt : a < l.length := (List.getElem?_eq_some_iff.1 ha).1
  have hw : IntKind.i64.wrap ((a : Int) - 1) = (a : Int) - 1 := wrap_id _ (by omega) (by omega)
  unfold aroundB
  cases hq : withinB t 0 ((a : Int) - 1)
  · have H := hide hq
    clear h hq
    go_enter Tryd.func46, Tryd.ntmps46
    go_wp2_with fail
    refine (within_any t 0 _ _).mono ?_
    rintro e w1 ⟨rfl, rfl⟩
    rw [unhide H]
    go_wp2_with fail
    go_ret
    exact ⟨rfl, (below_al (Below.refl _ _) (Nat.le_refl _) _)⟩
  · have hk2 : ∃ k : Nat, t = (k : Int) ∧ k < a := by
      simp [withinB] at hq
      exact ⟨t.toNat, by omega, by omega⟩
    obtain ⟨k, rfl, hka⟩ := hk2
    obtain ⟨i, hk⟩ : ∃ i, l[k]? = some i := ⟨l[k]'(by omega), List.getElem?_eq_getElem _⟩
    obtain ⟨b, off, rfl, hb, hc⟩ := h (by omega)
    have C := hide (hc k i hk)
    have CA := hide (hc a ia ha).2.1
    have H := hide hq
    rw [show (k : Int).toNat = k from rfl, getD_at hk, getD_at ha]
    clear hc hq h
    obtain ⟨op, x, y, z, nd, ph⟩ := i
    dsimp only at C ⊢
    have hal : ∀ j : Nat, ((w.alloc (.cells #[.slice (some ⟨b, off, none⟩) l.length c, v2, v3, .int .i64 g] 26)).alloc (.cells #[.int .i64 op, .int .i64 x, .int .i64 y, .int .i64 z, .int .i64 nd, .int .i64 ph] 37)).cell? ⟨b, j, none⟩ = w.cell? ⟨b, j, none⟩ := fun j => (World.cell?_alloc_lt _ _ ⟨b, j, none⟩ (by simp; omega)).trans (World.cell?_alloc_lt w _ ⟨b, j, none⟩ hb)
    have ca := (hal (off + a * 6 + 1)).trans (unhide CA)
    have hal1 : ∀ j : Nat, (w.alloc (.cells #[.slice (some ⟨b, off, none⟩) l.length c, v2, v3, .int .i64 g] 26)).cell? ⟨b, j, none⟩ = w.cell? ⟨b, j, none⟩ := fun j => (World.cell?_alloc_lt w _ ⟨b, j, none⟩ hb)
    obtain ⟨c0, c1, c2, c3, c4, c5⟩ := unhide C
    replace c0 := (hal1 _).trans c0
    replace c1 := (hal1 _).trans c1
    replace c2 := (hal1 _).trans c2
    replace c3 := (hal1 _).trans c3
    replace c4 := (hal1 _).trans c4
    replace c5 := (hal1 _).trans c5
    clear hal hal1 C CA
    generalize ia.x = xa at *
    have e8 : ((op == 8) = true) ∨ ((op == 8) = false) := by cases (op == 8) <;> simp
    have ex : ((x == xa) = true) ∨ ((x == xa) = false) := by cases (x == xa) <;> simp
    have ey : (decide ((a : Int) < y) = true) ∨ (decide ((a : Int) < y) = false) := by cases decide ((a : Int) < y) <;> simp
    rcases e8 with e8 | e8
    · rcases ex with ex | ex
      · rcases ey with ey | ey
        all_goals
          go_enter Tryd.func46, Tryd.ntmps46
          go_wp2_with fail
          refine (within_any _ 0 _ _).mono ?_
          rintro e w1 ⟨rfl, rfl⟩
          rw [unhide H]
          go_wp2_with fail
          go_quiet (fail)
          go_wp2_with fail
          go_ret
          exact ⟨by simp only [e8, ex, ey]; try rfl, below_drewN (below_al (below_al (Below.refl _ _) (Nat.le_refl _) _) (by simp) _) _⟩
      · clear ey
        go_enter Tryd.func46, Tryd.ntmps46
        go_wp2_with fail
        refine (within_any _ 0 _ _).mono ?_
        rintro e w1 ⟨rfl, rfl⟩
        rw [unhide H]
        go_wp2_with fail
        go_quiet (fail)
        go_wp2_with fail
        go_ret
        exact ⟨by simp only [e8, ex]; try rfl, below_drewN (below_al (below_al (Below.refl _ _) (Nat.le_refl _) _) (by simp) _) _⟩
    · clear ex ey
      go_enter Tryd.func46, Tryd.ntmps46
      go_wp2_with fail
      refine (within_any _ 0 _ _).mono ?_
      rintro e w1 ⟨rfl, rfl⟩
      rw [unhide H]
      go_wp2_with fail
      go_quiet (fail)
      go_wp2_with fail
      go_ret
      exact ⟨by simp only [e8]; try rfl, below_drewN (below_al (below_al (Below.refl _ _) (Nat.le_refl _) _) (by simp) _) _⟩
end Go.Proofs.YtiaelaepfhiabaaDoor.Co
