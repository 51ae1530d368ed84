/-
  Orbits as a function; what an orbit's numbers share. Pure: no program.
-/
import Derived.Test.YtefjhdllcjjlpaaDoorFoPure
set_option linter.unusedVariables false
set_option linter.unusedSimpArgs false
namespace Go.Proofs.YtefjhdllcjjlpaaDoor.Fo

def orb (x : Int) : List Int := if 0 ≤ x ∧ x ≤ 1114367 then (six (withP x) (near (withP x) far) spec).mergeSort (fun a b => decide (a ≤ b)) else []
theorem orb_is (x : Int) : IsOrbit x (orb x) := by
  by_cases h : 0 ≤ x ∧ x ≤ 1114367
  · unfold orb
    rw [if_pos h]
    refine orbit_of x h.1 h.2 (List.mergeSort_perm _ _) ?_
    have hs := List.pairwise_mergeSort (le := fun a b : Int => decide (a ≤ b)) (fun a b c h1 h2 => by simp at h1 h2 ⊢; omega) (fun a b => by simp; omega) (six (withP x) (near (withP x) far) spec)
    exact hs.imp fun h => by simpa using h
  · unfold orb IsOrbit
    rw [if_neg h, if_neg h]
theorem orb_unique {x : Int} {l : List Int} (h : IsOrbit x l) : l = orb x := orbit_unique h (orb_is x)
theorem mem_orb {x y : Int} : y ∈ orb x ↔ (0 ≤ x ∧ x ≤ 1114367) ∧ 0 ≤ y ∧ y ≤ 1114367 ∧ withP y = withP x := by
  have h := orb_is x
  unfold IsOrbit at h
  split at h
  · rename_i hx
    rw [h.2 y]
    exact ⟨fun k => ⟨hx, k⟩, fun k => k.2⟩
  · rename_i hx
    rw [h]
    simp
    intro h1 h2
    exact absurd ⟨h1, h2⟩ hx
theorem orb_self {x : Int} (h0 : 0 ≤ x) (h1 : x ≤ 1114367) : x ∈ orb x := mem_orb.2 ⟨⟨h0, h1⟩, h0, h1, rfl⟩
theorem orb_rises (x : Int) : (orb x).Pairwise (· < ·) := by
  have h := orb_is x
  unfold IsOrbit at h
  split at h
  · exact h.1
  · rw [h]; exact List.Pairwise.nil
theorem orb_shared {x y : Int} (h : y ∈ orb x) : orb y = orb x := by
  obtain ⟨hx, h0, h1, hw⟩ := mem_orb.1 h
  refine sorted_unique (orb_rises y) (orb_rises x) fun z => ?_
  rw [mem_orb, mem_orb, hw]
  exact ⟨fun k => ⟨hx, k.2⟩, fun k => ⟨⟨h0, h1⟩, k.2⟩⟩
/-- the least of an orbit; the number itself, if there is none -/
def foldZ (x : Int) : Int := (orb x).headD x
theorem foldZ_shared {x y : Int} (h : y ∈ orb x) : foldZ y = foldZ x := by
  unfold foldZ
  rw [orb_shared h]
  cases ho : orb x with
  | nil => rw [ho] at h; cases h
  | cons a t => rfl
theorem foldZ_mem {x : Int} (h0 : 0 ≤ x) (h1 : x ≤ 1114367) : foldZ x ∈ orb x := by
  unfold foldZ
  have h := orb_self h0 h1
  cases ho : orb x with
  | nil => rw [ho] at h; cases h
  | cons a t => simp
/-- in range, two folds are one just if the orbits are -/
theorem foldZ_eq {x y : Int} (hx : 0 ≤ x ∧ x ≤ 1114367) (hy : 0 ≤ y ∧ y ≤ 1114367) : foldZ x = foldZ y ↔ y ∈ orb x := by
  constructor
  · intro h
    have h1 := foldZ_mem hx.1 hx.2
    have h2 := foldZ_mem hy.1 hy.2
    rw [h] at h1
    have e := (orb_shared h1).symm.trans (orb_shared h2)
    rw [e]
    exact orb_self hy.1 hy.2
  · intro h; exact (foldZ_shared h).symm
theorem foldZ_out {x : Int} (h : ¬ (0 ≤ x ∧ x ≤ 1114367)) : orb x = [] ∧ foldZ x = x := by
  have : orb x = [] := by unfold orb; rw [if_neg h]
  exact ⟨this, by unfold foldZ; rw [this]; rfl⟩
theorem anchor_orb : orb 107 = [75, 107, 8490] := by
  refine (orb_unique ?_).symm
  unfold IsOrbit
  rw [if_pos (by omega)]
  refine ⟨by decide, fun y => ?_⟩
  have hw : withP 107 = 107 := by decide
  rw [hw]
  constructor
  · intro h
    simp at h
    rcases h with rfl | rfl | rfl <;> decide
  · rintro ⟨h0, h1, h2⟩
    rcases withP_cases y with h3 | ⟨f, hf, h3⟩
    · simp [spec] at h3
      rcases h3 with rfl | rfl | rfl | rfl | rfl | rfl <;> first | (revert h2; decide) | simp
    · have hy : y = 107 - f := by omega
      simp [far] at hf
      rcases hf with rfl | rfl | rfl | rfl | rfl | rfl | rfl <;> subst hy <;> first | (revert h2; decide) | simp
end Go.Proofs.YtefjhdllcjjlpaaDoor.Fo
