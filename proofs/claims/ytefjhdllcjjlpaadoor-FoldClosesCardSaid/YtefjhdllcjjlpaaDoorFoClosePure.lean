/-
  Closing a list under orbits: which numbers the closed list stands for; closed again it is the same; how long it gets. Pure: no program.
-/
import Derived.Test.YtefjhdllcjjlpaaDoorFoTab
import Derived.Test.YtefjhdllcjjlpaaDoorRsPure
set_option linter.unusedVariables false
set_option linter.unusedSimpArgs false
namespace Go.Proofs.YtefjhdllcjjlpaaDoor.Fo
open Go.Proofs.YtefjhdllcjjlpaaDoor.Rs

def spansL : List R := U.flatMap fun r => [(r.lo, r.hi), (r.lo + r.far, r.hi + r.far)]
def expand (r : R) : List Int := (List.range (r.2 - r.1 + 1).toNat).map fun i : Nat => r.1 + i
def orbR (x : Int) : List R := (orb x).map fun y => (y, y)
def sameL (m : List R) : List R := m.flatMap fun r => (expand r).flatMap orbR
def closeL (l : List R) : List R := orL l (sameL (andL l spansL))

theorem spans_ok : ∀ r ∈ spansL, 0 ≤ r.1 ∧ r.1 ≤ r.2 ∧ r.2 ≤ 1114367 := by decide +kernel
theorem spans_sum : sumL spansL ≤ 2000 := by decide +kernel
theorem hasL_iff {l : List R} {x : Int} : hasL l x = true ↔ ∃ r ∈ l, inR x r = true := by unfold hasL; rw [List.any_eq_true]
theorem inR_iff {x : Int} {r : R} : inR x r = true ↔ 0 ≤ x ∧ x ≤ 1114367 ∧ r.1 ≤ x ∧ x ≤ r.2 := by simp [inR]
theorem letter_row {x y : Int} (h : withP x = y) (hne : x ≠ y) : ∃ r ∈ U, hasR x r = true ∧ y = x + r.far := by
  have h0 := lowP_eq x
  unfold lowP at h0
  cases h1 : U.find? (hasR x) with
  | some r =>
    rw [h1] at h0
    exact ⟨r, List.mem_of_find?_eq_some h1, List.find?_some h1, by rw [← h]; exact h0.symm⟩
  | none => rw [h1] at h0; exact absurd (h0.trans h) hne
theorem letter_spans {x y : Int} (h : withP x = y) (hne : x ≠ y) : hasL spansL x = true ∧ hasL spansL y = true := by
  obtain ⟨r, hr, hh, rfl⟩ := letter_row h hne
  have hl := letter_of (mem_letters hr hh)
  obtain ⟨k0, k1, _⟩ := has_iff.1 hh
  constructor
  · exact hasL_iff.2 ⟨(r.lo, r.hi), List.mem_flatMap.2 ⟨r, hr, by simp⟩, inR_iff.2 ⟨hl.a0, hl.a1, k0, k1⟩⟩
  · exact hasL_iff.2 ⟨(r.lo + r.far, r.hi + r.far), List.mem_flatMap.2 ⟨r, hr, by simp⟩, inR_iff.2 ⟨hl.b0, hl.b1, by show r.lo + r.far ≤ x + r.far; omega, by show x + r.far ≤ r.hi + r.far; omega⟩⟩
/-- who is not alone lies in the spans -/
theorem orb_spans {x y : Int} (h : y ∈ orb x) (hne : y ≠ x) : hasL spansL y = true := by
  obtain ⟨_, _, _, hw⟩ := mem_orb.1 h
  by_cases e : withP y = y
  · have hx : withP x ≠ x := fun e2 => hne (by rw [← e, hw, e2])
    have := (letter_spans (x := x) rfl (fun e2 => hx e2.symm)).2
    rwa [← hw, e] at this
  · exact (letter_spans (x := y) rfl (fun e2 => e e2.symm)).1
theorem mem_expand {r : R} {z : Int} : z ∈ expand r ↔ r.1 ≤ z ∧ z ≤ r.2 := by
  unfold expand
  simp only [List.mem_map, List.mem_range]
  constructor
  · rintro ⟨i, hi, rfl⟩; omega
  · rintro ⟨h0, h1⟩; exact ⟨(z - r.1).toNat, by omega, by omega⟩
theorem has_orbR {z x : Int} : hasL (orbR z) x = true ↔ x ∈ orb z := by
  rw [hasL_iff]
  unfold orbR
  constructor
  · rintro ⟨r, hr, hi⟩
    obtain ⟨y, hy, rfl⟩ := List.mem_map.1 hr
    obtain ⟨_, _, h0, h1⟩ := inR_iff.1 hi
    have : x = y := by simp only at h0 h1; omega
    rw [this]; exact hy
  · intro h
    obtain ⟨_, h0, h1, _⟩ := mem_orb.1 h
    exact ⟨(x, x), List.mem_map.2 ⟨x, h, rfl⟩, inR_iff.2 ⟨h0, h1, Int.le_refl _, Int.le_refl _⟩⟩
theorem has_same {m : List R} (hok : ∀ r ∈ m, okR r) {x : Int} : hasL (sameL m) x = true ↔ ∃ z, hasL m z = true ∧ x ∈ orb z := by
  rw [hasL_iff]
  constructor
  · rintro ⟨q, hq, hi⟩
    obtain ⟨r, hr, h1⟩ := List.mem_flatMap.1 hq
    obtain ⟨z, hz, h2⟩ := List.mem_flatMap.1 h1
    have hk := hok r hr
    unfold okR at hk
    have hz' := mem_expand.1 hz
    exact ⟨z, hasL_iff.2 ⟨r, hr, inR_iff.2 ⟨by omega, by omega, hz'.1, hz'.2⟩⟩, has_orbR.1 (hasL_iff.2 ⟨q, h2, hi⟩)⟩
  · rintro ⟨z, hz, hx⟩
    obtain ⟨r, hr, h1⟩ := hasL_iff.1 hz
    obtain ⟨q, hq, h2⟩ := hasL_iff.1 (has_orbR.2 hx)
    obtain ⟨_, _, k0, k1⟩ := inR_iff.1 h1
    exact ⟨q, List.mem_flatMap.2 ⟨r, hr, List.mem_flatMap.2 ⟨z, mem_expand.2 ⟨k0, k1⟩, hq⟩⟩, h2⟩
theorem orb_symm {x y : Int} (h : y ∈ orb x) : x ∈ orb y := by
  obtain ⟨hx, _, _, _⟩ := mem_orb.1 h
  rw [orb_shared h]
  exact orb_self hx.1 hx.2
/-- **a closed list stands for a number just if the list stands for one of its orbit** -/
theorem close_has (l : List R) (x : Int) : hasL (closeL l) x = true ↔ ∃ y, y ∈ orb x ∧ hasL l y = true := by
  unfold closeL
  rw [orL_has, Bool.or_eq_true, has_same (andL_least _ _).ok]
  constructor
  · rintro (h | ⟨z, hz, hx⟩)
    · obtain ⟨r, hr, hi⟩ := hasL_iff.1 h
      obtain ⟨h0, h1, _, _⟩ := inR_iff.1 hi
      exact ⟨x, orb_self h0 h1, h⟩
    · rw [andL_has, Bool.and_eq_true] at hz
      exact ⟨z, orb_symm hx, hz.1⟩
  · rintro ⟨y, hy, h⟩
    by_cases e : y = x
    · rw [← e]; exact .inl h
    · exact .inr ⟨y, by rw [andL_has, h, orb_spans hy e]; rfl, orb_symm hy⟩
theorem close_least (l : List R) : Least (closeL l) := orL_least _ _
theorem close_close (l : List R) : closeL (closeL l) = closeL l := by
  refine least_unique (p := -2) (by omega) (close_least _) (close_least _) fun x => ?_
  rw [Bool.eq_iff_iff, close_has, close_has]
  constructor
  · rintro ⟨y, hy, h⟩
    obtain ⟨z, hz, hl⟩ := (close_has l y).1 h
    exact ⟨z, by rw [orb_shared hy] at hz; exact hz, hl⟩
  · rintro ⟨y, hy, h⟩
    obtain ⟨hx, _, _, _⟩ := mem_orb.1 hy
    exact ⟨x, orb_self hx.1 hx.2, (close_has l x).2 ⟨y, hy, h⟩⟩
theorem close_any (l : List R) (x : Int) : hasL (closeL l) x = (orb x).any (hasL l) := by
  rw [Bool.eq_iff_iff, close_has, List.any_eq_true]

/- how long -/
theorem cntN_mono {N : Nat} {f g : Int → Bool} (h : ∀ x, f x = true → g x = true) : cntN N f ≤ cntN N g := by
  unfold cntN
  exact List.countP_mono_left fun x _ hx => h _ hx
theorem cnt_le_sum (N : Nat) (hN : (N : Int) = 1114368) : ∀ (l : List R), (∀ r ∈ l, 0 ≤ r.1 ∧ r.1 ≤ r.2 ∧ r.2 ≤ 1114367) → (cntN N (hasL l) : Int) ≤ sumL l
  | [], _ => by
    have : cntN N (hasL []) = 0 := (cntN_congr fun x => hasL_nil x).trans (cntN_false _)
    rw [this]; simp
  | r :: t, h => by
    have ih := cnt_le_sum N hN t fun q hq => h q (by simp [hq])
    obtain ⟨h0, h1, h2⟩ := h r (by simp)
    have e := cntN_or_and N (fun x => inR x r) (hasL t)
    have e2 : (cntN N (fun x => inR x r) : Int) = r.2 - r.1 + 1 := by
      rw [← cntN_range N r.1 r.2 (by omega) (by omega) (by omega)]
      congr 1
      refine cntN_congr fun x => ?_
      simp only [inR, decide_eq_decide]; omega
    have e3 : cntN N (hasL (r :: t)) = cntN N (fun x => inR x r || hasL t x) := cntN_congr fun x => rfl
    rw [e3, sumL_cons]
    omega
theorem and_sum (l : List R) : sumL (andL l spansL) ≤ 2000 := by
  obtain ⟨N, hN⟩ : ∃ N : Nat, (N : Int) = 1114368 := ⟨1114368, by decide⟩
  rw [sumL_cnt N hN _ (-2) (by omega) (andL_least _ _)]
  have h1 : cntN N (hasL (andL l spansL)) ≤ cntN N (hasL spansL) := cntN_mono fun x hx => by
    rw [andL_has, Bool.and_eq_true] at hx; exact hx.2
  have h2 := cnt_le_sum N hN spansL spans_ok
  have := spans_sum
  omega
end Go.Proofs.YtefjhdllcjjlpaaDoor.Fo
