/-
  The program's table of letters; what stands behind a letter, and ahead of it; its orbit. Pure: no program.
-/
import Derived.Test.YtefjhdllcjjlpaaDoorFoPure2
set_option linter.unusedVariables false
set_option linter.unusedSimpArgs false
namespace Go.Proofs.YtefjhdllcjjlpaaDoor.Fo

def U : List Row := T ++ [⟨181, 181, 1, 775⟩, ⟨376, 376, 1, -121⟩, ⟨383, 383, 1, -268⟩, ⟨962, 962, 1, 1⟩, ⟨8490, 8490, 1, -8383⟩, ⟨8491, 8491, 1, -8262⟩]
def hasR (x : Int) (r : Row) : Bool := decide (r.lo ≤ x) && (decide (x ≤ r.hi) && ((x - r.lo).tmod r.step == 0))
def lowP (x : Int) : Int := match U.find? (hasR x) with
  | some r => x + r.far
  | none => x
def upsP (low : Int) (l : List Row) : List Int := l.filterMap fun r => if hasR (low - r.far) r then some (low - r.far) else none
def rowLetters (r : Row) : List (Int × Int) := (List.range ((r.hi - r.lo).toNat / r.step.toNat + 1)).map fun (i : Nat) => (r.lo + i * r.step, r.lo + i * r.step + r.far)
def letters : List (Int × Int) := U.flatMap rowLetters

def okLetter (p : Int × Int) : Bool := withP p.1 == p.2 && (withP p.2 == p.2 && (decide (p.1 ≠ p.2) && (decide (0 ≤ p.1) && (decide (p.1 ≤ 1114367) && (decide (0 ≤ p.2) && (decide (p.2 ≤ 1114367) && (decide ((upsP p.2 U).length ≤ 2) && decide ((upsP p.2 U).Nodup))))))))
set_option maxRecDepth 100000 in
theorem letters_all : letters.all okLetter = true := by decide +kernel
structure Letter (x y : Int) : Prop where
  to : withP x = y
  low : withP y = y
  ne : x ≠ y
  a0 : 0 ≤ x
  a1 : x ≤ 1114367
  b0 : 0 ≤ y
  b1 : y ≤ 1114367
  two : (upsP y U).length ≤ 2
  nodup : (upsP y U).Nodup
theorem letter_of {x y : Int} (h : (x, y) ∈ letters) : Letter x y := by
  have h1 := List.all_eq_true.1 letters_all _ h
  simp only [okLetter, Bool.and_eq_true, decide_eq_true_eq, beq_iff_eq] at h1
  obtain ⟨h1, h2, h3, h4, h5, h6, h7, h8, h9⟩ := h1
  exact ⟨h1, h2, h3, h4, h5, h6, h7, h8, h9⟩
theorem row_ok : ∀ r ∈ U, 0 ≤ r.lo ∧ r.lo ≤ r.hi ∧ r.hi ≤ 1114367 ∧ (r.step = 1 ∨ r.step = 2) ∧ -8383 ≤ r.far ∧ r.far ≤ 775 := by decide +kernel
theorem has_iff {x : Int} {r : Row} : hasR x r = true ↔ r.lo ≤ x ∧ x ≤ r.hi ∧ (x - r.lo).tmod r.step = 0 := by simp [hasR]
theorem mem_letters {x : Int} {r : Row} (hr : r ∈ U) (h : hasR x r = true) : (x, x + r.far) ∈ letters := by
  obtain ⟨h0, h1, h2, h3, _, _⟩ := row_ok r hr
  obtain ⟨k0, k1, k2⟩ := has_iff.1 h
  refine List.mem_flatMap.2 ⟨r, hr, List.mem_map.2 ⟨(x - r.lo).toNat / r.step.toNat, ?_, ?_⟩⟩
  · rw [List.mem_range]
    rcases h3 with h3 | h3 <;> rw [h3] <;> simp <;> omega
  · rw [Int.tmod_eq_emod_of_nonneg (by omega)] at k2
    rcases h3 with h3 | h3
    · rw [h3]; simp; omega
    · rw [h3] at k2 ⊢
      have e : r.lo + (((x - r.lo).toNat / (2 : Int).toNat : Nat) : Int) * 2 = x := by
        have : (2 : Int).toNat = 2 := rfl
        rw [this]
        omega
      rw [e]
theorem spec_in : ∀ p ∈ S, ∃ r ∈ U, hasR p.1 r = true := by decide +kernel
theorem T_in : ∀ r ∈ T, r ∈ U := fun r h => List.mem_append_left _ h
theorem has_of_in {x : Int} {r : Row} (hr : r ∈ T) (h : inRow x r = true) : hasR x r = true := by
  obtain ⟨h0, h1, h2, h3, _, _⟩ := row_ok r (T_in r hr)
  simp only [inRow, Bool.and_eq_true, Bool.or_eq_true, decide_eq_true_eq, beq_iff_eq] at h
  obtain ⟨⟨k0, k1⟩, k2⟩ := h
  refine has_iff.2 ⟨k0, k1, ?_⟩
  rw [Int.tmod_eq_emod_of_nonneg (by omega)]
  rcases h3 with h3 | h3
  · rw [h3]; omega
  · rw [h3]
    rcases k2 with k2 | k2
    · omega
    · rw [Int.tmod_eq_emod_of_nonneg (by omega), Int.tmod_eq_emod_of_nonneg h0] at k2
      omega
theorem alone_of {x : Int} (h : ∀ r ∈ U, hasR x r = false) : withP x = x := by
  unfold withP
  cases h1 : S.find? (fun p => p.1 == x) with
  | some p =>
    have h2 := List.find?_some h1
    have h3 := List.mem_of_find?_eq_some h1
    simp at h2
    subst h2
    obtain ⟨r, hr, k⟩ := spec_in p h3
    rw [h r hr] at k
    cases k
  | none =>
    cases h2 : T.find? (inRow x) with
    | none => rfl
    | some r =>
      have h3 := List.mem_of_find?_eq_some h2
      have h4 := List.find?_some h2
      have := has_of_in h3 h4
      rw [h r (T_in r h3)] at this
      cases this
theorem lowP_eq (x : Int) : lowP x = withP x := by
  unfold lowP
  cases h : U.find? (hasR x) with
  | some r => exact ((letter_of (mem_letters (List.mem_of_find?_eq_some h) (List.find?_some h))).to).symm
  | none => exact (alone_of fun r hr => by simpa using List.find?_eq_none.1 h r hr).symm
theorem letter_with {x : Int} (h : withP x ≠ x) : Letter x (withP x) := by
  have h0 := lowP_eq x
  unfold lowP at h0
  cases h1 : U.find? (hasR x) with
  | some r =>
    rw [h1] at h0
    rw [← h0]
    exact letter_of (mem_letters (List.mem_of_find?_eq_some h1) (List.find?_some h1))
  | none => rw [h1] at h0; exact absurd h0.symm h
theorem with_with (x : Int) : withP (withP x) = withP x := by
  by_cases h : withP x = x
  · rw [h, h]
  · exact (letter_with h).low
theorem ups_letter {low y : Int} (h : y ∈ upsP low U) : Letter y low := by
  obtain ⟨r, hr, k⟩ := List.mem_filterMap.1 h
  split at k
  · rename_i hh
    injection k with k
    subst k
    have := letter_of (mem_letters hr hh)
    rwa [show low - r.far + r.far = low by omega] at this
  · cases k
theorem mem_ups {low y : Int} : y ∈ upsP low U ↔ withP y = low ∧ y ≠ low := by
  constructor
  · intro h; exact ⟨(ups_letter h).to, (ups_letter h).ne⟩
  · rintro ⟨h, hne⟩
    have h0 := lowP_eq y
    unfold lowP at h0
    cases h1 : U.find? (hasR y) with
    | some r =>
      rw [h1] at h0
      have h2 := List.find?_some h1
      refine List.mem_filterMap.2 ⟨r, List.mem_of_find?_eq_some h1, ?_⟩
      simp only at h0
      have e : low - r.far = y := by omega
      rw [e, if_pos h2]
    | none => rw [h1] at h0; simp only at h0; omega
theorem ups_two (low : Int) : (upsP low U).length ≤ 2 ∧ (upsP low U).Nodup := by
  cases h : upsP low U with
  | nil => simp
  | cons y t =>
    have hl := ups_letter (show y ∈ upsP low U by rw [h]; simp)
    rw [← h]
    exact ⟨hl.two, hl.nodup⟩
/-- a letter's low one, and all that go with it: sorted, they are the orbit -/
theorem orbit_low (x : Int) (h0 : 0 ≤ x) (h1 : x ≤ 1114367) {l : List Int} (hp : l.Perm (withP x :: upsP (withP x) U)) (hs : l.Pairwise (· ≤ ·)) : IsOrbit x l := by
  unfold IsOrbit
  rw [if_pos ⟨h0, h1⟩]
  have hnd : l.Nodup := hp.nodup_iff.2 (List.nodup_cons.2 ⟨fun h => (mem_ups.1 h).2 rfl, (ups_two _).2⟩)
  refine ⟨?_, fun y => ?_⟩
  · have := List.Pairwise.and hs hnd
    exact this.imp fun ⟨h, hne⟩ => by omega
  · rw [hp.mem_iff, List.mem_cons]
    have hb := withP_bound x h0 h1
    constructor
    · rintro (rfl | h)
      · exact ⟨hb.1, hb.2.1, with_with x⟩
      · have hl := ups_letter h
        exact ⟨hl.a0, hl.a1, hl.to⟩
    · rintro ⟨_, _, h⟩
      by_cases hy : y = withP x
      · exact .inl hy
      · exact .inr (mem_ups.2 ⟨h, hy⟩)
theorem out_with {x : Int} (h : ¬ (0 ≤ x ∧ x ≤ 1114367)) : withP x = x ∧ upsP x U = [] := by
  constructor
  · by_cases e : withP x = x
    · exact e
    · have := letter_with e
      exact absurd ⟨this.a0, this.a1⟩ h
  · cases hu : upsP x U with
    | nil => rfl
    | cons y t =>
      have hl := ups_letter (show y ∈ upsP x U by rw [hu]; simp)
      exact absurd ⟨hl.b0, hl.b1⟩ h
def leastOf (a : Int) (l : List Int) : Int := l.foldl min a
theorem least_mem : ∀ (l : List Int) (a : Int), leastOf a l ∈ a :: l
  | [], a => by simp [leastOf]
  | b :: t, a => by
    have := least_mem t (min a b)
    unfold leastOf at this ⊢
    rw [List.foldl_cons]
    rcases List.mem_cons.1 this with h | h
    · rw [h]
      rcases Int.le_total a b with k | k
      · rw [Int.min_eq_left k]; simp
      · rw [Int.min_eq_right k]; simp
    · simp [h]
theorem least_le : ∀ (l : List Int) (a y : Int), y ∈ a :: l → leastOf a l ≤ y
  | [], a, y, h => by simp at h; simp [leastOf, h]
  | b :: t, a, y, h => by
    unfold leastOf
    rw [List.foldl_cons]
    rcases List.mem_cons.1 h with rfl | h
    · have := least_le t (min y b) (min y b) (by simp)
      unfold leastOf at this
      have := Int.min_le_left y b
      omega
    · rcases List.mem_cons.1 h with rfl | h
      · have := least_le t (min a y) (min a y) (by simp)
        unfold leastOf at this
        have := Int.min_le_right a y
        omega
      · have := least_le t (min a b) y (by simp [h])
        unfold leastOf at this
        exact this
theorem fold_least (x : Int) : leastOf (withP x) (upsP (withP x) U) = foldZ x := by
  by_cases h : 0 ≤ x ∧ x ≤ 1114367
  · have hm := least_mem (upsP (withP x) U) (withP x)
    have hl := least_le (upsP (withP x) U) (withP x)
    generalize leastOf (withP x) (upsP (withP x) U) = m at hm hl
    have hin : ∀ y, y ∈ withP x :: upsP (withP x) U ↔ y ∈ orb x := by
      intro y
      have ho := orbit_low x h.1 h.2 (l := (withP x :: upsP (withP x) U).mergeSort (fun a b => decide (a ≤ b))) (List.mergeSort_perm _ _) (by
        have hs := List.pairwise_mergeSort (le := fun a b : Int => decide (a ≤ b)) (fun a b c h1 h2 => by simp at h1 h2 ⊢; omega) (fun a b => by simp; omega) (withP x :: upsP (withP x) U)
        exact hs.imp fun h => by simpa using h)
      rw [← orb_unique ho]
      exact (List.mergeSort_perm _ _).mem_iff.symm
    have h1 := foldZ_mem h.1 h.2
    have h2 := hl _ ((hin _).2 h1)
    have h3 := (hin _).1 hm
    have h4 := orb_rises x
    unfold foldZ at h2 h1 ⊢
    cases ho : orb x with
    | nil => rw [ho] at h3; cases h3
    | cons a t =>
      rw [ho] at h2 h3 h4
      simp only [List.headD_cons] at h2 ⊢
      rcases List.mem_cons.1 h3 with e | e
      · exact e
      · have := (List.pairwise_cons.1 h4).1 m e
        omega
  · obtain ⟨h1, h2⟩ := out_with h
    rw [h1, h2, (foldZ_out h).2]
    rfl
/-- two numbers are the same just if their folds are -/
def sameZ (x y : Int) : Bool := foldZ x == foldZ y
end Go.Proofs.YtefjhdllcjjlpaaDoor.Fo
