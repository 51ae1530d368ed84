/-
  Sets of numbers as lists of ranges: which numbers a list stands for; the least list; cutting, joining, the gaps, what is in both, how many. Pure: no program.
-/
set_option linter.unusedVariables false
set_option linter.unusedSimpArgs false
namespace Go.Proofs.YtiaelaepfhiabaaDoor.Rs

abbrev R := Int × Int
def inR (x : Int) (r : R) : Bool := decide (0 ≤ x ∧ x ≤ 1114367 ∧ r.1 ≤ x ∧ x ≤ r.2)
def hasL (l : List R) (x : Int) : Bool := l.any (inR x)
def okR (r : R) : Prop := 0 ≤ r.1 ∧ r.1 ≤ r.2 ∧ r.2 ≤ 1114367
instance (r : R) : Decidable (okR r) := by unfold okR; infer_instance
/-- least from p on: each range lies behind p with a number between. -/
def LeastF : Int → List R → Prop
  | _, [] => True
  | p, r :: t => p < r.1 - 1 ∧ r.1 ≤ r.2 ∧ r.2 ≤ 1114367 ∧ LeastF r.2 t
instance decLeastF : (p : Int) → (l : List R) → Decidable (LeastF p l)
  | _, [] => .isTrue trivial
  | p, r :: t => by
    have := decLeastF r.2 t
    unfold LeastF
    infer_instance
def Least (l : List R) : Prop := LeastF (-2) l
instance (l : List R) : Decidable (Least l) := decLeastF _ _

@[simp] theorem hasL_nil (x : Int) : hasL [] x = false := rfl
@[simp] theorem hasL_cons (r : R) (l : List R) (x : Int) : hasL (r :: l) x = (inR x r || hasL l x) := rfl
theorem hasL_append (a b : List R) (x : Int) : hasL (a ++ b) x = (hasL a x || hasL b x) := by simp [hasL]
theorem hasL_perm {a b : List R} (h : a.Perm b) (x : Int) : hasL a x = hasL b x := by
  unfold hasL
  rw [Bool.eq_iff_iff, List.any_eq_true, List.any_eq_true]
  exact ⟨fun ⟨r, h1, h2⟩ => ⟨r, h.mem_iff.1 h1, h2⟩, fun ⟨r, h1, h2⟩ => ⟨r, h.mem_iff.2 h1, h2⟩⟩

theorem LeastF.mono {p q : Int} {l : List R} (h : LeastF p l) (hq : q ≤ p) : LeastF q l := by
  cases l with
  | nil => trivial
  | cons r t => exact ⟨by have := h.1; omega, h.2⟩

theorem LeastF.lo {p : Int} {l : List R} (h : LeastF p l) : ∀ r ∈ l, p + 1 < r.1 ∧ r.1 ≤ r.2 ∧ r.2 ≤ 1114367 := by
  induction l generalizing p with
  | nil => intro r hr; cases hr
  | cons a t ih =>
    intro r hr
    rcases List.mem_cons.1 hr with rfl | hr
    · have := h.1
      exact ⟨by omega, h.2.1, h.2.2.1⟩
    · have h1 := ih h.2.2.2 r hr
      have h2 := h.1
      have h3 := h.2.1
      exact ⟨by omega, h1.2⟩

theorem LeastF.has {p : Int} {l : List R} (h : LeastF p l) {x : Int} (hx : hasL l x = true) : p + 1 < x := by
  simp only [hasL, List.any_eq_true] at hx
  obtain ⟨r, hr, hx⟩ := hx
  have := h.lo r hr
  simp [inR] at hx
  omega

/-- one list is the least of its numbers -/
theorem least_unique {p : Int} (hp : -2 ≤ p) : ∀ {a b : List R}, LeastF p a → LeastF p b → (∀ x, hasL a x = hasL b x) → a = b := by
  intro a
  induction a generalizing p with
  | nil =>
    intro b ha hb hx
    cases b with
    | nil => rfl
    | cons r t =>
      exfalso
      have h := hx r.1
      have h1 := hb.1; have h2 := hb.2.1; have h3 := hb.2.2.1
      simp [inR] at h
      omega
  | cons a s ih =>
    intro b ha hb hx
    cases b with
    | nil =>
      exfalso
      have h := hx a.1
      have h1 := ha.1; have h2 := ha.2.1; have h3 := ha.2.2.1
      simp [inR] at h
      omega
    | cons b t =>
      have a1 := ha.1; have a2 := ha.2.1; have a3 := ha.2.2.1; have a4 := ha.2.2.2
      have b1 := hb.1; have b2 := hb.2.1; have b3 := hb.2.2.1; have b4 := hb.2.2.2
      have key : ∀ x, (inR x a || hasL s x) = (inR x b || hasL t x) := hx
      have lo : a.1 = b.1 := by
        rcases Int.lt_trichotomy a.1 b.1 with h | h | h
        · exfalso
          have e := key a.1
          have ea : inR a.1 a = true := by simp [inR]; omega
          have eb : inR a.1 b = false := by simp [inR]; omega
          rw [ea, eb] at e
          have := b4.has (x := a.1) (by simpa using e.symm)
          omega
        · exact h
        · exfalso
          have e := key b.1
          have ea : inR b.1 b = true := by simp [inR]; omega
          have eb : inR b.1 a = false := by simp [inR]; omega
          rw [ea, eb] at e
          have := a4.has (x := b.1) (by simpa using e)
          omega
      have hi : a.2 = b.2 := by
        rcases Int.lt_trichotomy a.2 b.2 with h | h | h
        · exfalso
          have e := key (a.2 + 1)
          have ea : inR (a.2 + 1) b = true := by simp [inR]; omega
          have eb : inR (a.2 + 1) a = false := by simp [inR]; omega
          rw [ea, eb] at e
          have := a4.has (x := a.2 + 1) (by simpa using e)
          omega
        · exact h
        · exfalso
          have e := key (b.2 + 1)
          have ea : inR (b.2 + 1) a = true := by simp [inR]; omega
          have eb : inR (b.2 + 1) b = false := by simp [inR]; omega
          rw [ea, eb] at e
          have := b4.has (x := b.2 + 1) (by simpa using e.symm)
          omega
      have e : a = b := Prod.ext lo hi
      subst e
      congr 1
      refine ih (p := a.2) (by omega) a4 b4 fun x => ?_
      have k := key x
      by_cases hx : inR x a = true
      · have hle : x ≤ a.2 := by simp [inR] at hx; omega
        cases h1 : hasL s x with
        | true => have := a4.has h1; omega
        | false =>
          cases h2 : hasL t x with
          | true => have := b4.has h2; omega
          | false => rfl
      · rw [Bool.not_eq_true] at hx
        rw [hx] at k
        simpa using k

/- what is cut -/
def cutR (r : R) : R := (max r.1 0, min r.2 1114367)
def withinL (l : List R) : List R := (l.map cutR).filter fun r => decide (r.1 ≤ r.2)
theorem inR_cutR (x : Int) (r : R) : inR x (cutR r) = inR x r := by
  rw [Bool.eq_iff_iff]; simp only [inR, cutR, decide_eq_true_eq, Int.max_le, Int.le_min]; omega
theorem hasL_withinL (l : List R) (x : Int) : hasL (withinL l) x = hasL l x := by
  induction l with
  | nil => rfl
  | cons r t ih =>
    unfold withinL at ih ⊢
    rw [List.map_cons, List.filter_cons]
    split
    · rw [hasL_cons, hasL_cons, ih, inR_cutR]
    · rename_i h
      rw [ih, hasL_cons]
      have : inR x r = false := by
        rw [← inR_cutR]
        simp [inR] at h ⊢
        omega
      simp [this]
theorem ok_withinL (l : List R) : ∀ r ∈ withinL l, okR r := by
  intro r hr
  simp only [withinL, List.mem_filter, List.mem_map, decide_eq_true_eq] at hr
  obtain ⟨⟨a, _, rfl⟩, h⟩ := hr
  simp only [cutR, okR] at h ⊢
  omega
theorem withinL_concat (l : List R) (r : R) : withinL (l ++ [r]) = withinL l ++ (if (cutR r).1 ≤ (cutR r).2 then [cutR r] else []) := by
  simp only [withinL, List.map_append, List.filter_append, List.map_cons, List.map_nil, List.filter_cons, List.filter_nil, decide_eq_true_eq]

/- joined -/
def joinF (q : R) : List R → List R
  | [] => [q]
  | r :: t => if r.1 ≤ q.2 + 1 then joinF (q.1, max q.2 r.2) t else q :: joinF r t
def joinL : List R → List R
  | [] => []
  | r :: t => joinF r t
def Sorted (l : List R) : Prop := l.Pairwise fun a b => a.1 ≤ b.1

theorem joinF_least : ∀ (t : List R) (p : Int) (q : R), p < q.1 - 1 → okR q → (∀ r ∈ t, okR r) → (∀ r ∈ t, q.1 ≤ r.1) → Sorted t → LeastF p (joinF q t)
  | [], p, q, hp, hq, _, _, _ => ⟨hp, hq.2.1, hq.2.2, trivial⟩
  | r :: t, p, q, hp, hq, hok, hge, hs => by
    have hr := hok r (by simp)
    have hqr := hge r (by simp)
    have hs' := List.pairwise_cons.1 hs
    unfold joinF
    split
    · refine joinF_least t p _ hp ⟨hq.1, ?_, ?_⟩ (fun a ha => hok a (by simp [ha])) (fun a ha => hge a (by simp [ha])) hs'.2
      · have := hq.2.1; simp only; omega
      · have := hq.2.2; have := hr.2.2; simp only; omega
    · refine ⟨hp, hq.2.1, hq.2.2, joinF_least t q.2 r (by omega) hr (fun a ha => hok a (by simp [ha])) hs'.1 hs'.2⟩

theorem joinF_has : ∀ (t : List R) (q : R) (x : Int), q.1 ≤ q.2 → (∀ r ∈ t, q.1 ≤ r.1) → (∀ r ∈ t, r.1 ≤ r.2) → Sorted t → hasL (joinF q t) x = (inR x q || hasL t x)
  | [], q, x, _, _, _, _ => by simp [joinF]
  | r :: t, q, x, hq, hge, hok, hs => by
    have hs' := List.pairwise_cons.1 hs
    have hqr := hge r (by simp)
    have hr := hok r (by simp)
    unfold joinF
    split
    · rename_i h
      rw [joinF_has t (q.1, max q.2 r.2) x (by show q.1 ≤ max q.2 r.2; omega) (fun a ha => hge a (by simp [ha])) (fun a ha => hok a (by simp [ha])) hs'.2, hasL_cons, ← Bool.or_assoc]
      congr 1
      rw [Bool.eq_iff_iff]
      simp only [inR, Bool.or_eq_true, decide_eq_true_eq]
      omega
    · rw [hasL_cons, joinF_has t r x hr hs'.1 (fun a ha => hok a (by simp [ha])) hs'.2, hasL_cons]

theorem joinL_least {l : List R} (hok : ∀ r ∈ l, okR r) (hs : Sorted l) : Least (joinL l) := by
  cases l with
  | nil => trivial
  | cons r t =>
    have hr := hok r (by simp)
    exact joinF_least t (-2) r (by have := hr.1; omega) hr (fun a ha => hok a (by simp [ha])) (List.pairwise_cons.1 hs).1 (List.pairwise_cons.1 hs).2
theorem joinL_has {l : List R} (hok : ∀ r ∈ l, okR r) (hs : Sorted l) (x : Int) : hasL (joinL l) x = hasL l x := by
  cases l with
  | nil => rfl
  | cons r t =>
    exact joinF_has t r x (hok r (by simp)).2.1 (List.pairwise_cons.1 hs).1 (fun a ha => (hok a (by simp [ha])).2.1) (List.pairwise_cons.1 hs).2

theorem joinF_len : ∀ (t : List R) (q : R), (joinF q t).length ≤ t.length + 1
  | [], q => by simp [joinF]
  | r :: t, q => by
    unfold joinF
    split
    · have := joinF_len t (q.1, max q.2 r.2); simp only [List.length_cons]; omega
    · have := joinF_len t r; simp only [List.length_cons]; omega
theorem joinL_len (l : List R) : (joinL l).length ≤ l.length := by
  cases l with
  | nil => exact Nat.le_refl _
  | cons r t => exact joinF_len t r
/-- the least list of the numbers of l -/
def mk (l : List R) : List R := joinL ((withinL l).mergeSort fun a b => decide (a.1 ≤ b.1))
theorem sorted_mergeSort (l : List R) : Sorted (l.mergeSort fun a b => decide (a.1 ≤ b.1)) := by
  have h := List.pairwise_mergeSort (le := fun a b : R => decide (a.1 ≤ b.1)) (fun a b c h1 h2 => by simp at h1 h2 ⊢; omega) (fun a b => by simp; omega) l
  exact h.imp fun h => by simpa using h
theorem mk_least (l : List R) : Least (mk l) :=
  joinL_least (fun r hr => ok_withinL l r (by simpa using (List.mergeSort_perm (withinL l) _).mem_iff.1 hr)) (sorted_mergeSort _)
theorem mk_has (l : List R) (x : Int) : hasL (mk l) x = hasL l x := by
  rw [mk, joinL_has (fun r hr => ok_withinL l r (by simpa using (List.mergeSort_perm (withinL l) _).mem_iff.1 hr)) (sorted_mergeSort _), hasL_perm (List.mergeSort_perm _ _), hasL_withinL]
theorem mk_unique {l m : List R} (hm : Least m) (h : ∀ x, hasL m x = hasL l x) : m = mk l :=
  least_unique (by omega) hm (mk_least l) fun x => (h x).trans (mk_has l x).symm
/-- whatever order the ranges of one Lo were left in -/
theorem join_mk {l s : List R} (hp : s.Perm (withinL l)) (hs : Sorted s) : joinL s = mk l := by
  have hok : ∀ r ∈ s, okR r := fun r hr => ok_withinL l r (hp.mem_iff.1 hr)
  exact mk_unique (joinL_least hok hs) fun x => by rw [joinL_has hok hs, hasL_perm hp, hasL_withinL]
theorem mk_of_least {l : List R} (h : Least l) : mk l = l := (mk_unique h fun _ => rfl).symm
theorem least_iff_mk (l : List R) : Least l ↔ l = mk l := ⟨fun h => (mk_of_least h).symm, fun h => by rw [h]; exact mk_least l⟩
theorem Least.ok {l : List R} (h : Least l) : ∀ r ∈ l, okR r := fun r hr => by
  have := LeastF.lo h r hr
  unfold okR; omega

/- the gaps -/
def notF : Int → List R → List R
  | f, [] => if f ≤ 1114367 then [(f, 1114367)] else []
  | f, r :: t => (if f < r.1 then [(f, r.1 - 1)] else []) ++ notF (r.2 + 1) t
theorem notF_least : ∀ (m : List R) (p q f : Int), p < f - 1 → LeastF q m → f - 2 ≤ q → LeastF p (notF f m)
  | [], p, q, f, hp, _, _ => by
    unfold notF
    split
    · exact ⟨hp, by simpa, by simp, trivial⟩
    · trivial
  | r :: t, p, q, f, hp, hm, hq => by
    have h1 := hm.1; have h2 := hm.2.1; have h3 := hm.2.2.1
    unfold notF
    split
    · refine ⟨hp, by simp only; omega, by simp only; omega, notF_least t _ r.2 (r.2 + 1) (by simp only; omega) hm.2.2.2 (by omega)⟩
    · exact notF_least t p r.2 (r.2 + 1) (by omega) hm.2.2.2 (by omega)
theorem notF_has : ∀ (m : List R) (q f x : Int), 0 ≤ f → LeastF q m → f - 2 ≤ q → hasL (notF f m) x = (decide (f ≤ x ∧ x ≤ 1114367) && !hasL m x)
  | [], q, f, x, hf, _, _ => by
    unfold notF
    split <;> (rw [Bool.eq_iff_iff]; simp [inR]; omega)
  | r :: t, q, f, x, hf, hm, hq => by
    have h1 := hm.1; have h2 := hm.2.1; have h3 := hm.2.2.1
    have ih := notF_has t r.2 (r.2 + 1) x (by omega) hm.2.2.2 (by omega)
    unfold notF
    rw [hasL_append, ih, hasL_cons]
    cases ht : hasL t x with
    | true =>
      have := hm.2.2.2.has ht
      split <;> (simp [inR]; try omega)
    | false =>
      split <;> (rw [Bool.eq_iff_iff]; simp [inR]; try omega)
def notL (l : List R) : List R := notF 0 (mk l)
theorem notL_least (l : List R) : Least (notL l) := notF_least _ (-2) (-2) 0 (by omega) (mk_least l) (by omega)
theorem notL_has (l : List R) (x : Int) : hasL (notL l) x = (decide (0 ≤ x ∧ x ≤ 1114367) && !hasL l x) := by
  rw [notL, notF_has _ (-2) 0 x (by omega) (mk_least l) (by omega), mk_has]

/- what is in both -/
def ovR (a b : R) : R := (max a.1 b.1, min a.2 b.2)
def ov1 (a b : R) : List R := if (ovR a b).1 ≤ (ovR a b).2 then [ovR a b] else []
def andF : List R → List R → List R
  | [], _ => []
  | _ :: _, [] => []
  | a :: s, b :: t => ov1 a b ++ (if a.2 < b.2 then andF s (b :: t) else andF (a :: s) t)
termination_by a b => a.length + b.length
theorem andF_nil (b : List R) : andF [] b = [] := by unfold andF; rfl
theorem andF_nil' (a : List R) : andF a [] = [] := by cases a <;> unfold andF <;> rfl
theorem andF_cons (a b : R) (s t : List R) : andF (a :: s) (b :: t) = ov1 a b ++ (if a.2 < b.2 then andF s (b :: t) else andF (a :: s) t) := by rw [andF]

theorem andF_least : ∀ (n : Nat) (A B : List R), A.length + B.length ≤ n → ∀ (p q : Int), LeastF p A → LeastF q B → LeastF (max p q) (andF A B) := by
  intro n
  induction n with
  | zero =>
    intro A B h p q hA hB
    have : A = [] := List.eq_nil_of_length_eq_zero (by omega)
    subst this
    rw [andF_nil]; trivial
  | succ n ih =>
    intro A B h p q hA hB
    cases A with
    | nil => rw [andF_nil]; trivial
    | cons a s =>
      cases B with
      | nil => rw [andF_nil']; trivial
      | cons b t =>
        rw [andF_cons]
        have a1 := hA.1; have a2 := hA.2.1; have a3 := hA.2.2.1
        have b1 := hB.1; have b2 := hB.2.1; have b3 := hB.2.2.1
        simp only [List.length_cons] at h
        by_cases hlt : a.2 < b.2
        · rw [if_pos hlt]
          have h1 := ih s (b :: t) (by simp only [List.length_cons]; omega) a.2 q hA.2.2.2 hB
          unfold ov1
          split
          · refine ⟨by simp only [ovR]; omega, by assumption, by simp only [ovR]; omega, h1.mono (by simp only [ovR]; omega)⟩
          · exact h1.mono (by omega)
        · rw [if_neg hlt]
          have h1 := ih (a :: s) t (by simp only [List.length_cons]; omega) p b.2 hA hB.2.2.2
          unfold ov1
          split
          · refine ⟨by simp only [ovR]; omega, by assumption, by simp only [ovR]; omega, h1.mono (by simp only [ovR]; omega)⟩
          · exact h1.mono (by omega)

theorem andF_has : ∀ (n : Nat) (A B : List R), A.length + B.length ≤ n → ∀ (p q x : Int), LeastF p A → LeastF q B → hasL (andF A B) x = (hasL A x && hasL B x) := by
  intro n
  induction n with
  | zero =>
    intro A B h p q x hA hB
    have : A = [] := List.eq_nil_of_length_eq_zero (by omega)
    subst this
    rw [andF_nil]; rfl
  | succ n ih =>
    intro A B h p q x hA hB
    cases A with
    | nil => rw [andF_nil]; rfl
    | cons a s =>
      cases B with
      | nil => rw [andF_nil']; simp
      | cons b t =>
        rw [andF_cons, hasL_append]
        have a1 := hA.1; have a2 := hA.2.1; have a3 := hA.2.2.1
        have b1 := hB.1; have b2 := hB.2.1; have b3 := hB.2.2.1
        simp only [List.length_cons] at h
        have ho : hasL (ov1 a b) x = (inR x a && inR x b) := by
          unfold ov1
          split
          · rw [Bool.eq_iff_iff]; simp [inR, ovR]; omega
          · rename_i hn
            rw [Bool.eq_iff_iff]; simp [inR, ovR] at hn ⊢; omega
        rw [ho]
        by_cases hlt : a.2 < b.2
        · rw [if_pos hlt, ih s (b :: t) (by simp only [List.length_cons]; omega) a.2 q x hA.2.2.2 hB, hasL_cons, hasL_cons]
          cases hs : hasL s x with
          | true =>
            have := hA.2.2.2.has hs
            have e : inR x a = false := by simp [inR]; omega
            rw [e]; simp
          | false =>
            cases ht : hasL t x with
            | true =>
              have := hB.2.2.2.has ht
              have e : inR x a = false := by simp [inR]; omega
              rw [e]; simp
            | false => simp
        · rw [if_neg hlt, ih (a :: s) t (by simp only [List.length_cons]; omega) p b.2 x hA hB.2.2.2, hasL_cons, hasL_cons]
          cases ht : hasL t x with
          | true => 
            have := hB.2.2.2.has ht
            have e : inR x b = false := by simp [inR]; omega
            rw [e]; simp
          | false =>
            cases hs : hasL s x with
            | true =>
              have := hA.2.2.2.has hs
              have e : inR x b = false := by simp [inR]; omega
              rw [e]; simp
            | false => simp
def andL (a b : List R) : List R := andF (mk a) (mk b)
theorem andL_least (a b : List R) : Least (andL a b) := andF_least _ _ _ (Nat.le_refl _) (-2) (-2) (mk_least a) (mk_least b)
theorem andL_has (a b : List R) (x : Int) : hasL (andL a b) x = (hasL a x && hasL b x) := by
  rw [andL, andF_has _ _ _ (Nat.le_refl _) (-2) (-2) x (mk_least a) (mk_least b), mk_has, mk_has]
def orL (a b : List R) : List R := mk (a ++ b)
theorem orL_least (a b : List R) : Least (orL a b) := mk_least _
theorem orL_has (a b : List R) (x : Int) : hasL (orL a b) x = (hasL a x || hasL b x) := by rw [orL, mk_has, hasL_append]

/- how many -/
def sumL (l : List R) : Int := (l.map fun r => r.2 - r.1 + 1).sum
@[simp] theorem sumL_nil : sumL [] = 0 := rfl
@[simp] theorem sumL_cons (r : R) (l : List R) : sumL (r :: l) = r.2 - r.1 + 1 + sumL l := by simp [sumL]
theorem sumL_append (a b : List R) : sumL (a ++ b) = sumL a + sumL b := by simp [sumL]
def cntN (N : Nat) (f : Int → Bool) : Nat := (List.range N).countP fun x : Nat => f (x : Int)
theorem cntN_congr {N : Nat} {f g : Int → Bool} (h : ∀ x : Int, f x = g x) : cntN N f = cntN N g := by
  unfold cntN; congr 1; funext x; exact h x
theorem countP_or_and {α : Type} (f g : α → Bool) (l : List α) : (l.countP fun x => f x || g x) + (l.countP fun x => f x && g x) = l.countP f + l.countP g := by
  induction l with
  | nil => rfl
  | cons a t ih =>
    simp only [List.countP_cons]
    cases f a <;> cases g a <;> simp <;> omega
theorem cntN_or_and (N : Nat) (f g : Int → Bool) : cntN N (fun x => f x || g x) + cntN N (fun x => f x && g x) = cntN N f + cntN N g := countP_or_and _ _ _
theorem cntN_false (N : Nat) : cntN N (fun _ => false) = 0 := by simp [cntN]
theorem cntN_true (N : Nat) : cntN N (fun _ => true) = N := by simp [cntN]
theorem cntN_range (N : Nat) (lo hi : Int) (h0 : 0 ≤ lo) (h1 : lo ≤ hi + 1) (h2 : hi < N) : (cntN N fun x => decide (lo ≤ x ∧ x ≤ hi) : Int) = hi - lo + 1 := by
  induction N generalizing hi with
  | zero =>
    have : hi - lo + 1 = 0 := by omega
    simp [cntN]; omega
  | succ N ih =>
    unfold cntN at ih ⊢
    dsimp only at ih ⊢
    rw [List.range_succ, List.countP_append, List.countP_cons, List.countP_nil]
    by_cases hN : hi = N
    · by_cases hl : lo ≤ hi
      · have h := ih (hi - 1) (by omega) (by omega)
        have e : (List.countP (fun x : Nat => decide (lo ≤ (x : Int) ∧ (x : Int) ≤ hi)) (List.range N)) = List.countP (fun x : Nat => decide (lo ≤ (x : Int) ∧ (x : Int) ≤ hi - 1)) (List.range N) := by
          refine List.countP_congr fun x hx => ?_
          have := List.mem_range.1 hx
          simp only [decide_eq_true_eq]; omega
        rw [e]
        have hd : decide (lo ≤ (N : Int) ∧ (N : Int) ≤ hi) = true := by simp; omega
        simp only [hd, if_true]
        push_cast
        omega
      · have e : (List.countP (fun x : Nat => decide (lo ≤ (x : Int) ∧ (x : Int) ≤ hi)) (List.range N)) = 0 := by
          rw [List.countP_eq_zero]
          intro x hx
          simp; omega
        have hd : decide (lo ≤ (N : Int) ∧ (N : Int) ≤ hi) = false := by simp; omega
        rw [e]
        simp only [hd]
        simp
        omega
    · have h := ih hi h1 (by omega)
      have hd : decide (lo ≤ (N : Int) ∧ (N : Int) ≤ hi) = false := by simp; omega
      simp only [hd]
      simp only [Bool.false_eq_true, if_false, Nat.add_zero]
      exact h
theorem sumL_cnt (N : Nat) (hN : (N : Int) = 1114368) : ∀ (l : List R) (p : Int), -2 ≤ p → LeastF p l → sumL l = (cntN N (hasL l) : Int)
  | [], p, _, _ => by
    have : cntN N (hasL []) = 0 := (cntN_congr fun x => hasL_nil x).trans (cntN_false _)
    rw [this]; rfl
  | r :: t, p, hp, h => by
    have h1 := h.1; have h2 := h.2.1; have h3 := h.2.2.1
    rw [sumL_cons, sumL_cnt N hN t r.2 (by omega) h.2.2.2]
    have e := cntN_or_and N (fun x => inR x r) (hasL t)
    have e1 : cntN N (fun x => inR x r && hasL t x) = 0 := by
      rw [cntN_congr (g := fun _ => false), cntN_false]
      intro x
      cases ht : hasL t x with
      | false => simp
      | true =>
        have := h.2.2.2.has ht
        simp [inR]; omega
    have e2 : (cntN N (fun x => inR x r) : Int) = r.2 - r.1 + 1 := by
      rw [← cntN_range N r.1 r.2 (by omega) (by omega) (by omega)]
      congr 1
      refine cntN_congr fun x => ?_
      simp only [inR, decide_eq_decide]; omega
    have e3 : cntN N (hasL (r :: t)) = cntN N (fun x => inR x r || hasL t x) := cntN_congr fun x => rfl
    rw [e3]
    omega
def cntL (l : List R) : Int := sumL (mk l)
theorem cntL_eq (N : Nat) (hN : (N : Int) = 1114368) (l : List R) : cntL l = (cntN N (hasL l) : Int) := by
  rw [cntL, sumL_cnt N hN _ (-2) (by omega) (mk_least l)]
  congr 1
  exact cntN_congr fun x => mk_has l x
theorem cntN_in (N : Nat) (f : Int → Bool) (hN : (N : Int) = 1114368) : cntN N (fun x => decide (0 ≤ x ∧ x ≤ 1114367) && f x) = cntN N f := by
  unfold cntN
  refine List.countP_congr fun x hx => ?_
  have := List.mem_range.1 hx
  have e : decide (0 ≤ (x : Int) ∧ (x : Int) ≤ 1114367) = true := by simp; omega
  simp only [e, Bool.true_and]
theorem cntL_not (l : List R) : cntL l + cntL (notL l) = 1114368 := by
  obtain ⟨N, hN⟩ : ∃ N : Nat, (N : Int) = 1114368 := ⟨1114368, by decide⟩
  rw [cntL_eq N hN, cntL_eq N hN, cntN_congr (f := hasL (notL l)) (notL_has l), cntN_in _ _ hN]
  have h := cntN_or_and N (hasL l) (fun x => !hasL l x)
  rw [cntN_congr (g := fun _ => true), cntN_true, cntN_congr (g := fun _ => false), cntN_false] at h
  · omega
  · intro x; simp
  · intro x; simp
theorem cntL_or_and (a b : List R) : cntL (orL a b) + cntL (andL a b) = cntL a + cntL b := by
  obtain ⟨N, hN⟩ : ∃ N : Nat, (N : Int) = 1114368 := ⟨1114368, by decide⟩
  rw [cntL_eq N hN, cntL_eq N hN, cntL_eq N hN, cntL_eq N hN, cntN_congr (f := hasL (orL a b)) (orL_has a b), cntN_congr (f := hasL (andL a b)) (andL_has a b)]
  have h := cntN_or_and N (hasL a) (hasL b)
  omega
theorem sumL_mk (l : List R) : sumL (mk l) = cntL l := rfl
theorem cntL_of_least {m : List R} (h : Least m) : cntL m = sumL m := by rw [cntL, mk_of_least h]

/- one number alone -/
def ofL (x : Int) : List R := mk [(x, x)]
theorem ofL_eq (x : Int) : ofL x = if 0 ≤ x ∧ x ≤ 1114367 then [(x, x)] else [] := by
  refine (mk_unique ?_ ?_).symm
  · split
    · exact ⟨by simp only; omega, by simp, by simp only; omega, trivial⟩
    · trivial
  · intro y
    split
    · rfl
    · rw [Bool.eq_iff_iff]; simp [inR]; omega

/- the anchors -/
theorem mk_anchor : mk [(5, 7), (1, 2), (3, 4)] = [(1, 7)] :=
  (mk_unique (by decide) fun x => by rw [Bool.eq_iff_iff]; simp [inR]; omega).symm
theorem notL_anchor : notL [(0, 10)] = [(11, 1114367)] := by
  refine least_unique (p := -2) (by omega) (notL_least _) (by decide) fun x => ?_
  rw [notL_has, Bool.eq_iff_iff]; simp [inR]; omega

end Go.Proofs.YtiaelaepfhiabaaDoor.Rs
