/-
  Barriers counted by a list of what waits (pure): what holds while the program looks. No conditions.
-/
import Derived.Test.YtiaelaepfhiabaaDoorCoPure
set_option linter.unusedVariables false
set_option linter.unusedSimpArgs false
namespace Go.Proofs.YtiaelaepfhiabaaDoor.Co

def look (L : List (Int × Int)) (k : Int) : Option Int := (L.find? (fun p => p.1 == k)).map (·.2)
theorem look_cons (k v : Int) (L : List (Int × Int)) (j : Int) : look ((k, v) :: L) j = if k = j then some v else look L j := by
  unfold look
  by_cases h : k = j
  · subst h; simp
  · simp [h]
theorem look_old {k v : Int} {L : List (Int × Int)} (h : look L k = none) {j m : Int} (hj : look L j = some m) : look ((k, v) :: L) j = some m := by
  rw [look_cons]
  by_cases e : k = j
  · subst e; rw [h] at hj; cases hj
  · rw [if_neg e]; exact hj
/-- how many places are not counted yet -/
def U (n : Nat) (L : List (Int × Int)) : Nat := (List.range n).countP fun (k : Nat) => (look L (k : Int)).isNone
theorem count_one (f g : Nat → Bool) (k : Nat) (hf : f k = true) (hg : ∀ j, g j = (f j && !(j == k))) : ∀ n, (List.range n).countP g + (if k < n then 1 else 0) = (List.range n).countP f
  | 0 => by simp
  | n + 1 => by
    have ih := count_one f g k hf hg n
    rw [List.range_succ, List.countP_append, List.countP_append]
    simp only [List.countP_singleton, hg n]
    by_cases e : n = k
    · subst e
      simp [hf] at ih ⊢
      omega
    · have hb : (n == k) = false := by simp [e]
      rw [hb]
      by_cases h1 : k < n
      · have h2 : k < n + 1 := by omega
        rw [if_pos h1] at ih; rw [if_pos h2]; simp only [Bool.not_false, Bool.and_true]; omega
      · have h2 : ¬ k < n + 1 := by omega
        rw [if_neg h1] at ih; rw [if_neg h2]; simp only [Bool.not_false, Bool.and_true]; omega
theorem U_new {n : Nat} {L : List (Int × Int)} {k : Nat} {v : Int} (hk : k < n) (h : look L (k : Int) = none) : U n (((k : Int), v) :: L) + 1 = U n L := by
  have := count_one (fun j => (look L (j : Int)).isNone) (fun j => (look (((k : Int), v) :: L) (j : Int)).isNone) k (by simp [h]) (fun j => by
    rw [look_cons]
    by_cases e : k = j
    · subst e; simp
    · have e2 : ¬ (k : Int) = (j : Int) := by omega
      have e3 : (j == k) = false := by simp; omega
      simp [e2, e3]) n
  rw [if_pos hk] at this
  unfold U
  exact this
theorem U_nil (n : Nat) : U n [] = n := by
  unfold U
  have : (fun k : Nat => (look [] (k : Int)).isNone) = fun _ => true := by funext k; simp [look]
  rw [this]
  simp

/-- where an instruction leads is there -/
def Wf (l : List In) : Prop := ∀ (a : Nat) (i : In) (m : Int), l[a]? = some i → ∀ s ∈ stepsP i a m, 0 ≤ s.1 ∧ s.1 < l.length
theorem steps_near {i : In} {a : Nat} {m : Int} (hm : 0 ≤ m) (hb : bearsB i.op m = true) : ∀ s ∈ stepsP i a m, 0 ≤ s.2 ∧ s.2 ≤ m + 1 := by
  intro s hs
  unfold stepsP at hs
  unfold bearsB at hb
  repeat' split at hs
  all_goals simp at hs
  all_goals (try (rcases hs with rfl | rfl | rfl))
  all_goals (try (rcases hs with rfl | rfl))
  all_goals (try subst hs)
  all_goals dsimp only
  all_goals first
    | omega
    | (rename_i h; rcases h with h | h <;> simp [h] at hb <;> omega)
    | skip

def Closed (l : List In) (L : List (Int × Int)) (k m : Int) : Prop := ∃ i, l[k.toNat]? = some i ∧ bearsB i.op m = true ∧ ∀ s ∈ stepsP i k.toNat m, look L s.1 = some s.2
structure Inv (l : List In) (L : List (Int × Int)) (st : List Int) (ex : Option Int) : Prop where
  zero : look L 0 = some 0
  ok : ∀ k m, look L k = some m → ∃ a : Nat, k = a ∧ a < l.length ∧ Rb l a m ∧ 0 ≤ m ∧ m + U l.length L ≤ l.length
  inn : ∀ k ∈ st, (look L k).isSome = true
  cnt : U l.length L + L.length = l.length
  cl : ∀ k m, look L k = some m → k ∈ st ∨ ex = some k ∨ Closed l L k m

theorem inv_start {l : List In} (h : 0 < l.length) : Inv l [(0, 0)] [0] none := by
  have hU := U_new (n := l.length) (L := []) (k := 0) (v := 0) h rfl
  rw [U_nil] at hU
  have e : look [((0 : Int), (0 : Int))] 0 = some 0 := rfl
  have ho : ∀ k m, look [((0 : Int), (0 : Int))] k = some m → k = 0 ∧ m = 0 := fun k m hk => by
    rw [look_cons] at hk
    split at hk
    · rename_i h0; exact ⟨h0.symm, (Option.some.inj hk).symm⟩
    · simp [look] at hk
  refine ⟨e, fun k m hk => ?_, fun k hk => ?_, by simpa using hU, fun k m hk => ?_⟩
  · obtain ⟨rfl, rfl⟩ := ho k m hk
    exact ⟨0, rfl, h, .zero, Int.le_refl _, by have hU' : U l.length [((0 : Int), (0 : Int))] + 1 = l.length := hU; omega⟩
  · simp at hk; subst hk; rw [e]; rfl
  · obtain ⟨rfl, rfl⟩ := ho k m hk
    exact .inl (by simp)
theorem inv_pop {l : List In} {L : List (Int × Int)} {st : List Int} {a : Int} (h : Inv l L (st ++ [a]) none) : Inv l L st (some a) :=
  ⟨h.zero, h.ok, fun k hk => h.inn k (by simp [hk]), h.cnt, fun k m hk => by
    rcases h.cl k m hk with h1 | h1 | h1
    · simp at h1
      rcases h1 with h1 | rfl
      · exact .inl h1
      · exact .inr (.inl rfl)
    · cases h1
    · exact .inr (.inr h1)⟩
theorem inv_bad {l : List In} {L : List (Int × Int)} {st : List Int} {ex : Option Int} {a : Nat} {m : Int} {i : In} (h : Inv l L st ex) (ha : look L (a : Int) = some m) (hi : l[a]? = some i) (hb : bearsB i.op m = false) : ¬ Good l := by
  intro hg
  obtain ⟨a', e, _, hr, _⟩ := h.ok _ _ ha
  have e' : a = a' := by omega
  subst e'
  have := hg.2 a m i hr hi
  rw [hb] at this
  cases this
theorem rb_step {l : List In} {L : List (Int × Int)} {st : List Int} {ex : Option Int} {a : Nat} {m : Int} {i : In} (h : Inv l L st ex) (ha : look L (a : Int) = some m) (hi : l[a]? = some i) (hb : bearsB i.op m = true) {t : Nat} {n : Int} (hs : ((t : Int), n) ∈ stepsP i a m) : Rb l t n := by
  obtain ⟨a', e, _, hr, _⟩ := h.ok _ _ ha
  have e' : a = a' := by omega
  subst e'
  exact .step hr (fun j hj => by rw [hi] at hj; rw [← Option.some.inj hj]; exact hb) i hi hs
theorem inv_clash {l : List In} {L : List (Int × Int)} {st : List Int} {ex : Option Int} {a : Nat} {m : Int} {i : In} (h : Inv l L st ex) (ha : look L (a : Int) = some m) (hi : l[a]? = some i) (hb : bearsB i.op m = true) {s : Int × Int} (hs : s ∈ stepsP i a m) {n : Int} (hn : look L s.1 = some n) (hne : n ≠ s.2) : ¬ Good l := by
  intro hg
  obtain ⟨t, e, _, hr, _⟩ := h.ok _ _ hn
  obtain ⟨s1, s2⟩ := s
  dsimp only at e hn hne
  subst e
  exact hne (hg.1 t n s2 hr (rb_step h ha hi hb hs))
theorem inv_new {l : List In} {L : List (Int × Int)} {st : List Int} {a : Nat} {m : Int} {i : In} (hwf : Wf l) (h : Inv l L st (some (a : Int))) (ha : look L (a : Int) = some m) (hi : l[a]? = some i) (hb : bearsB i.op m = true) {s : Int × Int} (hs : s ∈ stepsP i a m) (hn : look L s.1 = none) :
    Inv l (s :: L) (st ++ [s.1]) (some (a : Int)) ∧ U l.length (s :: L) + 1 = U l.length L := by
  obtain ⟨h0, h1⟩ := hwf a i m hi s hs
  obtain ⟨s1, s2⟩ := s
  dsimp only at h0 h1 hn
  obtain ⟨t, rfl⟩ : ∃ t : Nat, s1 = t := ⟨s1.toNat, by omega⟩
  have hU := U_new (n := l.length) (L := L) (k := t) (v := s2) (by omega) hn
  obtain ⟨_, _, _, _, hm0, hm1⟩ := h.ok _ _ ha
  obtain ⟨hs0, hs1⟩ := steps_near hm0 hb _ hs
  dsimp only at hs0 hs1
  refine ⟨⟨look_old hn h.zero, fun k n hk => ?_, fun k hk => ?_, ?_, fun k n hk => ?_⟩, hU⟩
  · rw [look_cons] at hk
    split at hk
    · rename_i e
      subst e
      obtain rfl := Option.some.inj hk
      exact ⟨t, rfl, by omega, rb_step h ha hi hb hs, hs0, by omega⟩
    · obtain ⟨a', e, h2, h3, h4, h5⟩ := h.ok _ _ hk
      exact ⟨a', e, h2, h3, h4, by omega⟩
  · simp at hk
    rcases hk with hk | rfl
    · have := h.inn k hk
      rw [look_cons]
      split
      · rfl
      · exact this
    · rw [look_cons, if_pos rfl]; rfl
  · have := h.cnt
    simp only [List.length_cons]
    omega
  · rw [look_cons] at hk
    split at hk
    · rename_i e; exact .inl (by simp [e])
    · rcases h.cl k n hk with h2 | h2 | ⟨j, h2, h3, h4⟩
      · exact .inl (by simp [h2])
      · exact .inr (.inl h2)
      · exact .inr (.inr ⟨j, h2, h3, fun s' hs' => look_old hn (h4 s' hs')⟩)
theorem inv_close {l : List In} {L : List (Int × Int)} {st : List Int} {a : Nat} {m : Int} {i : In} (h : Inv l L st (some (a : Int))) (ha : look L (a : Int) = some m) (hi : l[a]? = some i) (hb : bearsB i.op m = true) (hs : ∀ s ∈ stepsP i a m, look L s.1 = some s.2) : Inv l L st none :=
  ⟨h.zero, h.ok, h.inn, h.cnt, fun k n hk => by
    rcases h.cl k n hk with h2 | h2 | h2
    · exact .inl h2
    · obtain rfl := Option.some.inj h2
      rw [ha] at hk
      obtain rfl := Option.some.inj hk
      exact .inr (.inr ⟨i, hi, hb, hs⟩)
    · exact .inr (.inr h2)⟩
theorem inv_end {l : List In} {L : List (Int × Int)} (h : Inv l L [] none) : Good l := by
  have cl : ∀ k m, look L k = some m → Closed l L k m := fun k m hk => by
    rcases h.cl k m hk with h1 | h1 | h1
    · cases h1
    · cases h1
    · exact h1
  have hr : ∀ a m, Rb l a m → look L (a : Int) = some m := by
    intro a m hr
    induction hr with
    | zero => exact h.zero
    | step _ hb i hi hs ih =>
      obtain ⟨j, hj, _, hc⟩ := cl _ _ ih
      rw [Int.toNat_natCast] at hj hc
      rw [hi] at hj
      obtain rfl := Option.some.inj hj
      exact hc _ hs
  refine ⟨fun a m n h1 h2 => ?_, fun a m i h1 hi => ?_⟩
  · have := (hr a m h1).symm.trans (hr a n h2)
    exact Option.some.inj this
  · obtain ⟨j, hj, hb, _⟩ := cl _ _ (hr a m h1)
    rw [Int.toNat_natCast, hi] at hj
    obtain rfl := Option.some.inj hj
    exact hb
end Go.Proofs.YtiaelaepfhiabaaDoor.Co
