/-
  Right trees: each node's part, what is in what, parents, paths. Pure: no program.
-/
import Derived.Test.YtckgbalmpddblaaDoorAsPure
set_option linter.unusedVariables false
set_option linter.unusedSimpArgs false
namespace Go.Proofs.YtckgbalmpddblaaDoor.As

/-- where node i's part ends -/
def E (L : List Nd) (i : Nat) : Int := endN L L.length i
/-- the nodes are laid as a tree's are -/
def Laid (L : List Nd) : Prop := 0 < L.length ∧ E L 0 = L.length

theorem kidsN_congr {e e' : Nat → Int} (h : ∀ j, 0 ≤ e j → e' j = e j) : ∀ (ks : List Int) (n : Nat), 0 ≤ kidsN e ks n → kidsN e' ks n = kidsN e ks n
  | [], n, _ => rfl
  | k :: ks, n, hk => by
    unfold kidsN at hk ⊢
    split at hk
    · rename_i h1
      split at hk
      · omega
      · rename_i h2
        rw [if_pos h1, if_pos h1, h n (by omega), if_neg h2, if_neg h2]
        exact kidsN_congr h ks _ hk
    · omega
theorem endN_succ (L : List Nd) : ∀ (f i : Nat), 0 ≤ endN L f i → endN L (f + 1) i = endN L f i
  | 0, i, h => by simp [endN] at h
  | f + 1, i, h => by
    cases hL : L[i]? with
    | none => rw [endN_none (by simpa using hL)] at h; omega
    | some nd =>
      rw [endN_some hL] at h ⊢
      rw [endN_some hL]
      exact kidsN_congr (endN_succ L f) nd.kids (i + 1) h
theorem endN_mono (L : List Nd) {f f' i : Nat} (h : 0 ≤ endN L f i) (hf : f ≤ f') : endN L f' i = endN L f i := by
  induction f' with
  | zero => obtain rfl : f = 0 := by omega
            rfl
  | succ g ih =>
    rcases Nat.lt_or_ge f (g + 1) with h1 | h1
    · rw [endN_succ L g i (by rw [ih (by omega)]; exact h), ih (by omega)]
    · obtain rfl : f = g + 1 := by omega
      rfl
/-- what is between n and the end of the kids is in one kid's part -/
theorem kidsN_in {e : Nat → Int} (he : ∀ i, 0 ≤ e i → (i : Int) < e i) : ∀ (ks : List Int) (n : Nat), 0 ≤ kidsN e ks n → ∀ j : Nat, n ≤ j → (j : Int) < kidsN e ks n → ∃ k : Nat, (k : Int) ∈ ks ∧ n ≤ k ∧ 0 ≤ e k ∧ k ≤ j ∧ (j : Int) < e k ∧ e k ≤ kidsN e ks n
  | [], n, _, j, h1, h2 => by simp [kidsN] at h2; omega
  | k :: ks, n, h, j, h1, h2 => by
    unfold kidsN at h h2 ⊢
    split at h
    · rename_i hk
      rw [if_pos hk] at h2 ⊢
      split at h
      · omega
      · rename_i hm
        rw [if_neg hm] at h2 ⊢
        have hge := kidsN_ge he ks (e n).toNat h
        by_cases hj : (j : Int) < e n
        · exact ⟨n, by rw [hk]; exact List.mem_cons_self, Nat.le_refl _, by omega, h1, hj, by omega⟩
        · obtain ⟨k', p1, p2, p3, p4, p5, p6⟩ := kidsN_in he ks (e n).toNat h j (by omega) h2
          have := he n (by omega)
          exact ⟨k', List.mem_cons_of_mem _ p1, by omega, p3, p4, p5, p6⟩
    · omega
/-- a kid's part lies within the kids' -/
theorem kidsN_kid {e : Nat → Int} (he : ∀ i, 0 ≤ e i → (i : Int) < e i) : ∀ (ks : List Int) (n : Nat), 0 ≤ kidsN e ks n → ∀ y ∈ ks, ∃ k : Nat, y = k ∧ n ≤ k ∧ 0 ≤ e k ∧ e k ≤ kidsN e ks n
  | [], n, _, y, hy => by cases hy
  | k :: ks, n, h, y, hy => by
    unfold kidsN at h ⊢
    split at h
    · rename_i hk
      rw [if_pos hk]
      split at h
      · omega
      · rename_i hm
        rw [if_neg hm]
        have hge := kidsN_ge he ks (e n).toNat h
        have hn := he n (by omega)
        rcases List.mem_cons.1 hy with rfl | hy
        · exact ⟨n, hk, Nat.le_refl _, by omega, by omega⟩
        · obtain ⟨k', p1, p2, p3, p4⟩ := kidsN_kid he ks (e n).toNat h y hy
          exact ⟨k', p1, by omega, p3, p4⟩
    · omega
/-- two kids' parts lie apart -/
theorem kidsN_apart {e : Nat → Int} (he : ∀ i, 0 ≤ e i → (i : Int) < e i) : ∀ (ks : List Int) (n : Nat), 0 ≤ kidsN e ks n → ∀ a b : Nat, (a : Int) ∈ ks → (b : Int) ∈ ks → a < b → e a ≤ b
  | [], n, _, a, b, ha, _, _ => by cases ha
  | k :: ks, n, h, a, b, ha, hb, hab => by
    unfold kidsN at h
    split at h
    · rename_i hk
      split at h
      · omega
      · rename_i hm
        have hn := he n (by omega)
        have kid := fun y hy => kidsN_kid he ks (e n).toNat h y hy
        rcases List.mem_cons.1 ha with ha | ha <;> rcases List.mem_cons.1 hb with hb | hb
        · omega
        · obtain ⟨k', p1, p2, p3, p4⟩ := kid _ hb
          have : a = n := by omega
          subst this
          omega
        · obtain ⟨k', p1, p2, p3, p4⟩ := kid _ ha
          omega
        · exact kidsN_apart he ks (e n).toNat h a b ha hb hab
    · omega
theorem endN_all (L : List Nd) : ∀ (f i : Nat), 0 ≤ endN L f i → ∀ j : Nat, i ≤ j → (j : Int) < endN L f i → 0 ≤ endN L f j
  | 0, i, h, _, _, _ => by simp [endN] at h
  | f + 1, i, h, j, h1, h2 => by
    rcases Nat.lt_or_ge i j with hij | hij
    · cases hL : L[i]? with
      | none => rw [endN_none (by simpa using hL)] at h; omega
      | some nd =>
        rw [endN_some hL] at h h2
        obtain ⟨k, p1, p2, p3, p4, p5, p6⟩ := kidsN_in (endN_gt L f) nd.kids (i + 1) h j hij h2
        have := endN_all L f k p3 j p4 p5
        rw [endN_succ L f j this]; exact this
    · obtain rfl : j = i := by omega
      exact h

theorem Laid.le {L : List Nd} (_ : Laid L) (i : Nat) : E L i ≤ L.length := endN_le L _ i
theorem Laid.out {L : List Nd} (_ : Laid L) {i : Nat} (hi : L.length ≤ i) : E L i = -1 := endN_none hi
theorem Laid.egt {L : List Nd} (_ : Laid L) : ∀ i, 0 ≤ E L i → (i : Int) < E L i := fun i hi => endN_gt L _ i hi
section
variable {L : List Nd} (h : Laid L)
include h
theorem Laid.ok {i : Nat} (hi : i < L.length) : 0 ≤ E L i := endN_all L L.length 0 (by have := h.2; unfold E at this; omega) i (Nat.zero_le _) (by have := h.2; unfold E at this; omega)
theorem Laid.gt {i : Nat} (hi : i < L.length) : (i : Int) < E L i := endN_gt L _ i (h.ok hi)
theorem Laid.eq {i : Nat} {nd : Nd} (hn : L[i]? = some nd) : E L i = kidsN (E L) nd.kids (i + 1) := by
  have hi : i < L.length := (List.getElem?_eq_some_iff.1 hn).1
  have h1 := endN_succ L L.length i (h.ok hi)
  rw [endN_some hn] at h1
  exact h1.symm
theorem Laid.kid {i : Nat} {nd : Nd} (hn : L[i]? = some nd) {y : Int} (hy : y ∈ nd.kids) : ∃ k : Nat, y = k ∧ i < k ∧ k < L.length ∧ E L k ≤ E L i ∧ (k : Int) < E L k := by
  have hi : i < L.length := (List.getElem?_eq_some_iff.1 hn).1
  have h0 := h.ok hi
  rw [h.eq hn] at h0
  obtain ⟨k, p1, p2, p3, p4⟩ := kidsN_kid h.egt nd.kids (i + 1) h0 y hy
  have := h.egt k p3
  have := h.le k
  exact ⟨k, p1, p2, by omega, by rw [h.eq hn]; exact p4, by omega⟩
theorem Laid.inkid {i : Nat} {nd : Nd} (hn : L[i]? = some nd) {j : Nat} (h1 : i < j) (h2 : (j : Int) < E L i) : ∃ k : Nat, (k : Int) ∈ nd.kids ∧ i < k ∧ k ≤ j ∧ (j : Int) < E L k ∧ E L k ≤ E L i := by
  have hi : i < L.length := (List.getElem?_eq_some_iff.1 hn).1
  have h0 := h.ok hi
  rw [h.eq hn] at h0 h2
  obtain ⟨k, p1, p2, p3, p4, p5, p6⟩ := kidsN_in h.egt nd.kids (i + 1) h0 j h1 h2
  exact ⟨k, p1, p2, p4, p5, by rw [h.eq hn]; exact p6⟩
theorem Laid.nest {i j : Nat} (h1 : i ≤ j) (h2 : (j : Int) < E L i) : E L j ≤ E L i := by
  rcases Nat.lt_or_ge i j with hij | hij
  · obtain ⟨nd, hn⟩ : ∃ nd, L[i]? = some nd := by
      have := h.le i
      exact ⟨_, List.getElem?_eq_getElem (by
        rcases Nat.lt_or_ge i L.length with hl | hl
        · exact hl
        · have := h.out hl; omega)⟩
    obtain ⟨k, p1, p2, p3, p4, p5⟩ := h.inkid hn hij h2
    have := Laid.nest p3 p4
    omega
  · obtain rfl : i = j := by omega
    exact Int.le_refl _
termination_by j - i
/-- one parent alone -/
theorem Laid.one {p q j : Nat} {np nq : Nd} (hp : L[p]? = some np) (hq : L[q]? = some nq) (h1 : (j : Int) ∈ np.kids) (h2 : (j : Int) ∈ nq.kids) : p = q := by
  have key : ∀ {p q : Nat} {np nq : Nd}, L[p]? = some np → L[q]? = some nq → (j : Int) ∈ np.kids → (j : Int) ∈ nq.kids → ¬ p < q := by
    intro p q np nq hp hq h1 h2 hlt
    obtain ⟨k1, e1, a1, a2, a3, a4⟩ := h.kid hp h1
    obtain ⟨k2, e2, b1, b2, b3, b4⟩ := h.kid hq h2
    obtain rfl : k1 = j := by omega
    obtain rfl : k2 = k1 := by omega
    obtain ⟨c, c1, c2, c3, c4, c5⟩ := h.inkid hp (j := q) hlt (by omega)
    have hi : p < L.length := (List.getElem?_eq_some_iff.1 hp).1
    have h0 := h.ok hi
    rw [h.eq hp] at h0
    have := kidsN_apart h.egt np.kids (p + 1) h0 c k2 c1 h1 (by omega)
    have hq' := (h.nest c3 c4)
    omega
  rcases Nat.lt_trichotomy p q with h3 | h3 | h3
  · exact absurd h3 (key hp hq h1 h2)
  · exact h3
  · exact absurd h3 (key hq hp h2 h1)
omit h in
theorem par_some {i : Int} : ∀ (l : List Nd) (p : Nat), par i l p = -1 ∨ ∃ k nd, par i l p = ((p + k : Nat) : Int) ∧ l[k]? = some nd ∧ i ∈ nd.kids
  | [], p => .inl rfl
  | nd :: l, p => by
    unfold par
    by_cases hc : nd.kids.contains i = true
    · rw [if_pos hc]
      exact .inr ⟨0, nd, rfl, rfl, by simpa using hc⟩
    · rw [if_neg hc]
      rcases par_some l (p + 1) with h | ⟨k, nd', h1, h2, h3⟩
      · exact .inl h
      · exact .inr ⟨k + 1, nd', by rw [h1]; omega, h2, h3⟩
omit h in
theorem par_hit {i : Int} : ∀ (l : List Nd) (p k : Nat) (nd : Nd), l[k]? = some nd → i ∈ nd.kids → par i l p ≠ -1
  | [], p, k, nd, h, _ => by simp at h
  | nd' :: l, p, 0, nd, h, hi => by
    obtain rfl : nd' = nd := by simpa using h
    unfold par
    rw [if_pos (by simpa using hi)]; omega
  | nd' :: l, p, k + 1, nd, h, hi => by
    unfold par
    split
    · omega
    · exact par_hit l (p + 1) k nd (by simpa using h) hi
/-- the parent of what isn't the first: just above, and below all else that it is in -/
theorem Laid.parent {j : Nat} (h0 : 0 < j) (hj : j < L.length) : ∃ p : Nat, parentN L j = p ∧ p < j ∧ (j : Int) < E L p ∧ ∀ q : Nat, q < j → (j : Int) < E L q → q ≤ p := by
  have step : ∀ (d i : Nat), j - i = d → i < j → (j : Int) < E L i → ∃ p nd, L[p]? = some nd ∧ (j : Int) ∈ nd.kids ∧ i ≤ p ∧ p < j := by
    intro d
    induction d using Nat.strongRecOn with
    | _ d ih =>
      intro i hd hi hE
      obtain ⟨nd, hn⟩ : ∃ nd, L[i]? = some nd := ⟨_, List.getElem?_eq_getElem (by omega)⟩
      obtain ⟨k, p1, p2, p3, p4, p5⟩ := h.inkid hn hi hE
      rcases Nat.lt_or_ge k j with hk | hk
      · obtain ⟨p, nd', a1, a2, a3, a4⟩ := ih (j - k) (by omega) k rfl hk p4
        exact ⟨p, nd', a1, a2, by omega, a4⟩
      · obtain rfl : k = j := by omega
        exact ⟨i, nd, hn, p1, Nat.le_refl _, hi⟩
  obtain ⟨p, np, hp1, hp2, -, hp4⟩ := step (j - 0) 0 rfl h0 (by have := h.2; omega)
  have hpar : parentN L j = p := by
    rcases par_some (i := (j : Int)) L 0 with e | ⟨k, nd, e, h2, h3⟩
    · exact absurd e (par_hit L 0 p np hp1 hp2)
    · have := h.one hp1 h2 hp2 h3
      unfold parentN
      rw [e]; omega
  obtain ⟨k, e1, a1, a2, a3, a4⟩ := h.kid hp1 hp2
  obtain rfl : k = j := by omega
  refine ⟨p, hpar, hp4, by omega, fun q hq hqE => ?_⟩
  obtain ⟨p', np', b1, b2, b3, b4⟩ := step (k - q) q rfl hq hqE
  have := h.one hp1 b1 hp2 b2
  omega
/-- what is no kid has no parent: the first, and what isn't there -/
theorem Laid.noParent {j : Int} (hj : j ≤ 0 ∨ (L.length : Int) ≤ j) : parentN L j = -1 := by
  rcases par_some (i := j) L 0 with e | ⟨k, nd, e, h2, h3⟩
  · exact e
  · obtain ⟨k', e1, a1, a2, a3, a4⟩ := h.kid h2 h3
    omega
/-- the path to i: what it is in, from above -/
theorem Laid.zero : (0 : Int) < E L 0 := by have := h.1; have := h.2; omega
end
def anc (L : List Nd) (i : Int) (k : Nat) : Bool := decide ((k : Int) ≤ i) && decide (i < E L k)
def pathL (L : List Nd) (i : Int) : List Nat := (List.range L.length).filter (anc L i)
theorem filter_split {p : Nat → Bool} {n : Nat} {pre suf : List Nat} {k : Nat} (h : (List.range n).filter p = pre ++ k :: suf) : (∀ q, q ∈ pre ↔ q < k ∧ p q = true) ∧ p k = true ∧ k < n := by
  have hs : ((List.range n).filter p).Pairwise (· < ·) := (List.pairwise_lt_range (n := n)).filter _
  rw [h] at hs
  have hmem : ∀ q, q ∈ pre ++ k :: suf ↔ q < n ∧ p q = true := fun q => by rw [← h]; simp
  have hk := (hmem k).1 (by simp)
  rw [List.pairwise_append] at hs
  obtain ⟨h1, h2, h3⟩ := hs
  refine ⟨fun q => ⟨fun hq => ⟨h3 q hq k (by simp), ((hmem q).1 (by simp [hq])).2⟩, fun ⟨h4, h5⟩ => ?_⟩, hk.2, hk.1⟩
  have := (hmem q).2 ⟨by omega, h5⟩
  rcases List.mem_append.1 this with h6 | h6
  · exact h6
  · rcases List.mem_cons.1 h6 with h6 | h6
    · omega
    · have := (List.pairwise_cons.1 h2).1 q h6
      omega
theorem Laid.path {L : List Nd} (h : Laid L) {i : Int} {pre suf : List Nat} {k : Nat} (hp : pathL L i = pre ++ k :: suf) : parentN L k = (match pre.getLast? with | some q => (q : Int) | none => -1) ∧ anc L i k = true ∧ k < L.length := by
  obtain ⟨hm, hk, hkn⟩ := filter_split hp
  refine ⟨?_, hk, hkn⟩
  have hka : (k : Int) ≤ i ∧ i < E L k := by simpa [anc] using hk
  rcases Nat.eq_zero_or_pos k with rfl | hpos
  · have hpre : pre = [] := List.eq_nil_iff_forall_not_mem.2 fun q hq => by have := ((hm q).1 hq).1; omega
    rw [hpre]
    exact h.noParent (.inl (by simp))
  · obtain ⟨p, e, h1, h2, h3⟩ := h.parent hpos hkn
    have hpk : E L k ≤ E L p := h.nest (by omega) h2
    have hpm : p ∈ pre := (hm p).2 ⟨h1, by simp only [anc, Bool.and_eq_true, decide_eq_true_eq]; omega⟩
    have hmax : ∀ q ∈ pre, q ≤ p := fun q hq => by
      obtain ⟨q1, q2⟩ := (hm q).1 hq
      have q3 : (q : Int) ≤ i ∧ i < E L q := by simpa [anc] using q2
      exact h3 q q1 (by omega)
    have hs : pre.Pairwise (· < ·) := by
      have hs : (pathL L i).Pairwise (· < ·) := (List.pairwise_lt_range (n := L.length)).filter _
      rw [hp] at hs
      exact (List.pairwise_append.1 hs).1
    obtain ⟨a, b, rfl⟩ := List.append_of_mem hpm
    have hb : b = [] := List.eq_nil_iff_forall_not_mem.2 fun q hq => by
      have := hmax q (by simp [hq])
      have := (List.pairwise_cons.1 (List.pairwise_append.1 hs).2.1).1 q hq
      omega
    subst hb
    rw [e]
    simp
theorem Laid.last {L : List Nd} (h : Laid L) {i : Nat} (hi : i < L.length) : ∃ pre, pathL L i = pre ++ [i] := by
  have hm : i ∈ pathL L i := List.mem_filter.2 ⟨by simpa using hi, by have := h.gt hi; simp [anc]; omega⟩
  obtain ⟨a, b, e⟩ := List.append_of_mem hm
  have hs : (pathL L i).Pairwise (· < ·) := (List.pairwise_lt_range (n := L.length)).filter _
  rw [e] at hs
  have hb : b = [] := List.eq_nil_iff_forall_not_mem.2 fun q hq => by
    have h1 := (List.pairwise_cons.1 (List.pairwise_append.1 hs).2.1).1 q hq
    have h2 : q ∈ pathL L i := by rw [e]; simp [hq]
    have h3 : (q : Int) ≤ (i : Int) ∧ (i : Int) < E L q := by simpa [anc] using (List.mem_filter.1 h2).2
    omega
  exact ⟨a, by rw [e, hb]⟩
theorem Laid.nopath {L : List Nd} (h : Laid L) {i : Int} (hi : i < 0 ∨ (L.length : Int) ≤ i) : pathL L i = [] := by
  refine List.eq_nil_iff_forall_not_mem.2 fun q hq => ?_
  have h3 : (q : Int) ≤ i ∧ i < E L q := by simpa [anc] using (List.mem_filter.1 hq).2
  have := h.le q
  omega
end Go.Proofs.YtckgbalmpddblaaDoor.As
