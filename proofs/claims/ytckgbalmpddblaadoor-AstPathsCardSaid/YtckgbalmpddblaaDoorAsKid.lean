/-
  Of a right tree: a node's kids rise; the last kid that isn't beyond a node; the path down, kid by kid. Pure: no program.
-/
import Derived.Test.YtckgbalmpddblaaDoorAsSpec
set_option linter.unusedVariables false
set_option linter.unusedSimpArgs false
namespace Go.Proofs.YtckgbalmpddblaaDoor.As

theorem kidsN_rise {e : Nat → Int} (he : ∀ i, 0 ≤ e i → (i : Int) < e i) : ∀ (ks : List Int) (n : Nat), 0 ≤ kidsN e ks n → ks.Pairwise (· < ·) ∧ (∀ y ∈ ks, (n : Int) ≤ y) ∧ (n : Int) + ks.length ≤ kidsN e ks n
  | [], n, _ => ⟨List.Pairwise.nil, by simp, by simp [kidsN]⟩
  | k :: ks, n, h => by
    unfold kidsN at h ⊢
    split at h
    · rename_i hk
      rw [if_pos hk]
      split at h
      · omega
      · rename_i hm
        rw [if_neg hm]
        have h1 := he n (by omega)
        obtain ⟨s, g, l⟩ := kidsN_rise he ks (e n).toNat h
        refine ⟨List.Pairwise.cons (fun y hy => ?_) s, fun y hy => ?_, ?_⟩
        · have := g y hy; omega
        · rcases List.mem_cons.1 hy with rfl | hy
          · omega
          · have := g y hy; omega
        · simp only [List.length_cons]; omega
    · omega
section
variable {L : List Nd} (h : Laid L)
include h
theorem Laid.rise {i : Nat} {nd : Nd} (hn : L[i]? = some nd) : nd.kids.Pairwise (· < ·) ∧ (∀ y ∈ nd.kids, (i : Int) < y) ∧ nd.kids.length ≤ L.length := by
  have hi : i < L.length := (List.getElem?_eq_some_iff.1 hn).1
  have h0 := h.ok hi
  have hle := h.le i
  rw [h.eq hn] at h0 hle
  obtain ⟨s, g, l⟩ := kidsN_rise h.egt nd.kids (i + 1) h0
  exact ⟨s, fun y hy => by have := g y hy; omega, by omega⟩
end
/-- the last kid of a that isn't beyond i -/
def kidO (L : List Nd) (a : Nat) (i : Int) : Option Int := match L[a]? with
  | some nd => (nd.kids.filter fun y => decide (y ≤ i)).getLast?
  | none => none
theorem filter_take {ks : List Int} {p : Nat} {x : Int} (h1 : ∀ (t : Nat) y, t < p → ks[t]? = some y → y < x + 1) (h2 : ∀ (t : Nat) y, p ≤ t → ks[t]? = some y → x + 1 ≤ y) : (ks.filter fun y => decide (y ≤ x)) = ks.take p := by
  conv => lhs; rw [← List.take_append_drop p ks]
  rw [List.filter_append]
  have e1 : (ks.take p).filter (fun y => decide (y ≤ x)) = ks.take p := List.filter_eq_self.2 fun y hy => by
    obtain ⟨t, ht, rfl⟩ := List.mem_iff_getElem.1 hy
    have hlt : t < p ∧ t < ks.length := by rw [List.length_take] at ht; omega
    have := h1 t _ hlt.1 (List.getElem?_eq_getElem hlt.2)
    simp only [List.getElem_take, decide_eq_true_eq]; omega
  have e2 : (ks.drop p).filter (fun y => decide (y ≤ x)) = [] := List.filter_eq_nil_iff.2 fun y hy => by
    obtain ⟨t, ht, rfl⟩ := List.mem_iff_getElem.1 hy
    have hlt : p + t < ks.length := by rw [List.length_drop] at ht; omega
    have := h2 (p + t) _ (by omega) (List.getElem?_eq_getElem hlt)
    simp only [List.getElem_drop, decide_eq_true_eq]; omega
  rw [e1, e2, List.append_nil]
theorem kidO_take {L : List Nd} {a : Nat} {i : Int} {nd : Nd} (hn : L[a]? = some nd) {p : Nat} (h1 : ∀ (t : Nat) y, t < p → nd.kids[t]? = some y → y < i + 1) (h2 : ∀ (t : Nat) y, p ≤ t → nd.kids[t]? = some y → i + 1 ≤ y) :
    kidO L a i = (nd.kids.take p).getLast? := by
  unfold kidO
  rw [hn]
  show (nd.kids.filter _).getLast? = _
  rw [filter_take h1 h2]
theorem last_take {ks : List Int} {p : Nat} {y : Int} (hp : 0 < p) (hy : ks[p - 1]? = some y) : (ks.take p).getLast? = some y := by
  have hlt := (List.getElem?_eq_some_iff.1 hy).1
  rw [List.getLast?_eq_getElem?, List.length_take, List.getElem?_take, if_pos (by omega), show min p ks.length - 1 = p - 1 by omega]
  exact hy
theorem kidO_mem {L : List Nd} {a : Nat} {i k : Int} (h : kidO L a i = some k) : ∃ nd, L[a]? = some nd ∧ k ∈ nd.kids ∧ k ≤ i := by
  unfold kidO at h
  split at h
  · rename_i nd hn
    have hm := List.mem_of_getLast? h
    have := List.mem_filter.1 hm
    exact ⟨nd, hn, this.1, by simpa using this.2⟩
  · cases h
section
variable {L : List Nd} (h : Laid L)
include h
/-- the last kid is the greatest -/
theorem Laid.kidO_ge {a : Nat} {i k y : Int} {nd : Nd} (hn : L[a]? = some nd) (hk : kidO L a i = some k) (hy : y ∈ nd.kids) (hyi : y ≤ i) : y ≤ k := by
  have hs := (h.rise hn).1
  unfold kidO at hk
  rw [hn] at hk
  have hk : (nd.kids.filter fun y => decide (y ≤ i)).getLast? = some k := hk
  obtain ⟨pre, e⟩ := List.getLast?_eq_some_iff.1 hk
  have hs2 : (nd.kids.filter fun y => decide (y ≤ i)).Pairwise (· < ·) := hs.filter _
  have hm : y ∈ nd.kids.filter fun y => decide (y ≤ i) := List.mem_filter.2 ⟨hy, by simpa using hyi⟩
  rw [e] at hs2 hm
  rcases List.mem_append.1 hm with hm | hm
  · exact Int.le_of_lt ((List.pairwise_append.1 hs2).2.2 y hm k (by simp))
  · simp at hm; omega
omit h in
theorem kidO_none {a : Nat} {i y : Int} {nd : Nd} (hn : L[a]? = some nd) (hk : kidO L a i = none) (hy : y ∈ nd.kids) : i < y := by
  unfold kidO at hk
  rw [hn] at hk
  have hk : (nd.kids.filter fun y => decide (y ≤ i)).getLast? = none := hk
  rw [List.getLast?_eq_none_iff] at hk
  have := List.filter_eq_nil_iff.1 hk y hy
  simpa using this
/-- two kids that hold a node are one -/
theorem Laid.same_kid {a : Nat} {nd : Nd} (hn : L[a]? = some nd) {c k : Nat} {i : Int} (hc : (c : Int) ∈ nd.kids) (hk : (k : Int) ∈ nd.kids) (h1 : (c : Int) ≤ i) (h2 : i < E L c) (h3 : (k : Int) ≤ i) (h4 : c ≤ k) : c = k := by
  rcases Nat.lt_or_ge c k with hlt | hge
  · have hi : a < L.length := (List.getElem?_eq_some_iff.1 hn).1
    have h0 := h.ok hi
    rw [h.eq hn] at h0
    have := kidsN_apart h.egt nd.kids (a + 1) h0 c k hc hk hlt
    omega
  · omega
/-- one step down -/
theorem Laid.down {a : Nat} {i : Nat} (hi : i < L.length) (ha : anc L i a = true) : (a = i ∧ kidO L a i = none) ∨ ∃ k : Nat, kidO L a i = some (k : Int) ∧ anc L i k = true ∧ a < k ∧ k ≤ i ∧ ∀ q : Nat, anc L i q = true → a < q → k ≤ q := by
  have ha' : (a : Int) ≤ i ∧ (i : Int) < E L a := by simpa [anc] using ha
  obtain ⟨nd, hn⟩ : ∃ nd, L[a]? = some nd := ⟨_, List.getElem?_eq_getElem (by omega)⟩
  rcases Nat.lt_or_ge a i with hlt | hge
  · right
    obtain ⟨c, c1, c2, c3, c4, c5⟩ := h.inkid hn hlt ha'.2
    cases hk : kidO L a i with
    | none => have := kidO_none hn hk c1; omega
    | some k =>
      obtain ⟨nd', hn', k1, k2⟩ := kidO_mem hk
      obtain rfl : nd = nd' := Option.some.inj (hn.symm.trans hn')
      have hck := h.kidO_ge hn hk c1 (by omega)
      obtain ⟨k', rfl, d1, d2, d3, d4⟩ := h.kid hn k1
      obtain rfl := h.same_kid hn c1 k1 (i := (i : Int)) (by omega) c4 k2 (by omega)
      refine ⟨c, rfl, by simp [anc]; omega, c2, c3, fun q hq haq => ?_⟩
      have hq' : (q : Int) ≤ i ∧ (i : Int) < E L q := by simpa [anc] using hq
      obtain ⟨c', e1, e2, e3, e4, e5⟩ := h.inkid hn haq (by omega)
      have hnest := h.nest e3 e4
      rcases Nat.le_total c c' with hcc | hcc
      · omega
      · have := h.same_kid hn e1 c1 (i := (i : Int)) (by omega) (by omega) (by omega) hcc
        omega
  · obtain rfl : a = i := by omega
    left
    refine ⟨rfl, ?_⟩
    cases hk : kidO L a a with
    | none => rfl
    | some k =>
      obtain ⟨nd', hn', k1, k2⟩ := kidO_mem hk
      have := (h.rise hn').2.1 k k1
      omega
/-- the last kid of all: where the part ends -/
theorem Laid.lastKid {a : Nat} (ha : a < L.length) : (kidO L a (L.length - 1 : Int) = none ∧ E L a = a + 1) ∨ ∃ k : Nat, kidO L a (L.length - 1 : Int) = some (k : Int) ∧ a < k ∧ k < L.length ∧ E L k = E L a := by
  obtain ⟨nd, hn⟩ : ∃ nd, L[a]? = some nd := ⟨_, List.getElem?_eq_getElem ha⟩
  have hgt := h.gt ha
  have hle := h.le a
  cases hk : kidO L a (L.length - 1 : Int) with
  | none =>
    left
    refine ⟨rfl, ?_⟩
    rcases Int.lt_or_le ((a : Int) + 1) (E L a) with hlt | hge
    · obtain ⟨c, c1, c2, c3, c4, c5⟩ := h.inkid hn (j := (E L a).toNat - 1) (by omega) (by omega)
      have := kidO_none hn hk c1
      obtain ⟨c', e, e1, e2, _⟩ := h.kid hn c1
      omega
    · omega
  | some k =>
    right
    obtain ⟨nd', hn', k1, k2⟩ := kidO_mem hk
    obtain rfl : nd = nd' := Option.some.inj (hn.symm.trans hn')
    obtain ⟨k', rfl, d1, d2, d3, d4⟩ := h.kid hn k1
    refine ⟨k', rfl, d1, d2, ?_⟩
    obtain ⟨c, c1, c2, c3, c4, c5⟩ := h.inkid hn (j := (E L a).toNat - 1) (by omega) (by omega)
    obtain ⟨c', e, e1, e2, _⟩ := h.kid hn c1
    have hck := h.kidO_ge hn hk c1 (by omega)
    rcases Nat.lt_or_ge c k' with hlt | hge
    · have h0 := h.ok ha
      rw [h.eq hn] at h0
      have := kidsN_apart h.egt nd.kids (a + 1) h0 c k' c1 k1 hlt
      omega
    · obtain rfl : c = k' := by omega
      omega
/-- the path, node by node -/
theorem Laid.path_first {i : Nat} (hi : i < L.length) : anc L i 0 = true := by
  have := h.2
  simp [anc]; omega
end
def below (L : List Nd) (i : Int) (a : Nat) : List Nat := (pathL L i).filter fun q => decide (q < a)
theorem below_zero (L : List Nd) (i : Int) : below L i 0 = [] := List.filter_eq_nil_iff.2 fun q _ => by simp
theorem filter_lt_snoc {p : Nat → Bool} {a k : Nat} (hak : a < k) (ha : p a = true) (hno : ∀ q, p q = true → a < q → k ≤ q) : ∀ (n : Nat), a < n → ((List.range n).filter p).filter (fun q => decide (q < k)) = ((List.range n).filter p).filter (fun q => decide (q < a)) ++ [a]
  | 0, h => absurd h (by omega)
  | n + 1, h => by
    rw [List.range_succ, List.filter_append, List.filter_append, List.filter_append]
    rcases Nat.lt_or_ge a n with hlt | hge
    · rw [filter_lt_snoc hak ha hno n hlt]
      have e1 : (([n].filter p).filter fun q => decide (q < k)) = [] := List.filter_eq_nil_iff.2 fun q hq => by
        have hm := List.mem_filter.1 hq
        obtain rfl : q = n := by simpa using hm.1
        have := hno q hm.2 hlt
        simp; omega
      have e2 : (([n].filter p).filter fun q => decide (q < a)) = [] := List.filter_eq_nil_iff.2 fun q hq => by
        have hm := List.mem_filter.1 hq
        obtain rfl : q = n := by simpa using hm.1
        simp; omega
      rw [e1, e2, List.append_nil, List.append_nil]
    · obtain rfl : a = n := by omega
      have e0 : ((List.range a).filter p).filter (fun q => decide (q < k)) = ((List.range a).filter p).filter (fun q => decide (q < a)) := List.filter_congr fun q hq => by
        have := List.mem_range.1 (List.mem_filter.1 hq).1
        simp; omega
      rw [e0]
      simp [ha, hak]
theorem below_step {L : List Nd} {i : Int} {a k : Nat} (hn : a < L.length) (hak : a < k) (ha : anc L i a = true) (hno : ∀ q, anc L i q = true → a < q → k ≤ q) : below L i k = below L i a ++ [a] := filter_lt_snoc hak ha hno _ hn
theorem below_all {L : List Nd} {i : Nat} (h : Laid L) (hi : i < L.length) : pathL L i = below L i i ++ [i] := by
  have e := below_step (L := L) (i := (i : Int)) (a := i) (k := i + 1) hi (by omega) (by have := h.gt hi; simp [anc]; omega) (fun q hq haq => by
    have : (q : Int) ≤ i ∧ (i : Int) < E L q := by simpa [anc] using hq
    omega)
  rw [← e]
  exact (List.filter_eq_self.2 fun q hq => by
    have : (q : Int) ≤ (i : Int) ∧ (i : Int) < E L q := by simpa [anc] using (List.mem_filter.1 hq).2
    simp; omega).symm
theorem below_pre {L : List Nd} {i : Int} {a : Nat} (hn : a < L.length) (ha : anc L i a = true) : below L i a ++ [a] <+: pathL L i := by
  unfold below pathL
  have e : List.range L.length = List.range a ++ (a :: (List.range (L.length - a - 1)).map fun t => a + 1 + t) := by
    apply List.ext_getElem?
    intro t
    rcases Nat.lt_trichotomy t a with h1 | h1 | h1
    · rw [List.getElem?_append_left (by simpa using h1), List.getElem?_range (by omega), List.getElem?_range h1]
    · subst h1
      rw [List.getElem?_append_right (by simp), List.getElem?_range hn]; simp
    · rw [List.getElem?_append_right (by simp; omega)]
      rcases Nat.lt_or_ge t L.length with h2 | h2
      · rw [List.getElem?_range h2, List.length_range, show t - a = (t - a - 1) + 1 by omega, List.getElem?_cons_succ, List.getElem?_map, List.getElem?_range (by omega)]
        simp; omega
      · rw [List.getElem?_eq_none (by simpa using h2), List.getElem?_eq_none (by simp; omega)]
  rw [e, List.filter_append, List.filter_append]
  have e1 : ((List.range a).filter (anc L i)).filter (fun q => decide (q < a)) = (List.range a).filter (anc L i) := List.filter_eq_self.2 fun q hq => by
    have := List.mem_range.1 (List.mem_filter.1 hq).1
    simpa using this
  have e2 : ((a :: (List.range (L.length - a - 1)).map fun t => a + 1 + t).filter (anc L i)).filter (fun q => decide (q < a)) = [] := List.filter_eq_nil_iff.2 fun q hq => by
    rcases List.mem_cons.1 (List.mem_filter.1 hq).1 with rfl | hm
    · simp
    · obtain ⟨t, _, rfl⟩ := List.mem_map.1 hm
      simp; omega
  rw [e1, e2, List.append_nil, List.filter_cons, if_pos ha]
  exact ⟨((List.range (L.length - a - 1)).map fun t => a + 1 + t).filter (anc L i), by simp⟩
end Go.Proofs.YtckgbalmpddblaaDoor.As
