/-
  The nodes stand in order: what the program's walk from behind tells, against where parts end. Pure: no program.
-/
import Derived.Test.YtckgbalmpddblaaDoorAsKid
set_option linter.unusedVariables false
set_option linter.unusedSimpArgs false
namespace Go.Proofs.YtckgbalmpddblaaDoor.As

def hasI (n : Nat) (i : Int) : Bool := decide (0 ≤ i) && decide (i < n)
def covB (nd kid : Nd) : Bool := decide (nd.from_ ≤ kid.from_) && decide (kid.to_ ≤ nd.to_)
def covAt (L : List Nd) (nd : Nd) (k : Nat) : Bool := match L[k]? with
  | some kid => covB nd kid
  | none => false
/-- do the kids stand one behind the other, where ends are as told? -/
def kidsB (L : List Nd) (nd : Nd) (e : Nat → Int) : List Int → Int → Bool
  | [], _ => true
  | k :: ks, en => decide (k = en) && hasI L.length k && covAt L nd k.toNat && kidsB L nd e ks (e k.toNat)
def kidsZ (e : Nat → Int) : List Int → Int → Int
  | [], en => en
  | k :: ks, en => kidsZ e ks (e k.toNat)
def nodeOk (L : List Nd) (i : Nat) : Bool := match L[i]? with
  | some nd => kidsB L nd (E L) nd.kids ((i : Int) + 1)
  | none => true
def ordB (L : List Nd) : Bool := (List.range L.length).all (nodeOk L) && decide (E L 0 = L.length)

theorem kids_congr {L : List Nd} {nd : Nd} {e e' : Nat → Int} {i : Nat} (h : ∀ j : Nat, i < j → j < L.length → e' j = e j ∧ (j : Int) < e j) : ∀ (ks : List Int) (en : Int), (i : Int) < en → kidsB L nd e' ks en = kidsB L nd e ks en ∧ (kidsB L nd e ks en = true → kidsZ e' ks en = kidsZ e ks en)
  | [], en, _ => ⟨rfl, fun _ => rfl⟩
  | k :: ks, en, hen => by
    unfold kidsB kidsZ
    by_cases hk : k = en ∧ hasI L.length k = true
    · obtain ⟨rfl, hh⟩ := hk
      have hb : 0 ≤ k ∧ k < L.length := by unfold hasI at hh; simpa using hh
      obtain ⟨h1, h2⟩ := h k.toNat (by omega) (by omega)
      rw [h1]
      obtain ⟨g1, g2⟩ := kids_congr h ks (e k.toNat) (by omega)
      rw [g1]
      refine ⟨rfl, fun ht => g2 ?_⟩
      simp only [Bool.and_eq_true] at ht
      exact ht.2
    · have hf : (decide (k = en) && hasI L.length k) = false := by
        rw [Bool.eq_false_iff, ne_eq, Bool.and_eq_true, decide_eq_true_eq]; exact hk
      rw [hf]
      simp
theorem kids_N {L : List Nd} {nd : Nd} {i : Nat} (h : ∀ j : Nat, i < j → j < L.length → (j : Int) < E L j) : ∀ (ks : List Int) (en : Nat), i < en → kidsB L nd (E L) ks en = true → kidsN (E L) ks en = kidsZ (E L) ks en ∧ (en : Int) ≤ kidsZ (E L) ks en
  | [], en, _, _ => ⟨rfl, by simp [kidsZ]⟩
  | k :: ks, en, hen, hb => by
    unfold kidsB at hb
    simp only [Bool.and_eq_true, decide_eq_true_eq] at hb
    obtain ⟨⟨⟨rfl, hh⟩, _⟩, hb⟩ := hb
    have hbd : en < L.length := by unfold hasI at hh; simpa using hh
    have hgt := h en hen hbd
    rw [Int.toNat_natCast] at hb
    have ecast : E L en = ((E L en).toNat : Int) := by omega
    rw [ecast] at hb
    obtain ⟨g1, g2⟩ := kids_N h ks (E L en).toNat (by omega) hb
    unfold kidsN kidsZ
    rw [if_pos rfl, if_neg (by omega), Int.toNat_natCast, g1, ← ecast]
    rw [← ecast] at g2
    exact ⟨rfl, by omega⟩
theorem kidsN_up {e e' : Nat → Int} {lo : Nat} (h : ∀ j, lo ≤ j → 0 ≤ e j → e' j = e j ∧ (j : Int) < e j) : ∀ (ks : List Int) (n : Nat), lo ≤ n → 0 ≤ kidsN e ks n → kidsN e' ks n = kidsN e ks n
  | [], n, _, _ => rfl
  | k :: ks, n, hn, hk => by
    unfold kidsN at hk ⊢
    split at hk
    · rename_i h1
      split at hk
      · omega
      · rename_i h2
        obtain ⟨g1, g2⟩ := h n hn (by omega)
        rw [if_pos h1, if_pos h1, g1, if_neg h2, if_neg h2]
        exact kidsN_up h ks _ (by omega) hk
    · omega
/-- all nodes from i on are right by themselves -/
def Good (L : List Nd) (i : Nat) : Prop := ∀ j, i ≤ j → j < L.length → 0 ≤ endN L (L.length - j) j ∧ nodeOk L j = true
theorem Good.e {L : List Nd} {i j : Nat} (h : Good L i) (h1 : i ≤ j) (h2 : j < L.length) : E L j = endN L (L.length - j) j ∧ (j : Int) < E L j := by
  have h0 := (h j h1 h2).1
  have e : E L j = endN L (L.length - j) j := endN_mono L h0 (by omega)
  exact ⟨e, by rw [e]; exact endN_gt L _ j h0⟩
theorem Good.step {L : List Nd} {i : Nat} {nd : Nd} (h : Good L (i + 1)) (hn : L[i]? = some nd) (hk : kidsB L nd (E L) nd.kids ((i : Int) + 1) = true) : Good L i ∧ E L i = kidsZ (E L) nd.kids ((i : Int) + 1) := by
  have hi : i < L.length := (List.getElem?_eq_some_iff.1 hn).1
  have hgt : ∀ j : Nat, i < j → j < L.length → (j : Int) < E L j := fun j h1 h2 => (h.e h1 h2).2
  have hk' : kidsB L nd (E L) nd.kids ((i + 1 : Nat) : Int) = true := by rw [show ((i + 1 : Nat) : Int) = (i : Int) + 1 by omega]; exact hk
  obtain ⟨g1, g2⟩ := kids_N hgt nd.kids (i + 1) (by omega) hk'
  rw [show ((i + 1 : Nat) : Int) = (i : Int) + 1 by omega] at g1 g2
  have hf : endN L (L.length - i) i = kidsN (E L) nd.kids (i + 1) := by
    rw [show L.length - i = (L.length - i - 1) + 1 by omega, endN_some hn]
    refine kidsN_up (lo := i + 1) (fun j h1 h2 => ?_) nd.kids (i + 1) (Nat.le_refl _) (by omega)
    rcases Nat.lt_or_ge j L.length with hj | hj
    · obtain ⟨e1, e2⟩ := h.e h1 hj
      exact ⟨(endN_mono L (h j h1 hj).1 (by omega)).trans e1.symm, e2⟩
    · have : E L j = -1 := endN_none hj
      omega
  have h0 : 0 ≤ endN L (L.length - i) i := by rw [hf, g1]; omega
  refine ⟨fun j h1 h2 => ?_, ?_⟩
  · rcases Nat.lt_or_ge i j with hij | hij
    · exact h j hij h2
    · obtain rfl : j = i := by omega
      exact ⟨h0, by unfold nodeOk; rw [hn]; exact hk⟩
  · rw [show E L i = endN L (L.length - i) i from endN_mono L h0 (by omega), hf, g1]
theorem Good.ord {L : List Nd} (h : Good L 0) : ordB L = decide (E L 0 = L.length) := by
  unfold ordB
  rw [List.all_eq_true.2 fun j hj => (h j (Nat.zero_le _) (List.mem_range.1 hj)).2, Bool.true_and]
theorem ord_false {L : List Nd} {i : Nat} {nd : Nd} (hn : L[i]? = some nd) (hk : kidsB L nd (E L) nd.kids ((i : Int) + 1) = false) : ordB L = false := by
  unfold ordB
  rw [show (List.range L.length).all (nodeOk L) = false from by
    rw [Bool.eq_false_iff, ne_eq]
    intro h
    have := List.all_eq_true.1 h i (List.mem_range.2 (List.getElem?_eq_some_iff.1 hn).1)
    unfold nodeOk at this
    rw [hn] at this
    exact absurd (this.symm.trans hk) (by simp)]
  rfl
theorem Good.top (L : List Nd) : Good L L.length := fun j h1 h2 => absurd h2 (by omega)

/-- the nodes, from behind -/
def items (n : Nat) : List (Fin n) := (List.finRange n).reverse
theorem items_len (n : Nat) : (items n).length = n := by simp [items]
theorem items_at {n p : Nat} (h : p < n) : (items n)[p]? = some ⟨n - 1 - p, by omega⟩ := by
  unfold items
  rw [List.getElem?_reverse (by simpa using h), List.length_finRange, List.getElem?_eq_getElem (by simp; omega)]
  simp
/-- WHAT IS KNOWN OF THE ENDS when the nodes of pre are done -/
def Known (L : List Nd) (es : List Int) (pre : List (Fin L.length)) : Prop := pre <+: items L.length → Good L (L.length - pre.length) ∧ ∀ j : Nat, L.length - pre.length ≤ j → j < L.length → es.getD j 0 = E L j
theorem known_nil (L : List Nd) (es : List Int) : Known L es [] := fun _ => ⟨by rw [List.length_nil, Nat.sub_zero]; exact Good.top L, fun j h1 h2 => absurd h2 (by simp at h1; omega)⟩
theorem pre_at {n : Nat} {pre : List (Fin n)} {x : Fin n} (h : pre ++ [x] <+: items n) : pre <+: items n ∧ pre.length < n ∧ x.val = n - 1 - pre.length := by
  have hl := h.length_le
  rw [List.length_append, items_len] at hl
  simp only [List.length_cons, List.length_nil] at hl
  refine ⟨(List.prefix_append _ _).trans h, by omega, ?_⟩
  obtain ⟨s, hs⟩ := h
  have h1 : (items n)[pre.length]? = some x := by rw [← hs]; simp
  rw [items_at (by omega)] at h1
  have := Option.some.inj h1
  rw [← this]
theorem known_kids {L : List Nd} {es : List Int} {pre : List (Fin L.length)} {x : Fin L.length} (h : Known L es pre) (hp : pre ++ [x] <+: items L.length) : Good L (x.val + 1) ∧ ∀ j : Nat, x.val < j → j < L.length → (fun j => es.getD j 0) j = E L j ∧ (j : Int) < E L j := by
  obtain ⟨h1, h2, h3⟩ := pre_at hp
  obtain ⟨g, he⟩ := h h1
  have e : L.length - pre.length = x.val + 1 := by omega
  rw [e] at g he
  exact ⟨g, fun j h4 h5 => ⟨he j h4 h5, (g.e h4 h5).2⟩⟩
theorem known_snoc {L : List Nd} {es : List Int} {pre : List (Fin L.length)} {x : Fin L.length} {nd : Nd} (h : Known L es pre) (hes : es.length = L.length) (hn : L[x.val]? = some nd) (hk : kidsB L nd (fun j => es.getD j 0) nd.kids ((x.val : Int) + 1) = true) :
    Known L (es.set x.val (kidsZ (fun j => es.getD j 0) nd.kids ((x.val : Int) + 1))) (pre ++ [x]) := fun hp => by
  obtain ⟨g, he⟩ := known_kids h hp
  obtain ⟨h1, h2, h3⟩ := pre_at hp
  obtain ⟨c1, c2⟩ := kids_congr (nd := nd) he nd.kids ((x.val : Int) + 1) (by omega)
  rw [c1] at hk
  have hz := c2 hk
  obtain ⟨s1, s2⟩ := g.step hn hk
  have e : L.length - (pre ++ [x]).length = x.val := by simp; omega
  rw [e]
  refine ⟨s1, fun j h4 h5 => ?_⟩
  rw [hz, ← s2]
  rcases Nat.lt_or_ge x.val j with hj | hj
  · rw [List.getD, List.getElem?_set_ne (by omega)]
    exact (he j hj h5).1
  · obtain rfl : j = x.val := by omega
    rw [List.getD, List.getElem?_set_self (by rw [hes]; exact h5)]
    rfl
theorem known_bad {L : List Nd} {es : List Int} {pre : List (Fin L.length)} {x : Fin L.length} {nd : Nd} (h : Known L es pre) (hn : L[x.val]? = some nd) (hk : kidsB L nd (fun j => es.getD j 0) nd.kids ((x.val : Int) + 1) = false) (hp : pre ++ [x] <+: items L.length) : ordB L = false := by
  obtain ⟨g, he⟩ := known_kids h hp
  obtain ⟨c1, c2⟩ := kids_congr (nd := nd) he nd.kids ((x.val : Int) + 1) (by omega)
  rw [c1] at hk
  exact ord_false hn hk
theorem known_all {L : List Nd} {es : List Int} (hpos : 0 < L.length) (h : Known L es (items L.length)) : ordB L = decide (es.getD 0 0 = (L.length : Int)) := by
  obtain ⟨g, he⟩ := h (List.prefix_refl _)
  rw [items_len, Nat.sub_self] at g he
  rw [g.ord, he 0 (Nat.le_refl _) hpos]
theorem kidsB_drop {L : List Nd} {nd : Nd} {e : Nat → Int} {ks : List Int} {k : Nat} {y : Int} (h : ks[k]? = some y) (en : Int) : kidsB L nd e (ks.drop k) en = (decide (y = en) && hasI L.length y && covAt L nd y.toNat && kidsB L nd e (ks.drop (k + 1)) (e y.toNat)) ∧ kidsZ e (ks.drop k) en = kidsZ e (ks.drop (k + 1)) (e y.toNat) := by
  obtain ⟨hk, rfl⟩ := List.getElem?_eq_some_iff.1 h
  rw [List.drop_eq_getElem_cons hk]
  exact ⟨rfl, rfl⟩
end Go.Proofs.YtckgbalmpddblaaDoor.As
