/-
  Where a node's part ends, by its kids' numbers; whose kid a node is. Pure: no program.
-/
import Derived.Test.YtckgbalmpddblaaDoorAsMem
set_option linter.unusedVariables false
set_option linter.unusedSimpArgs false
namespace Go.Proofs.YtckgbalmpddblaaDoor.As

def kidsN (e : Nat → Int) : List Int → Nat → Int
  | [], next => next
  | k :: ks, next => if k = (next : Int) then (if e next < 0 then -1 else kidsN e ks (e next).toNat) else -1
def endN (L : List Nd) : Nat → Nat → Int
  | 0, _ => -1
  | f + 1, i => match L[i]? with
    | none => -1
    | some nd => kidsN (endN L f) nd.kids (i + 1)
theorem kidsN_ge {e : Nat → Int} (he : ∀ i, 0 ≤ e i → (i : Int) < e i) : ∀ (ks : List Int) (n : Nat), 0 ≤ kidsN e ks n → (n : Int) ≤ kidsN e ks n
  | [], n, _ => by simp [kidsN]
  | k :: ks, n, h => by
    unfold kidsN at h ⊢
    split at h
    · rename_i hk
      rw [if_pos hk]
      split at h
      · omega
      · rename_i hm
        rw [if_neg hm]
        have h1 := he n (by omega)
        have h2 := kidsN_ge he ks (e n).toNat h
        omega
    · omega
theorem endN_gt (L : List Nd) : ∀ (f i : Nat), 0 ≤ endN L f i → (i : Int) < endN L f i
  | 0, i, h => by simp [endN] at h
  | f + 1, i, h => by
    cases hL : L[i]? with
    | none =>
      unfold endN at h
      rw [hL] at h
      simp at h
    | some nd =>
      have e : endN L (f + 1) i = kidsN (endN L f) nd.kids (i + 1) := by unfold endN; rw [hL]
      rw [e] at h ⊢
      have := kidsN_ge (endN_gt L f) nd.kids (i + 1) h
      omega
theorem kidsN_le {e : Nat → Int} {m : Nat} (he : ∀ i, e i ≤ m) : ∀ (ks : List Int) (n : Nat), n ≤ m → kidsN e ks n ≤ m
  | [], n, h => by simp [kidsN]; omega
  | k :: ks, n, h => by
    unfold kidsN
    split
    · split
      · omega
      · exact kidsN_le he ks _ (by have := he n; omega)
    · omega
theorem endN_le (L : List Nd) : ∀ (f i : Nat), endN L f i ≤ L.length
  | 0, i => by show (-1 : Int) ≤ _; omega
  | f + 1, i => by
    cases hL : L[i]? with
    | none => unfold endN; rw [hL]; show (-1 : Int) ≤ _; omega
    | some nd =>
      have e : endN L (f + 1) i = kidsN (endN L f) nd.kids (i + 1) := by unfold endN; rw [hL]
      rw [e]
      exact kidsN_le (endN_le L f) nd.kids (i + 1) (List.getElem?_eq_some_iff.1 hL).1
theorem endN_some {L : List Nd} {f i : Nat} {nd : Nd} (h : L[i]? = some nd) : endN L (f + 1) i = kidsN (endN L f) nd.kids (i + 1) := by
  unfold endN
  rw [h]
theorem endN_none {L : List Nd} {f i : Nat} (h : L.length ≤ i) : endN L f i = -1 := by
  cases f with
  | zero => rfl
  | succ f => unfold endN; rw [List.getElem?_eq_none h]
theorem kidsN_end {e : Nat → Int} {ks : List Int} {k n : Nat} (h : ks.length ≤ k) : kidsN e (ks.drop k) n = n := by
  rw [List.drop_of_length_le h]; rfl
theorem kidsN_at {e : Nat → Int} {ks : List Int} {k n : Nat} {y : Int} (h : ks[k]? = some y) : kidsN e (ks.drop k) n = if y = (n : Int) then (if e n < 0 then -1 else kidsN e (ks.drop (k + 1)) (e n).toNat) else -1 := by
  obtain ⟨hk, rfl⟩ := List.getElem?_eq_some_iff.1 h
  rw [List.drop_eq_getElem_cons hk, kidsN]
/-- whose kid a number is, from node p on -/
def par (i : Int) : List Nd → Nat → Int
  | [], _ => -1
  | nd :: t, p => if nd.kids.contains i then (p : Int) else par i t (p + 1)
def parentN (L : List Nd) (i : Int) : Int := par i L 0
theorem par_end {i : Int} {L : List Nd} {p : Nat} (h : L.length ≤ p) : par i (L.drop p) p = -1 := by
  rw [List.drop_of_length_le h]; rfl
theorem par_at {i : Int} {L : List Nd} {p : Nat} {nd : Nd} (h : L[p]? = some nd) : par i (L.drop p) p = if nd.kids.contains i then (p : Int) else par i (L.drop (p + 1)) (p + 1) := by
  obtain ⟨hp, rfl⟩ := List.getElem?_eq_some_iff.1 h
  rw [List.drop_eq_getElem_cons hp, par]
theorem has_drop {i : Int} {ks : List Int} {k : Nat} {y : Int} (h : ks[k]? = some y) : (ks.drop k).contains i = (y == i || (ks.drop (k + 1)).contains i) := by
  obtain ⟨hk, rfl⟩ := List.getElem?_eq_some_iff.1 h
  rw [List.drop_eq_getElem_cons hk, List.contains_cons]
  congr 1
  rw [Bool.eq_iff_iff, beq_iff_eq, beq_iff_eq]
  exact eq_comm
theorem has_end {i : Int} {ks : List Int} {k : Nat} (h : ks.length ≤ k) : (ks.drop k).contains i = false := by
  rw [List.drop_of_length_le h]; rfl
end Go.Proofs.YtckgbalmpddblaaDoor.As
