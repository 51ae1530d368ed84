/-
  The lists of the letters behind a backslash: each is the least, and has just the reference's numbers. No conditions.
-/
import Derived.Test.YthhgbanhoogmfaaDoorClSets
import Derived.Test.YthhgbanhoogmfaaDoorClOf
set_option linter.unusedVariables false
set_option linter.unusedSimpArgs false
namespace Go.Proofs.YthhgbanhoogmfaaDoor.Cl
open Go.Proofs.YthhgbanhoogmfaaDoor.Rs

def listOf (c : Nat) : List R := match nmOf c with
  | some (n, t) => if t then notL (nameL n) else nameL n
  | none => []
def isOf (c : Nat) : Bool := (nmOf c).isSome
theorem nmOf_name {c : Nat} {n : List UInt8} {t : Bool} (h : nmOf c = some (n, t)) : isName n = true := by
  unfold nmOf at h
  repeat' split at h
  all_goals first | (cases h; done) | (simp only [Option.some.injEq, Prod.mk.injEq] at h; obtain ⟨rfl, rfl⟩ := h; decide)
theorem listOf_least (c : Nat) : Least (listOf c) := by
  unfold listOf
  split
  · split
    · exact notL_least _
    · exact nameL_least _
  · exact trivial
theorem notF_short : ∀ (m : List R) (f : Int), (notF f m).length ≤ m.length + 1
  | [], f => by unfold notF; split <;> simp
  | r :: t, f => by
    have := notF_short t (r.2 + 1)
    unfold notF
    split <;> simp <;> omega
theorem listOf_len (c : Nat) : (listOf c).length ≤ 5 ∧ (isOf c = false → listOf c = []) := by
  refine ⟨?_, fun h => ?_⟩
  · unfold listOf
    split
    · rename_i n t _
      have h4 := (nameL_len n).1
      split
      · unfold notL
        rw [mk_of_least (nameL_least n)]
        have := notF_short (nameL n) 0
        omega
      · omega
    · simp
  · unfold isOf at h
    unfold listOf
    cases hn : nmOf c with
    | none => rfl
    | some q => rw [hn] at h; cases h
theorem least_in {l : List R} (h : Least l) (x : Int) (hx : hasL l x = true) : 0 ≤ x ∧ x ≤ 1114367 := by
  obtain ⟨r, hr, hi⟩ := List.any_eq_true.1 hx
  have := h.ok r hr
  unfold okR at this
  simp [inR] at hi
  omega
theorem ofP_eq (c : Nat) (x : Int) : ofP c x = (hasL (listOf c) x, isOf c) := by
  unfold ofP listOf isOf
  cases h : nmOf c with
  | none => rfl
  | some q =>
    obtain ⟨n, t⟩ := q
    simp only [Option.isSome_some]
    rw [hasP_eq]
    cases t with
    | true =>
      simp only [if_true]
      rw [notL_has]
      cases hasL (nameL n) x <;> simp [wi]
    | false =>
      simp only [Bool.false_eq_true, if_false]
      cases hh : hasL (nameL n) x with
      | false => simp
      | true => simp [wi, least_in (nameL_least n) x hh]
end Go.Proofs.YthhgbanhoogmfaaDoor.Cl
