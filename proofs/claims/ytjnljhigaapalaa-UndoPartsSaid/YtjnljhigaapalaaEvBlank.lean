/-
  Blank and Own, walked: a state ahead of all; a state with memory of its own. Conditions: the places lie in memory, 2^44 of them at most.
-/
import Derived.Test.YtjnljhigaapalaaEvRep
set_option linter.unusedVariables false
set_option linter.unusedSimpArgs false
namespace Go.Proofs.Ytjnljhigaapalaa.Ev
open Go.RowKit Go.Proofs.Ytjnljhigaapalaa.Mem
theorem own_reads {W : World} {base e size n : Nat} {v : Value} {xs : List Value} (h : W.ownsRow base e size v n xs) : ∃ A cap, v = .slice A n cap ∧ Reads W W.heap.size size A n xs ∧ n ≤ cap ∧ cap ≤ 9223372036854775807 := by
  rcases h.2 with ⟨rfl, hn⟩ | ⟨g, cap, cur, rfl, hb, hh, hnc, hcm, hcs, ht⟩
  · exact ⟨none, 0, by rw [hn], Reads.of_own (by rw [hn]; exact hn ▸ h), by omega, by omega⟩
  · exact ⟨_, cap, rfl, Reads.of_own h, hnc, by unfold maxLen at hcm; omega⟩
theorem own_below {W W' : World} {base e size n : Nat} {v : Value} {xs : List Value} (h : W.ownsRow base e size v n xs) (hb : Below W.heap.size W W') : W'.ownsRow base e size v n xs := by
  refine ⟨h.1, ?_⟩
  rcases h.2 with h | ⟨g, cap, cur, rfl, h1, h2, h3⟩
  · exact .inl h
  · refine .inr ⟨g, cap, cur, rfl, h1, (hb.block g ?_).trans h2, h3⟩
    rcases Nat.lt_or_ge g W.heap.size with hlt | hge
    · exact hlt
    · rw [Array.getElem?_eq_none hge] at h2; cases h2
section
end
end Go.Proofs.Ytjnljhigaapalaa.Ev
