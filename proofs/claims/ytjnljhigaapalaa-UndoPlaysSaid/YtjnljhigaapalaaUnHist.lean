/-
  All that a book's numbers ever were, as plain data, and what Set and Undo do to it. No conditions.
-/
import Derived.Test.YtjnljhigaapalaaUnPure
set_option linter.unusedVariables false
set_option linter.unusedSimpArgs false
namespace Go.Proofs.Ytjnljhigaapalaa.Un
open Go.RowKit Go.Proofs.Ytjnljhigaapalaa.Mem
def hist (ns : List Int) (tr : List Ch) : List (List Int) := (List.range (tr.length + 1)).map fun k => back ns (tr.drop k)
theorem hist_len (ns : List Int) (tr : List Ch) : (hist ns tr).length = tr.length + 1 := by unfold hist; simp
theorem hist_at (ns : List Int) (tr : List Ch) {k : Nat} (h : k ≤ tr.length) : (hist ns tr)[k]? = some (back ns (tr.drop k)) := by
  unfold hist
  rw [List.getElem?_map, List.getElem?_range (by omega)]
  rfl
theorem hist_last (ns : List Int) (tr : List Ch) : (hist ns tr)[tr.length]? = some ns := by rw [hist_at ns tr (Nat.le_refl _), List.drop_length, back_nil]
theorem hist_nil (ns : List Int) : hist ns [] = [ns] := rfl
theorem hist_ext {ns : List Int} {tr : List Ch} {L : List (List Int)} (h1 : L.length = tr.length + 1) (h2 : ∀ k, k ≤ tr.length → L[k]? = some (back ns (tr.drop k))) : hist ns tr = L := by
  apply List.ext_getElem?
  intro k
  rcases Nat.lt_or_ge k (tr.length + 1) with h | h
  · rw [hist_at ns tr (by omega), h2 k (by omega)]
  · rw [List.getElem?_eq_none (by rw [hist_len]; exact h), List.getElem?_eq_none (by rw [h1]; exact h)]
def setL (L : List (List Int)) (ns : List Int) (i x : Int) : List (List Int) := if hasB ns i = true ∧ ns[i.toNat]? ≠ some x then L ++ [ns.set i.toNat x] else L
theorem hist_set (ns : List Int) (tr : List Ch) (i x : Int) : hist (setN ns i x) (setT ns tr i x) = setL (hist ns tr) ns i x := by
  unfold setL
  by_cases h : hasB ns i = true ∧ ns[i.toNat]? ≠ some x
  · rw [if_pos h]
    have e : (setT ns tr i x).length = tr.length + 1 := by unfold setT; rw [if_pos h, List.length_append]; rfl
    refine hist_ext (by rw [List.length_append, hist_len, e]; rfl) (fun k hk => ?_)
    rw [e] at hk
    rcases Nat.lt_or_ge k (tr.length + 1) with h2 | h2
    · rw [List.getElem?_append_left (by rw [hist_len]; exact h2), hist_at ns tr (by omega), set_hist ns tr i x (by omega)]
    · obtain rfl : k = tr.length + 1 := by omega
      rw [List.getElem?_append_right (by rw [hist_len]; exact Nat.le_refl _), hist_len, Nat.sub_self, List.getElem?_cons_zero, List.drop_of_length_le (by rw [e]; exact Nat.le_refl _), back_nil]
      unfold setN
      rw [if_pos h.1]
  · rw [if_neg h]
    unfold setT
    rw [if_neg h]
    congr 1
    unfold setN
    split
    · rename_i h1
      have h2 : ns[i.toNat]? = some x := by
        rcases Decidable.em (ns[i.toNat]? = some x) with h2 | h2
        · exact h2
        · exact absurd ⟨h1, h2⟩ h
      exact set_same h2
    · rfl
def undoL (L : List (List Int)) (m : Int) : List (List Int) := if decide (0 ≤ m) && decide (m < L.length) then L.take (m.toNat + 1) else L
theorem hist_undo (ns : List Int) (tr : List Ch) (m : Int) : hist (undoN ns tr m) (undoT tr m) = undoL (hist ns tr) m := by
  unfold undoN undoT undoL
  by_cases h : okB tr m = true
  · have h2 := h
    unfold okB at h2
    simp only [Bool.and_eq_true, decide_eq_true_eq] at h2
    rw [if_pos h, if_pos h, if_pos (by rw [hist_len]; simp only [Bool.and_eq_true, decide_eq_true_eq]; omega)]
    obtain ⟨k, rfl⟩ : ∃ k : Nat, m = k := ⟨m.toNat, by omega⟩
    rw [Int.toNat_natCast]
    have e : (tr.take k).length = k := by rw [List.length_take]; omega
    refine hist_ext (by rw [List.length_take, hist_len, e]; omega) (fun j hj => ?_)
    rw [e] at hj
    rw [List.getElem?_take_of_lt (by omega), hist_at ns tr (by omega), undo_hist ns tr (by omega) hj]
  · have h2 := h
    unfold okB at h2
    rw [if_neg h, if_neg h, if_neg]
    rw [hist_len]
    simp only [Bool.and_eq_true, decide_eq_true_eq] at h2 ⊢
    omega
theorem undo_okB (ns : List Int) (tr : List Ch) (m : Int) : (decide (0 ≤ m) && decide (m < ((hist ns tr).length : Int))) = okB tr m := by
  unfold okB
  rw [hist_len]
  apply Bool.eq_iff_iff.2
  simp only [Bool.and_eq_true, decide_eq_true_eq]
  omega
end Go.Proofs.Ytjnljhigaapalaa.Un
