/-
  A book's numbers and changes as plain data: changes taken back from behind. No conditions.
-/
import Derived.Test.YtjnljhigaapalaaSymMem
set_option linter.unusedVariables false
set_option linter.unusedSimpArgs false
namespace Go.Proofs.Ytjnljhigaapalaa.Un
open Go.RowKit Go.Proofs.Ytjnljhigaapalaa.Mem
abbrev Ch := Nat × Int
def back (ns : List Int) (tr : List Ch) : List Int := tr.foldr (fun c a => a.set c.1 c.2) ns
theorem back_nil (ns : List Int) : back ns [] = ns := rfl
theorem back_app (ns : List Int) (a b : List Ch) : back ns (a ++ b) = back (back ns b) a := by unfold back; rw [List.foldr_append]
theorem back_snoc (ns : List Int) (a : List Ch) (c : Ch) : back ns (a ++ [c]) = back (ns.set c.1 c.2) a := by rw [back_app]; rfl
theorem back_len (ns : List Int) (tr : List Ch) : (back ns tr).length = ns.length := by
  induction tr with
  | nil => rfl
  | cons c t ih => unfold back at ih ⊢; rw [List.foldr_cons, List.length_set, ih]
theorem set_back {ns : List Int} {i : Nat} {x was : Int} (h : ns[i]? = some was) : (ns.set i x).set i was = ns := by
  rw [List.set_set]
  apply List.ext_getElem?
  intro j
  rw [List.getElem?_set]
  split
  · rename_i e
    subst e
    have hl := (List.getElem?_eq_some_iff.1 h).1
    rw [if_pos hl, h]
  · rfl
theorem set_same {ns : List Int} {i : Nat} {x : Int} (h : ns[i]? = some x) : ns.set i x = ns := by
  apply List.ext_getElem?
  intro j
  rw [List.getElem?_set]
  split
  · rename_i e
    subst e
    have hl := (List.getElem?_eq_some_iff.1 h).1
    rw [if_pos hl, h]
  · rfl
def hasB (ns : List Int) (i : Int) : Bool := decide (0 ≤ i) && decide (i < ns.length)
theorem has_nat {ns : List Int} {i : Int} (h : hasB ns i = true) : ∃ k : Nat, i = k ∧ k < ns.length := by
  unfold hasB at h
  simp only [Bool.and_eq_true, decide_eq_true_eq] at h
  exact ⟨i.toNat, by omega, by omega⟩
def setN (ns : List Int) (i x : Int) : List Int := if hasB ns i = true then ns.set i.toNat x else ns
def setT (ns : List Int) (tr : List Ch) (i x : Int) : List Ch := if hasB ns i = true ∧ ns[i.toNat]? ≠ some x then tr ++ [(i.toNat, ns.getD i.toNat 0)] else tr
theorem setN_len (ns : List Int) (i x : Int) : (setN ns i x).length = ns.length := by unfold setN; split <;> simp
theorem setT_len (ns : List Int) (tr : List Ch) (i x : Int) : (setT ns tr i x).length ≤ tr.length + 1 ∧ tr.length ≤ (setT ns tr i x).length := by unfold setT; split <;> simp
def okB (tr : List Ch) (m : Int) : Bool := decide (0 ≤ m) && decide (m ≤ tr.length)
def undoN (ns : List Int) (tr : List Ch) (m : Int) : List Int := if okB tr m = true then back ns (tr.drop m.toNat) else ns
def undoT (tr : List Ch) (m : Int) : List Ch := if okB tr m = true then tr.take m.toNat else tr
theorem undoN_len (ns : List Int) (tr : List Ch) (m : Int) : (undoN ns tr m).length = ns.length := by unfold undoN; split <;> simp [back_len]
theorem undoT_len (tr : List Ch) (m : Int) : (undoT tr m).length ≤ tr.length := by unfold undoT; split <;> simp; omega
def partL (l : List Int) (f t : Int) : List Int := if max f 0 < min t l.length then (l.drop (max f 0).toNat).take ((min t l.length).toNat - (max f 0).toNat) else []
theorem part_all (l : List Int) (n : Int) (h : n = l.length) : partL l 0 n = l := by
  subst h
  unfold partL
  split
  · rw [show (max (0 : Int) 0).toNat = 0 by simp, show (min (l.length : Int) l.length).toNat = l.length by simp, List.drop_zero, Nat.sub_zero, List.take_length]
  · rename_i h
    exact (List.eq_nil_of_length_eq_zero (by omega)).symm
theorem set_hist (ns : List Int) (tr : List Ch) (i x : Int) {k : Nat} (hk : k ≤ tr.length) : back (setN ns i x) ((setT ns tr i x).drop k) = back ns (tr.drop k) := by
  unfold setN setT
  by_cases h : hasB ns i = true
  · rw [if_pos h]
    obtain ⟨j, rfl, hj⟩ := has_nat h
    rw [Int.toNat_natCast]
    by_cases h2 : ns[j]? = some x
    · rw [if_neg (fun h => h.2 h2), set_same h2]
    · rw [if_pos ⟨h, h2⟩, List.drop_append_of_le_length hk, back_snoc]
      have e : ns[j]? = some (ns.getD j 0) := by rw [List.getD_eq_getElem?_getD, List.getElem?_eq_getElem hj]; rfl
      rw [set_back e]
  · rw [if_neg h, if_neg (fun h2 => h h2.1)]
theorem undo_hist (ns : List Int) (tr : List Ch) {m k : Nat} (hm : m ≤ tr.length) (hk : k ≤ m) : back (back ns (tr.drop m)) ((tr.take m).drop k) = back ns (tr.drop k) := by
  rw [← back_app, List.drop_take]
  congr 1
  have : tr.drop m = (tr.drop k).drop (m - k) := by rw [List.drop_drop]; congr 1; omega
  rw [this, List.take_append_drop]
def flat (tr : List Ch) : List Value := tr.flatMap fun c => [Mem.n64 c.1, Mem.i64 c.2]
theorem flat_app (a b : List Ch) : flat (a ++ b) = flat a ++ flat b := by unfold flat; rw [List.flatMap_append]
theorem flat_len (tr : List Ch) : (flat tr).length = tr.length * 2 := by
  induction tr with
  | nil => rfl
  | cons c t ih => unfold flat at ih ⊢; rw [List.flatMap_cons, List.length_append, ih]; simp; omega
theorem flat_take (tr : List Ch) (m : Nat) : flat (tr.take m) = (flat tr).take (m * 2) := by
  induction tr generalizing m with
  | nil => simp [flat]
  | cons c t ih =>
    cases m with
    | zero => simp [flat]
    | succ m =>
      have := ih m
      unfold flat at this ⊢
      rw [List.take_succ_cons, List.flatMap_cons, List.flatMap_cons, this, show (m + 1) * 2 = m * 2 + 1 + 1 by omega]
      simp
theorem flat_at {tr : List Ch} {k : Nat} {c : Ch} (h : tr[k]? = some c) : (flat tr)[k * 2]? = some (Mem.n64 c.1) ∧ (flat tr)[k * 2 + 1]? = some (Mem.i64 c.2) := by
  induction tr generalizing k with
  | nil => simp at h
  | cons d t ih =>
    have e : flat (d :: t) = Mem.n64 d.1 :: Mem.i64 d.2 :: flat t := rfl
    cases k with
    | zero =>
      simp only [List.getElem?_cons_zero, Option.some.injEq] at h
      subst h
      rw [e]
      exact ⟨rfl, rfl⟩
    | succ k =>
      rw [List.getElem?_cons_succ] at h
      have := ih h
      rw [e, show (k + 1) * 2 = k * 2 + 1 + 1 by omega]
      simpa using this
end Go.Proofs.Ytjnljhigaapalaa.Un
