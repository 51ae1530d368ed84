/-
  A pile as plain data: entries, from below; the place of the topmost barrier; items as cells. No conditions. No program.
-/
import Derived.Test.YtklmligfljakfaaSymMem
set_option linter.unusedVariables false
set_option linter.unusedSimpArgs false
namespace Go.Proofs.Ytklmligfljakfaa.Pi
open Go.RowKit Go.Proofs.Ytklmligfljakfaa.Mem
structure En where
  bar : Bool
  pc : Int
  pos : Int
  mark : Int
  orig : Int
  val : Int
def enC (e : En) : List Value := [.bool e.bar, .int .i64 e.pc, .int .i64 e.pos, .int .i64 e.mark, .int .i64 e.orig, .int .i64 e.val]
abbrev enV (e : En) : Value := .agg #[.bool e.bar, .int .i64 e.pc, .int .i64 e.pos, .int .i64 e.mark, .int .i64 e.orig, .int .i64 e.val]
def en0 : En := ⟨false, 0, 0, 0, 0, 0⟩
def barF : List En → Int → Nat → Int
  | [], b, _ => b
  | e :: l, b, n => barF l (if e.bar then (n : Int) else b) (n + 1)
def barZ (l : List En) : Int := barF l (-1) 0
theorem barF_snoc (l : List En) (e : En) (b : Int) (n : Nat) : barF (l ++ [e]) b n = if e.bar then ((n + l.length : Nat) : Int) else barF l b n := by
  induction l generalizing b n with
  | nil => simp [barF]
  | cons x l ih =>
    rw [List.cons_append, barF, ih, barF, List.length_cons]
    have e1 : n + 1 + l.length = n + (l.length + 1) := by omega
    rw [e1]
theorem barF_form (l : List En) (b : Int) (n : Nat) : barF l b n = b ∨ ∃ k : Nat, barF l b n = ((n + k : Nat) : Int) ∧ k < l.length := by
  induction l generalizing b n with
  | nil => exact .inl rfl
  | cons x l ih =>
    rw [barF]
    rcases ih (if x.bar then (n : Int) else b) (n + 1) with h | ⟨k, h, hk⟩
    · rw [h]
      by_cases hx : x.bar = true
      · rw [if_pos hx]
        exact .inr ⟨0, by simp, by simp⟩
      · rw [if_neg hx]
        exact .inl rfl
    · exact .inr ⟨k + 1, by rw [h]; congr 1; omega, by simpa using hk⟩
theorem barZ_form (l : List En) : barZ l = -1 ∨ ∃ k : Nat, barZ l = (k : Int) ∧ k < l.length := by
  rcases barF_form l (-1) 0 with h | ⟨k, h, hk⟩
  · exact .inl h
  · exact .inr ⟨k, by unfold barZ; rw [h, Nat.zero_add], hk⟩
theorem barZ_snoc (l : List En) (e : En) : barZ (l ++ [e]) = if e.bar then (l.length : Int) else barZ l := by
  unfold barZ
  rw [barF_snoc, Nat.zero_add]
theorem barZ_take (l : List En) {k : Nat} {e : En} (h : l[k]? = some e) : barZ (l.take (k + 1)) = if e.bar then (k : Int) else barZ (l.take k) := by
  have hk := (List.getElem?_eq_some_iff.1 h).1
  rw [List.take_add_one, h, Option.toList_some, barZ_snoc, List.length_take, Nat.min_eq_left (by omega)]
theorem barF_plain (l r : List En) (b : Int) (n : Nat) (h : ∀ e ∈ r, e.bar = false) : barF (l ++ r) b n = barF l b n := by
  induction l generalizing b n with
  | nil =>
    rw [List.nil_append, barF]
    induction r generalizing b n with
    | nil => rfl
    | cons e r ih =>
      rw [barF, h e (List.mem_cons_self ..), if_neg (by simp)]
      exact ih (fun x hx => h x (List.mem_cons_of_mem _ hx)) b (n + 1)
  | cons x l ih => rw [List.cons_append, barF, ih, barF]
def its : List En → Int → Nat → List (En × Int)
  | [], _, _ => []
  | e :: l, b, n => (e, if e.bar then (n : Int) else b) :: its l (if e.bar then (n : Int) else b) (n + 1)
theorem its_length (l : List En) (b : Int) (n : Nat) : (its l b n).length = l.length := by
  induction l generalizing b n with
  | nil => rfl
  | cons e l ih => rw [its, List.length_cons, ih, List.length_cons]
theorem its_take (l : List En) (b : Int) (n k : Nat) : its (l.take k) b n = (its l b n).take k := by
  induction l generalizing b n k with
  | nil => simp [its]
  | cons e l ih =>
    cases k with
    | zero => rfl
    | succ k => rw [List.take_succ_cons, its, its, List.take_succ_cons, ih]
theorem its_snoc (l : List En) (e : En) (b : Int) (n : Nat) : its (l ++ [e]) b n = its l b n ++ [(e, barF (l ++ [e]) b n)] := by
  induction l generalizing b n with
  | nil => simp [its, barF]
  | cons x l ih => rw [List.cons_append, its, ih, its, barF, List.cons_append]
theorem its_get (l : List En) (b : Int) (n : Nat) {k : Nat} {e : En} (h : l[k]? = some e) : (its l b n)[k]? = some (e, barF (l.take (k + 1)) b n) := by
  have hk := (List.getElem?_eq_some_iff.1 h).1
  have e1 : l.take (k + 1) = l.take k ++ [e] := by rw [List.take_add_one, h, Option.toList_some]
  have h2 : (its (l.take (k + 1)) b n)[k]? = some (e, barF (l.take (k + 1)) b n) := by
    rw [e1, its_snoc, List.getElem?_append_right (by rw [its_length, List.length_take]; omega), its_length, List.length_take, Nat.min_eq_left (by omega), Nat.sub_self]
    rfl
  rw [its_take, List.getElem?_take, if_pos (by omega)] at h2
  exact h2
def itC (x : En × Int) : List Value := enC x.1 ++ [.int .i64 x.2]
def flatM {α : Type} (f : α → List Value) : List α → List Value
  | [] => []
  | x :: l => f x ++ flatM f l
section
variable {α : Type} {f : α → List Value} {c : Nat}
theorem flatM_app (f : α → List Value) (l r : List α) : flatM f (l ++ r) = flatM f l ++ flatM f r := by
  induction l with
  | nil => rfl
  | cons x l ih => rw [List.cons_append, flatM, ih, flatM, List.append_assoc]
theorem flatM_take (hf : ∀ x, (f x).length = c) (l : List α) (k : Nat) : flatM f (l.take k) = (flatM f l).take (k * c) := by
  induction l generalizing k with
  | nil => simp [flatM]
  | cons x l ih =>
    cases k with
    | zero => simp [flatM]
    | succ k =>
      rw [List.take_succ_cons, flatM, flatM, ih, List.take_append, hf, Nat.succ_mul]
      have e1 : k * c + c - c = k * c := by omega
      rw [e1, List.take_of_length_le (l := f x) (by rw [hf]; omega)]
theorem flatM_get (hf : ∀ x, (f x).length = c) {l : List α} {k : Nat} {x : α} (h : l[k]? = some x) {j : Nat} (hj : j < c) : (flatM f l)[k * c + j]? = (f x)[j]? := by
  induction l generalizing k with
  | nil => cases h
  | cons y l ih =>
    cases k with
    | zero =>
      obtain rfl : y = x := by simpa using h
      rw [flatM, Nat.zero_mul, Nat.zero_add, List.getElem?_append_left (by rw [hf]; exact hj)]
    | succ k =>
      rw [flatM, List.getElem?_append_right (by rw [hf, Nat.succ_mul]; omega), hf, Nat.succ_mul, show k * c + c + j - c = k * c + j by omega]
      exact ih (by simpa using h)
end
theorem enC_len (e : En) : (enC e).length = 6 := rfl
theorem itC_len (x : En × Int) : (itC x).length = 7 := rfl
def cellsI (l : List En) : List Value := flatM itC (its l (-1) 0)
def cellsE (l : List En) : List Value := flatM enC l
theorem cellsI_take (l : List En) (k : Nat) : cellsI (l.take k) = (cellsI l).take (k * 7) := by
  unfold cellsI
  rw [its_take, flatM_take itC_len]
theorem cellsE_take (l : List En) (k : Nat) : cellsE (l.take k) = (cellsE l).take (k * 6) := flatM_take enC_len l k
theorem cellsI_snoc (l : List En) (e : En) : cellsI (l ++ [e]) = cellsI l ++ [.bool e.bar, .int .i64 e.pc, .int .i64 e.pos, .int .i64 e.mark, .int .i64 e.orig, .int .i64 e.val, .int .i64 (barZ (l ++ [e]))] := by
  unfold cellsI
  rw [its_snoc, flatM_app]
  rfl
theorem cellsE_snoc (l : List En) (e : En) : cellsE (l ++ [e]) = cellsE l ++ [.bool e.bar, .int .i64 e.pc, .int .i64 e.pos, .int .i64 e.mark, .int .i64 e.orig, .int .i64 e.val] := by
  unfold cellsE
  rw [flatM_app]
  rfl
theorem cellsI_at {l : List En} {k : Nat} {e : En} (h : l[k]? = some e) : (cellsI l)[k * 7]? = some (.bool e.bar) ∧ (cellsI l)[k * 7 + 1]? = some (.int .i64 e.pc) ∧ (cellsI l)[k * 7 + 2]? = some (.int .i64 e.pos) ∧ (cellsI l)[k * 7 + 3]? = some (.int .i64 e.mark) ∧ (cellsI l)[k * 7 + 4]? = some (.int .i64 e.orig) ∧ (cellsI l)[k * 7 + 5]? = some (.int .i64 e.val) ∧ (cellsI l)[k * 7 + 6]? = some (.int .i64 (barZ (l.take (k + 1)))) := by
  have h2 := its_get l (-1) 0 h
  exact ⟨flatM_get itC_len h2 (j := 0) (by omega), flatM_get itC_len h2 (by omega), flatM_get itC_len h2 (by omega), flatM_get itC_len h2 (by omega), flatM_get itC_len h2 (by omega), flatM_get itC_len h2 (by omega), flatM_get itC_len h2 (by omega)⟩
theorem cellsE_at {l : List En} {k : Nat} {e : En} (h : l[k]? = some e) : (cellsE l)[k * 6]? = some (.bool e.bar) ∧ (cellsE l)[k * 6 + 1]? = some (.int .i64 e.pc) ∧ (cellsE l)[k * 6 + 2]? = some (.int .i64 e.pos) ∧ (cellsE l)[k * 6 + 3]? = some (.int .i64 e.mark) ∧ (cellsE l)[k * 6 + 4]? = some (.int .i64 e.orig) ∧ (cellsE l)[k * 6 + 5]? = some (.int .i64 e.val) :=
  ⟨flatM_get enC_len h (j := 0) (by omega), flatM_get enC_len h (by omega), flatM_get enC_len h (by omega), flatM_get enC_len h (by omega), flatM_get enC_len h (by omega), flatM_get enC_len h (by omega)⟩
def lastE (l : List En) : En := l.getLast?.getD en0
theorem lastE_at {l : List En} (h : 0 < l.length) : l[l.length - 1]? = some (lastE l) := by
  unfold lastE
  rw [List.getLast?_eq_getElem?, List.getElem?_eq_getElem (by omega)]
  rfl
end Go.Proofs.Ytklmligfljakfaa.Pi
