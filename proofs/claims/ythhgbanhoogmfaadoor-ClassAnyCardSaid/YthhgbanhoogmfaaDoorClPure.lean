/-
  The names, and which numbers each has: a table over any number. Pure: no program.
-/
set_option linter.unusedVariables false
set_option linter.unusedSimpArgs false
namespace Go.Proofs.YthhgbanhoogmfaaDoor.Cl

/-- is x one of a to b? -/
def wi (x a b : Int) : Bool := decide (a ≤ x) && decide (x ≤ b)
theorem wi_t {x a b : Int} (h1 : a ≤ x) (h2 : x ≤ b) : wi x a b = true := by simp [wi, h1, h2]
theorem wi_f {x a b : Int} (h : x < a ∨ b < x) : wi x a b = false := by simp [wi]; omega
/-- the names' bytes, in order -/
def nmB : List (List UInt8) := [[97, 108, 110, 117, 109], [97, 108, 112, 104, 97], [97, 115, 99, 105, 105], [98, 108, 97, 110, 107], [99, 110, 116, 114, 108], [100, 105, 103, 105, 116], [103, 114, 97, 112, 104], [108, 111, 119, 101, 114], [112, 114, 105, 110, 116], [112, 117, 110, 99, 116], [115, 112, 97, 99, 101], [117, 112, 112, 101, 114], [119, 111, 114, 100], [120, 100, 105, 103, 105, 116]]
theorem nmB_len : nmB.length = 14 := rfl
/-- what each name has of x -/
def tbl (x : Int) : List Bool :=
  let d := wi x 48 57
  let u := wi x 65 90
  let l := wi x 97 122
  [d || u || l, u || l, wi x 0 127, x == 9 || x == 32, wi x 0 31 || x == 127, d, wi x 33 126, l, wi x 32 126, wi x 33 126 && !d && !u && !l, wi x 9 13 || x == 32, u, d || u || l || x == 95, d || wi x 65 70 || wi x 97 102]
theorem tbl_len (x : Int) : (tbl x).length = 14 := rfl
/-- the first of the names from k on that is s: whether it has x, and whether there is one -/
def look (s : List UInt8) (x : Int) (k : Nat) : Bool × Bool := match (nmB.drop k).findIdx? (· == s) with
  | some j => ((tbl x).getD (k + j) false, true)
  | none => (false, false)
def hasP (s : List UInt8) (x : Int) : Bool × Bool := look s x 0
theorem look_end (s : List UInt8) (x : Int) : look s x 14 = (false, false) := rfl
theorem look_hit {s : List UInt8} {x : Int} {k : Nat} {n : List UInt8} (hn : nmB[k]? = some n) (h : n = s) : look s x k = ((tbl x).getD k false, true) := by
  obtain ⟨hk, rfl⟩ := List.getElem?_eq_some_iff.1 hn
  unfold look
  rw [List.drop_eq_getElem_cons hk, List.findIdx?_cons, if_pos (by simp [h])]
  rfl
theorem look_miss {s : List UInt8} {x : Int} {k : Nat} {n : List UInt8} (hn : nmB[k]? = some n) (h : ¬ n = s) : look s x k = look s x (k + 1) := by
  obtain ⟨hk, rfl⟩ := List.getElem?_eq_some_iff.1 hn
  unfold look
  rw [List.drop_eq_getElem_cons hk, List.findIdx?_cons, if_neg (by simp [h])]
  cases (nmB.drop (k + 1)).findIdx? (· == s) with
  | none => rfl
  | some j => show ((tbl x).getD (k + (j + 1)) false, true) = ((tbl x).getD (k + 1 + j) false, true); rw [show k + (j + 1) = k + 1 + j by omega]
end Go.Proofs.YthhgbanhoogmfaaDoor.Cl
