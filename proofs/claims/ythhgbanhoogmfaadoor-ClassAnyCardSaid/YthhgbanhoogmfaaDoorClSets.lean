/-
  The lists of the names, and of the letters: each is the least, and has just the numbers of the table. Pure: no program.
-/
import Derived.Test.YthhgbanhoogmfaaDoorClPure
import Derived.Test.YthhgbanhoogmfaaDoorRsPure
set_option linter.unusedVariables false
set_option linter.unusedSimpArgs false
namespace Go.Proofs.YthhgbanhoogmfaaDoor.Cl
open Go.Proofs.YthhgbanhoogmfaaDoor.Rs

def sets : List (List R) := [[(48, 57), (65, 90), (97, 122)], [(65, 90), (97, 122)], [(0, 127)], [(9, 9), (32, 32)], [(0, 31), (127, 127)], [(48, 57)], [(33, 126)], [(97, 122)], [(32, 126)], [(33, 47), (58, 64), (91, 96), (123, 126)], [(9, 13), (32, 32)], [(65, 90)], [(48, 57), (65, 90), (95, 95), (97, 122)], [(48, 57), (65, 70), (97, 102)]]
theorem sets_len : sets.length = 14 := rfl
theorem sets_least : ∀ l ∈ sets, Least l := by decide
theorem sets_some : ∀ l ∈ sets, 0 < l.length ∧ l.length ≤ 4 := by decide
theorem sets_tbl (x : Int) : sets.map (fun l => hasL l x) = tbl x := by
  simp only [sets, tbl, List.map_cons, List.map_nil, hasL_cons, hasL_nil, inR, wi, List.cons.injEq, and_true]
  refine ⟨?_, ?_, ?_, ?_, ?_, ?_, ?_, ?_, ?_, ?_, ?_, ?_, ?_, ?_⟩
  all_goals
    rw [Bool.eq_iff_iff]
    simp
    omega
/-- the place of a name -/
def place (s : List UInt8) : Option Nat := nmB.findIdx? (· == s)
theorem place_lt {s : List UInt8} {j : Nat} (h : place s = some j) : j < 14 := by
  have := (List.findIdx?_eq_some_iff_findIdx_eq.1 h).1
  rwa [nmB_len] at this
theorem sets_at {j : Nat} (h : j < 14) : ∃ l, sets[j]? = some l ∧ l ∈ sets := by
  have hj : j < sets.length := by rw [sets_len]; exact h
  exact ⟨sets[j], List.getElem?_eq_getElem hj, List.getElem_mem hj⟩
/-- a name's list; the empty one for what is no name -/
def nameL (s : List UInt8) : List R := match place s with
  | some j => sets.getD j []
  | none => []
def isName (s : List UInt8) : Bool := (place s).isSome
theorem hasP_eq (s : List UInt8) (x : Int) : hasP s x = (hasL (nameL s) x, isName s) := by
  have h0 : hasP s x = match place s with
    | some j => ((tbl x).getD j false, true)
    | none => (false, false) := by
    unfold hasP look place
    rw [List.drop_zero]
    cases nmB.findIdx? (· == s) with
    | none => rfl
    | some j => simp
  rw [h0]
  unfold nameL isName
  cases h : place s with
  | none => rfl
  | some j =>
    obtain ⟨l, hs, _⟩ := sets_at (place_lt h)
    show ((tbl x).getD j false, true) = (hasL (sets.getD j []) x, true)
    rw [← sets_tbl, List.getD, List.getD, List.getElem?_map, hs]
    rfl
theorem nameL_least (s : List UInt8) : Least (nameL s) := by
  unfold nameL
  cases h : place s with
  | none => exact trivial
  | some j =>
    obtain ⟨l, hs, hm⟩ := sets_at (place_lt h)
    show Least (sets.getD j [])
    rw [List.getD, hs]
    exact sets_least _ hm
theorem nameL_len (s : List UInt8) : (nameL s).length ≤ 4 ∧ (isName s = true → 0 < (nameL s).length) ∧ (isName s = false → nameL s = []) := by
  unfold nameL isName
  cases h : place s with
  | none => simp
  | some j =>
    obtain ⟨l, hs, hm⟩ := sets_at (place_lt h)
    have := sets_some _ hm
    simp only [List.getD, hs, Option.getD_some, Option.isSome_some]
    exact ⟨this.2, fun _ => this.1, fun h => by cases h⟩
theorem place_nm : ∀ i : Fin 14, place (nmB[i.val]'(by rw [nmB_len]; exact i.isLt)) = some i.val := by decide
/-- a dot's list -/
def anyL (lines : Bool) : List R := if lines then [(0, 1114367)] else [(0, 9), (11, 1114367)]
theorem anyL_least (b : Bool) : Least (anyL b) := by cases b <;> decide
theorem anyL_has (b : Bool) (x : Int) : hasL (anyL b) x = (decide (0 ≤ x) && decide (x ≤ 1114367) && (b || x != 10)) := by
  cases b <;> (simp only [anyL, hasL_cons, hasL_nil]; rw [Bool.eq_iff_iff]; simp [inR]; try omega)
end Go.Proofs.YthhgbanhoogmfaaDoor.Cl
