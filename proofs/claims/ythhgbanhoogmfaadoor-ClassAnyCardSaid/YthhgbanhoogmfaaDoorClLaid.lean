/-
  From a row's condition ('the table of sets reads as the program's text lays it') to its cells. No conditions.
-/
import Derived.Test.YthhgbanhoogmfaaDoorRows
import Derived.Test.YthhgbanhoogmfaaDoorTie
import Derived.Test.YthhgbanhoogmfaaDoorCards
import Derived.Test.YthhgbanhoogmfaaDoorClProg
import Derived.WalkKit
import Derived.ProofKit
import Derived.OpenShut
import Derived.ShutString
import Derived.ChangeOld
import Derived.ChangeMaps5
import Derived.Below
import Derived.Carry
import Derived.Deep.Slices
import Derived.Deep.SlicePairs
import Derived.Lay
import Derived.Lib.LaidTab
import Derived.LaidOnce
import Derived.SevenTiedAt
set_option linter.unusedVariables false
set_option linter.unusedSimpArgs false
namespace Go.Proofs.YthhgbanhoogmfaaDoor.Cl
open Go.ChangeShapes Go.WideShapes Go.ChangeAt Go.RowKit Go.Proofs.YthhgbanhoogmfaaDoor.Mem Go.Proofs.YthhgbanhoogmfaaDoor.Rs

abbrev list : List (String × DataW Unit) := [("clew/class.sets", Rows.laid_clew_class_sets)]
def rowD (n : List UInt8) (l : List R) : DataW Unit := .agg [.lit (.string n), .lit (.string (endsOf l))]
def rowsD : List (DataW Unit) := List.zipWith rowD nmB sets
theorem rows_eq : (Rows.laid_clew_class_sets : DataW Unit) = .slice rowsD [] := by kernel_rfl
theorem g_rows : Tryd.prog.globalNamed "clew/class.sets" = some 0 := by kernel_rfl
theorem y_rows : (Tryd.prog.globals[0]?).map (·.type) = some 56 := by kernel_rfl
theorem c_row : Tryd.prog.cellsOf 58 = 2 := by kernel_rfl
theorem c_str : Tryd.prog.cellsOf 9 = 1 := by kernel_rfl
theorem rowsD_at {k : Nat} {n : List UInt8} {l : List R} (hn : nmB[k]? = some n) (hl : sets[k]? = some l) : rowsD[k]? = some (rowD n l) := by
  unfold rowsD
  rw [List.getElem?_zipWith, hn, hl]
theorem tab_of {W : World} (h : laidMetH Tryd.prog list W) : Tb W := by
  rw [MakeChecks.laidMetH_plain _ _ _ (by kernel_rfl)] at h
  obtain ⟨ps, ⟨g, t, cs, fuel, p, q, hg, ht, hv, hd, -⟩, -⟩ := h
  obtain rfl := Option.some.inj (g_rows.symm.trans hg)
  obtain rfl := Option.some.inj (y_rows.symm.trans ht)
  rw [rows_eq] at hd
  rcases Go.Deep.open_slice Tryd.underlying56 hd with ⟨_, hx⟩ | ⟨a, len, cap, m, n, D, Pl, hcs, _, hl, hm, hmm, hx, hel⟩
  · simp at hx
  simp only [Prod.mk.injEq, DataW.slice.injEq] at hx
  obtain ⟨⟨hD, _⟩, _⟩ := hx
  obtain rfl : len = 14 := by
    have := congrArg List.length hD
    simpa [rowsD, nmB, sets] using this.symm
  have hlm : 14 ≤ m := by rw [hmm]; split <;> omega
  have key : ∀ (k : Nat) (n : List UInt8) (l : List R), nmB[k]? = some n → sets[k]? = some l → W.cell? (a.add (k * 2)) = some (str n) ∧ W.cell? (a.add (k * 2 + 1)) = some (str (endsOf l)) := by
    intro k nn l hn hl
    have hk : k < 14 := by have := (List.getElem?_eq_some_iff.1 hn).1; rw [nmB_len] at this; exact this
    obtain ⟨cs', h1, h2⟩ := hel k (by omega)
    rw [c_row] at h1
    obtain ⟨_, hlen, hcell⟩ := World.cells?_some h1
    have hDk : D k = rowD nn l := by
      have e := congrArg (fun l => l[k]?) hD
      simp only [rowsD_at hn hl, List.getElem?_map, List.getElem?_range hk, Option.map_some, Option.some.injEq] at e
      exact e.symm
    rw [hDk] at h2
    obtain ⟨xs, n', _, hxy, _, hxl, hf⟩ := DataW.trod_struct Tryd.underlying58 h2
    match xs, hxl, cs', hlen with
    | [y0, y1], _, [v0, v1], _ =>
      have g0 := hf 0 _ rfl
      have g1 := hf 1 _ rfl
      simp only [List.getElem_toArray, List.getElem_cons_succ, List.getElem_cons_zero, c_str, List.drop_zero, List.drop_succ_cons, List.take_succ_cons, List.take_zero] at g0 g1
      simp only [rowD, List.map_cons, List.map_nil, Prod.mk.injEq, DataW.agg.injEq, List.cons.injEq, and_true] at hxy
      obtain ⟨⟨e0, e1⟩, _⟩ := hxy
      have k0 := hcell 0 (by omega)
      have k1 := hcell 1 (by omega)
      rw [Go.Deep.add_add] at k0 k1
      obtain ⟨z0, a0, b0, -⟩ := DataW.trod_string Tryd.underlying9 g0
      obtain ⟨z1, a1, b1, -⟩ := DataW.trod_string Tryd.underlying9 g1
      rw [b0] at e0
      rw [b1] at e1
      simp only [DataW.lit.injEq, Lit.string.injEq] at e0 e1
      simp only [List.cons.injEq, and_true] at a0 a1
      subst a0
      subst a1
      have hz : str nn = .string z0 := by rw [e0]
      have hz1 : str (endsOf l) = .string z1 := by rw [e1]
      rw [hz, hz1]
      exact ⟨by simpa using k0, by simpa using k1⟩
  obtain ⟨b, off, sp⟩ := a
  have k0 := (key 0 _ _ rfl rfl).1
  have es : sp = none := cell_spot (by simpa [Addr.add] using k0)
  subst es
  refine ⟨b, off, cap, ?_, fun k n l hn hs => ?_, hl, by unfold maxLen at hm; omega⟩
  · rw [World.var?_cell hg hv 0]
    have := congrArg (fun l => l[0]?) hcs
    simpa using this
  · obtain ⟨c0, c1⟩ := key k n l hn hs
    rw [add_flat] at c0 c1
    exact ⟨c0, by rw [show off + k * 2 + 1 = off + (k * 2 + 1) by omega]; exact c1⟩
theorem own : ownKnob Tryd.prog.godebug = none := by kernel_rfl
theorem laidOut : laidOutB Tryd.prog = true := by kernel_rfl
theorem byte_of {x : Int} (h : (Lit.int .u8 x).wf = true) : ∃ n : Nat, x = (n : Int) ∧ n < 256 := by
  simp [Lit.wf, IntKind.min, IntKind.max, IntKind.signed, IntKind.bits] at h
  exact ⟨x.toNat, by omega, by omega⟩
theorem list_of (s : ByteArray) : ∃ l : List UInt8, s = ⟨l.toArray⟩ := ⟨s.data.toList, by simp⟩
end Go.Proofs.YthhgbanhoogmfaaDoor.Cl
