/-
  From a row's condition ('the table of letters reads as the program's text lays it') to its cells. No conditions.
-/
import Derived.Test.YtefjhdllcjjlpaaDoorRows
import Derived.Test.YtefjhdllcjjlpaaDoorTie
import Derived.Test.YtefjhdllcjjlpaaDoorCards
import Derived.Test.YtefjhdllcjjlpaaDoorFoHas
import Derived.WalkKit
import Derived.ProofKit
import Derived.OpenShut
import Derived.ShutString
import Derived.ChangeOld
import Derived.Below
import Derived.Deep.Slices
import Derived.Lay
import Derived.Lib.LaidTab
import Derived.LaidOnce
import Derived.SevenTiedAt
set_option linter.unusedVariables false
set_option linter.unusedSimpArgs false
namespace Go.Proofs.YtefjhdllcjjlpaaDoor.FoLaid
open Go.ChangeShapes Go.WideShapes Go.ChangeAt Go.RowKit Go.Proofs.YtefjhdllcjjlpaaDoor.Mem Go.Proofs.YtefjhdllcjjlpaaDoor.Fo

abbrev list : List (String × DataW Unit) := [("clew/fold.rows", Rows.laid_clew_fold_rows)]
def rowsD : List (DataW Unit) := U.map fun r => .agg [.lit (.int .i64 r.lo), .lit (.int .i64 r.hi), .lit (.int .i64 r.step), .lit (.int .i64 r.far)]
theorem rows_eq : (Rows.laid_clew_fold_rows : DataW Unit) = .slice rowsD [] := by kernel_rfl
theorem g_rows : Tryd.prog.globalNamed "clew/fold.rows" = some 0 := by kernel_rfl
theorem y_rows : (Tryd.prog.globals[0]?).map (·.type) = some 50 := by kernel_rfl

theorem c_row : Tryd.prog.cellsOf 52 = 4 := by kernel_rfl
theorem c_int : Tryd.prog.cellsOf 3 = 1 := by kernel_rfl

theorem tab_of {W : World} (h : laidMetH Tryd.prog list W) : ∃ b off cap, Tab b off cap W := by
  rw [MakeChecks.laidMetH_plain _ _ _ (by kernel_rfl)] at h
  obtain ⟨ps, ⟨g, t, cs, fuel, p, q, hg, ht, hv, hd, -⟩, -⟩ := h
  obtain rfl := Option.some.inj (g_rows.symm.trans hg)
  obtain rfl := Option.some.inj (y_rows.symm.trans ht)
  rw [rows_eq] at hd
  rcases Go.Deep.open_slice Tryd.underlying50 hd with ⟨_, hx⟩ | ⟨a, len, cap, m, n, D, Pl, hcs, _, hl, hm, hmm, hx, hel⟩
  · simp at hx
  simp only [Prod.mk.injEq, DataW.slice.injEq] at hx
  obtain ⟨⟨hD, _⟩, _⟩ := hx
  obtain rfl : len = 24 := by
    have := congrArg List.length hD
    simpa [rowsD, U, T] using this.symm
  simp only [if_true] at hmm
  have key : ∀ (k : Nat) (r : Row), U[k]? = some r → W.cell? (a.add (k * 4)) = some (.int .i64 r.lo) ∧ W.cell? (a.add (k * 4 + 1)) = some (.int .i64 r.hi) ∧ W.cell? (a.add (k * 4 + 2)) = some (.int .i64 r.step) ∧ W.cell? (a.add (k * 4 + 3)) = some (.int .i64 r.far) := by
    intro k r hr
    have hk : k < 24 := (List.getElem?_eq_some_iff.1 hr).1
    obtain ⟨cs', h1, h2⟩ := hel k (by omega)
    rw [c_row] at h1
    obtain ⟨_, hlen, hcell⟩ := World.cells?_some h1
    have hDk : D k = .agg [.lit (.int .i64 r.lo), .lit (.int .i64 r.hi), .lit (.int .i64 r.step), .lit (.int .i64 r.far)] := by
      have e := congrArg (fun l => l[k]?) hD
      simp only [rowsD, List.getElem?_map, hr, List.getElem?_range hk, Option.map_some, Option.some.injEq] at e
      exact e.symm
    rw [hDk] at h2
    obtain ⟨xs, n', _, hxy, _, hxl, hf⟩ := DataW.trod_struct Tryd.underlying52 h2
    match xs, hxl, cs', hlen with
    | [y0, y1, y2, y3], _, [v0, v1, v2, v3], _ =>
      have g0 := hf 0 _ rfl
      have g1 := hf 1 _ rfl
      have g2 := hf 2 _ rfl
      have g3 := hf 3 _ rfl
      simp only [c_int, List.getElem?_cons_zero, List.getElem?_cons_succ] at g0 g1 g2 g3
      obtain ⟨z0, a0, b0, -⟩ := DataW.trod_int Tryd.underlying3 g0
      obtain ⟨z1, a1, b1, -⟩ := DataW.trod_int Tryd.underlying3 g1
      obtain ⟨z2, a2, b2, -⟩ := DataW.trod_int Tryd.underlying3 g2
      obtain ⟨z3, a3, b3, -⟩ := DataW.trod_int Tryd.underlying3 g3
      simp only [List.map_cons, List.map_nil, Prod.mk.injEq, DataW.agg.injEq, List.cons.injEq, and_true, b0, b1, b2, b3, DataW.lit.injEq, Lit.int.injEq, true_and] at hxy
      obtain ⟨⟨e0, e1, e2, e3⟩, _⟩ := hxy
      have k0 := hcell 0 (by omega)
      have k1 := hcell 1 (by omega)
      have k2 := hcell 2 (by omega)
      have k3 := hcell 3 (by omega)
      rw [Go.Deep.add_add] at k0 k1 k2 k3
      simp [c_int] at a0 a1 a2 a3
      subst a0 a1 a2 a3
      rw [e0, e1, e2, e3]
      exact ⟨by simpa using k0, by simpa using k1, by simpa using k2, by simpa using k3⟩
  obtain ⟨b, off, sp⟩ := a
  have k0 := (key 0 ⟨65, 90, 1, 32⟩ rfl).1
  have es : sp = none := cell_spot (by simpa [Addr.add] using k0)
  subst es
  refine ⟨b, off, cap, ?_, fun k r hr => ?_, hl, by unfold maxLen at hm; omega⟩
  · rw [World.var?_cell hg hv 0]
    have := congrArg (fun l => l[0]?) hcs
    simpa using this
  · obtain ⟨c0, c1, c2, c3⟩ := key k r hr
    rw [add_flat] at c0 c1 c2 c3
    exact ⟨c0, c1, c2, c3⟩
theorem own : ownKnob Tryd.prog.godebug = none := by kernel_rfl
theorem laidOut : laidOutB Tryd.prog = true := by kernel_rfl
theorem int_of {x : Int} (h : (Lit.int .i64 x).wf = true) : -9223372036854775808 ≤ x ∧ x ≤ 9223372036854775807 := by
  simpa [Lit.wf, IntKind.min, IntKind.max, IntKind.signed, IntKind.bits] using h
end Go.Proofs.YtefjhdllcjjlpaaDoor.FoLaid
