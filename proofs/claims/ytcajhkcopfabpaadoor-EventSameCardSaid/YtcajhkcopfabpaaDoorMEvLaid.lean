/-
  From a row's condition ('the tables read as the program's text lays them') to their cells.
-/
import Derived.Test.YtcajhkcopfabpaaDoorRows
import Derived.Test.YtcajhkcopfabpaaDoorTie
import Derived.Test.YtcajhkcopfabpaaDoorCards
import Derived.Test.YtcajhkcopfabpaaDoorMEvSmall
import Derived.WalkKit
import Derived.ProofKit
import Derived.OpenShut
import Derived.ShutString
import Derived.ChangeOld
import Derived.ChangeMaps5
import Derived.Carry
import Derived.Deep.Slices
import Derived.Lay
import Derived.Lib.LaidTab
import Derived.LaidOnce
import Derived.SevenTiedAt
import Derived.SizedLaws
set_option linter.unusedSimpArgs false
set_option linter.unusedVariables false
namespace Go.Proofs.YtcajhkcopfabpaaDoor.Ev
open Go.ChangeShapes Go.WideShapes Go.ChangeAt Go.RowKit Go.ChangeMaps Go.Proofs.YtcajhkcopfabpaaDoor.Mem
theorem c_int1 : Tryd.prog.cellsOf 3 = 1 := by kernel_rfl
theorem c_str1 : Tryd.prog.cellsOf 9 = 1 := by kernel_rfl
def nmD : List (DataW Unit) := [.lit (.string (nmF 0)), .lit (.string (nmF 1)), .lit (.string (nmF 2)), .lit (.string (nmF 3)), .lit (.string (nmF 4)), .lit (.string (nmF 5)), .lit (.string (nmF 6)), .lit (.string (nmF 7)), .lit (.string (nmF 8)), .lit (.string (nmF 9)), .lit (.string (nmF 10)), .lit (.string (nmF 11)), .lit (.string (nmF 12)), .lit (.string (nmF 13)), .lit (.string (nmF 14))]
theorem nm_eq : (Rows.laid_clew_event_names : DataW Unit) = .agg nmD := by kernel_rfl
theorem g_nm : Tryd.prog.globalNamed "clew/event.names" = some 2 := by kernel_rfl
theorem y_nm : (Tryd.prog.globals[2]?).map (·.type) = some 34 := by kernel_rfl
set_option maxRecDepth 100000 in
theorem nm_of {W : World} {cs : Array Value} {fuel : Nat} {p : List MemPlace} {enc : TypeId × Value → Unit} {sp : Nat → Bool} {hld : Bool} (hcell : ∀ k : Nat, W.cell? ⟨2, k, none⟩ = cs[k]?) (hd : DataW.trod enc Tryd.prog W 0 sp hld fuel 34 cs.toList = some (.agg nmD, p)) : Nm W := by
  refine ⟨fun k hk => ?_⟩
  obtain ⟨xs, m, -, ex, hlen, hl, hel⟩ := DataW.trod_array Tryd.underlying34 hd
  have e3 : xs.map (·.1) = nmD := (DataW.agg.inj (Prod.mk.inj ex).1).symm
  have hE := hel k hk
  rw [c_str1, List.getElem?_eq_getElem (by omega : k < xs.length)] at hE
  have e4 : (xs.map (·.1))[k]? = nmD[k]? := by rw [e3]
  rw [List.getElem?_map, List.getElem?_eq_getElem (by omega : k < xs.length)] at e4
  have e5 : nmD[k]? = some (.lit (.string (nmF k))) := by
    match k, hk with
    | 0, _ => rfl
    | 1, _ => rfl
    | 2, _ => rfl
    | 3, _ => rfl
    | 4, _ => rfl
    | 5, _ => rfl
    | 6, _ => rfl
    | 7, _ => rfl
    | 8, _ => rfl
    | 9, _ => rfl
    | 10, _ => rfl
    | 11, _ => rfl
    | 12, _ => rfl
    | 13, _ => rfl
    | 14, _ => rfl
  rw [e5] at e4
  simp only [Option.map_some, Option.some.injEq] at e4
  obtain ⟨z, a0, b0, -⟩ := DataW.trod_string Tryd.underlying9 hE
  rw [b0] at e4
  simp only [DataW.lit.injEq, Lit.string.injEq] at e4
  have f0 := congrArg (·[0]?) a0
  simp [List.getElem?_take, List.getElem?_drop] at f0
  have hz : str (nmF k) = .string z := by rw [← e4]
  rw [hcell k, hz]
  simpa using f0
def loD : List (DataW Unit) := [.lit (.int .i64 (loF 0)), .lit (.int .i64 (loF 1)), .lit (.int .i64 (loF 2)), .lit (.int .i64 (loF 3)), .lit (.int .i64 (loF 4)), .lit (.int .i64 (loF 5)), .lit (.int .i64 (loF 6))]
theorem lo_eq : (Rows.laid_clew_event_least : DataW Unit) = .agg loD := by kernel_rfl
theorem g_lo : Tryd.prog.globalNamed "clew/event.least" = some 0 := by kernel_rfl
theorem y_lo : (Tryd.prog.globals[0]?).map (·.type) = some 39 := by kernel_rfl
set_option maxRecDepth 100000 in
theorem lo_of {W : World} {cs : Array Value} {fuel : Nat} {p : List MemPlace} {enc : TypeId × Value → Unit} {sp : Nat → Bool} {hld : Bool} (hcell : ∀ k : Nat, W.cell? ⟨0, k, none⟩ = cs[k]?) (hd : DataW.trod enc Tryd.prog W 0 sp hld fuel 39 cs.toList = some (.agg loD, p)) :
    ∀ k : Nat, k < 7 → W.cell? ⟨0, k, none⟩ = some (.int .i64 (loF k)) := by
  intro k hk
  obtain ⟨xs, m, -, ex, hlen, hl, hel⟩ := DataW.trod_array Tryd.underlying39 hd
  have e3 : xs.map (·.1) = loD := (DataW.agg.inj (Prod.mk.inj ex).1).symm
  have hE := hel k hk
  rw [c_int1, List.getElem?_eq_getElem (by omega : k < xs.length)] at hE
  have e4 : (xs.map (·.1))[k]? = loD[k]? := by rw [e3]
  rw [List.getElem?_map, List.getElem?_eq_getElem (by omega : k < xs.length)] at e4
  have e5 : loD[k]? = some (.lit (.int .i64 (loF k))) := by
    match k, hk with
    | 0, _ => rfl
    | 1, _ => rfl
    | 2, _ => rfl
    | 3, _ => rfl
    | 4, _ => rfl
    | 5, _ => rfl
    | 6, _ => rfl
  rw [e5] at e4
  simp only [Option.map_some, Option.some.injEq] at e4
  obtain ⟨z, a0, b0, -⟩ := DataW.trod_int Tryd.underlying3 hE
  rw [b0] at e4
  simp only [DataW.lit.injEq, Lit.int.injEq, true_and] at e4
  subst e4
  have f0 := congrArg (·[0]?) a0
  simp [List.getElem?_take, List.getElem?_drop] at f0
  rw [hcell k]
  simpa using f0
def hiD : List (DataW Unit) := [.lit (.int .i64 (hiF 0)), .lit (.int .i64 (hiF 1)), .lit (.int .i64 (hiF 2)), .lit (.int .i64 (hiF 3)), .lit (.int .i64 (hiF 4)), .lit (.int .i64 (hiF 5)), .lit (.int .i64 (hiF 6))]
theorem hi_eq : (Rows.laid_clew_event_greatest : DataW Unit) = .agg hiD := by kernel_rfl
theorem g_hi : Tryd.prog.globalNamed "clew/event.greatest" = some 1 := by kernel_rfl
theorem y_hi : (Tryd.prog.globals[1]?).map (·.type) = some 39 := by kernel_rfl
set_option maxRecDepth 100000 in
theorem hi_of {W : World} {cs : Array Value} {fuel : Nat} {p : List MemPlace} {enc : TypeId × Value → Unit} {sp : Nat → Bool} {hld : Bool} (hcell : ∀ k : Nat, W.cell? ⟨1, k, none⟩ = cs[k]?) (hd : DataW.trod enc Tryd.prog W 0 sp hld fuel 39 cs.toList = some (.agg hiD, p)) :
    ∀ k : Nat, k < 7 → W.cell? ⟨1, k, none⟩ = some (.int .i64 (hiF k)) := by
  intro k hk
  obtain ⟨xs, m, -, ex, hlen, hl, hel⟩ := DataW.trod_array Tryd.underlying39 hd
  have e3 : xs.map (·.1) = hiD := (DataW.agg.inj (Prod.mk.inj ex).1).symm
  have hE := hel k hk
  rw [c_int1, List.getElem?_eq_getElem (by omega : k < xs.length)] at hE
  have e4 : (xs.map (·.1))[k]? = hiD[k]? := by rw [e3]
  rw [List.getElem?_map, List.getElem?_eq_getElem (by omega : k < xs.length)] at e4
  have e5 : hiD[k]? = some (.lit (.int .i64 (hiF k))) := by
    match k, hk with
    | 0, _ => rfl
    | 1, _ => rfl
    | 2, _ => rfl
    | 3, _ => rfl
    | 4, _ => rfl
    | 5, _ => rfl
    | 6, _ => rfl
  rw [e5] at e4
  simp only [Option.map_some, Option.some.injEq] at e4
  obtain ⟨z, a0, b0, -⟩ := DataW.trod_int Tryd.underlying3 hE
  rw [b0] at e4
  simp only [DataW.lit.injEq, Lit.int.injEq, true_and] at e4
  subst e4
  have f0 := congrArg (·[0]?) a0
  simp [List.getElem?_take, List.getElem?_drop] at f0
  rw [hcell k]
  simpa using f0
abbrev list1 : List (String × DataW Unit) := [("clew/event.names", Rows.laid_clew_event_names)]
abbrev list3 : List (String × DataW Unit) := [("clew/event.names", Rows.laid_clew_event_names), ("clew/event.least", Rows.laid_clew_event_least), ("clew/event.greatest", Rows.laid_clew_event_greatest)]
theorem laid1 {W : World} (h : laidMetH Tryd.prog list1 W) : Nm W := by
  rw [MakeChecks.laidMetH_plain _ _ _ (by kernel_rfl)] at h
  obtain ⟨ps, ⟨g, t, cs, fuel, p, q, hg, ht, hv, hd, -⟩, -⟩ := h
  obtain rfl := Option.some.inj (g_nm.symm.trans hg)
  obtain rfl := Option.some.inj (y_nm.symm.trans ht)
  rw [nm_eq] at hd
  exact nm_of (fun k => World.var?_cell hg hv k) hd
theorem laid3 {W : World} (h : laidMetH Tryd.prog list3 W) : Nm W ∧ (∀ k : Nat, k < 7 → W.cell? ⟨0, k, none⟩ = some (.int .i64 (loF k))) ∧ ∀ k : Nat, k < 7 → W.cell? ⟨1, k, none⟩ = some (.int .i64 (hiF k)) := by
  rw [MakeChecks.laidMetH_plain _ _ _ (by kernel_rfl)] at h
  obtain ⟨ps, ⟨g, t, cs, fuel, p, q, hg, ht, hv, hd, ⟨g', t', cs', fuel', p', q', hg', ht', hv', hd', ⟨g2, t2, cs2, fuel2, p2, q2, hg2, ht2, hv2, hd2, -⟩, -⟩, -⟩, -⟩ := h
  obtain rfl := Option.some.inj (g_nm.symm.trans hg)
  obtain rfl := Option.some.inj (y_nm.symm.trans ht)
  obtain rfl := Option.some.inj (g_lo.symm.trans hg')
  obtain rfl := Option.some.inj (y_lo.symm.trans ht')
  obtain rfl := Option.some.inj (g_hi.symm.trans hg2)
  obtain rfl := Option.some.inj (y_hi.symm.trans ht2)
  rw [nm_eq] at hd
  rw [lo_eq] at hd'
  rw [hi_eq] at hd2
  exact ⟨nm_of (fun k => World.var?_cell hg hv k) hd, lo_of (fun k => World.var?_cell hg' hv' k) hd', hi_of (fun k => World.var?_cell hg2 hv2 k) hd2⟩
end Go.Proofs.YtcajhkcopfabpaaDoor.Ev
