/-
  From a row's condition ('the tables read as the program's text lays them') to what the walks ask; one builder 
-/
import Derived.Test.YtdeaaidbmneplaaDoorTie
import Derived.Test.YtdeaaidbmneplaaDoorCards
import Derived.ProofKit
import Derived.OpenShut
import Derived.ShutString
import Derived.ChangeOld
import Derived.Lay
import Derived.Lib.LaidTab
import Derived.LaidOnce
import Derived.SevenTiedAt
import Derived.ChangeMaps5
import Derived.Carry
import Derived.Deep.Slices
import Derived.Deep.SlicePairs
import Derived.Test.YtdeaaidbmneplaaDoorMTxEdge
import Derived.SizedLaws
set_option linter.unusedSimpArgs false
set_option linter.unusedVariables false
namespace Go.Proofs.YtdeaaidbmneplaaDoor.Laid
open Go.ChangeShapes Go.WideShapes Go.ChangeAt Go.RowKit Go.Proofs.YtdeaaidbmneplaaDoor.Sy Go.Proofs.YtdeaaidbmneplaaDoor.Mem Go.Proofs.YtdeaaidbmneplaaDoor.Utf
open Go.Lib (firstT accLo accHi)
abbrev list : List (String × DataW Unit) := [("unicode/utf8.acceptRanges", Rows.laid_unicode_utf8_acceptRanges), ("unicode/utf8.first", Rows.laid_unicode_utf8_first)]
def firstZ : List Int := (List.range 256).map fun c => (firstT c : Int)
theorem first_eq : Rows.laid_unicode_utf8_first = Lib.tabData .u8 firstZ := by kernel_rfl
def accParts : List (DataW Unit) := (List.range 16).map fun i => .agg [.lit (.int .u8 (accLo i : Int)), .lit (.int .u8 (accHi i : Int))]
theorem acc_eq : (Rows.laid_unicode_utf8_acceptRanges : DataW Unit) = .agg accParts := by kernel_rfl
theorem c_byte : Tryd.prog.cellsOf 5 = 1 := by kernel_rfl
theorem c_first : Tryd.prog.cellsOf 88 = 256 := by kernel_rfl
theorem c_acc : Tryd.prog.cellsOf 91 = 2 := by kernel_rfl
theorem g_first : Tryd.prog.globalNamed "unicode/utf8.first" = some 0 := by kernel_rfl
theorem g_acc : Tryd.prog.globalNamed "unicode/utf8.acceptRanges" = some 1 := by kernel_rfl
theorem y_first : (Tryd.prog.globals[0]?).map (·.type) = some 88 := by kernel_rfl
theorem y_acc : (Tryd.prog.globals[1]?).map (·.type) = some 92 := by kernel_rfl
theorem tabs_of {W : World} (h : laidMetH Tryd.prog list W) : Tabs W := by
  rw [MakeChecks.laidMetH_plain _ _ _ (by kernel_rfl)] at h
  obtain ⟨ps, ⟨g, t, cs, fuel, p, q, hg, ht, hv, hd, ⟨g', t', cs', fuel', p', q', hg', ht', hv', hd', -, -⟩, -⟩, -⟩ := h
  obtain rfl := Option.some.inj (g_acc.symm.trans hg)
  obtain rfl := Option.some.inj (y_acc.symm.trans ht)
  obtain rfl := Option.some.inj (g_first.symm.trans hg')
  obtain rfl := Option.some.inj (y_first.symm.trans ht')
  refine ⟨fun c hc => ?_, fun i hi => ?_⟩
  · rw [first_eq] at hd'
    have hcs := Lib.cells_of_tab Tryd.underlying88 Tryd.underlying5 c_byte c_first hd'
    rw [World.var?_cell hg' hv' c, ← Array.getElem?_toList, hcs]
    simp [firstZ, hc]
  · rw [acc_eq] at hd
    obtain ⟨xs, m, -, ex, hlen, hl, hel⟩ := DataW.trod_array Tryd.underlying92 hd
    have hE := hel i hi
    rw [c_acc, List.getElem?_eq_getElem (by omega : i < xs.length)] at hE
    obtain ⟨y0, y1, n, e, -, k0, k1⟩ := trod_struct2 Tryd.underlying91 hE
    have e3 : xs.map (·.1) = accParts := (DataW.agg.inj (Prod.mk.inj ex).1).symm
    have e4 : (xs.map (·.1))[i]? = accParts[i]? := by rw [e3]
    rw [List.getElem?_map, List.getElem?_eq_getElem (by omega : i < xs.length), e] at e4
    simp only [accParts, List.getElem?_map, List.getElem?_range hi, Option.map_some, Option.some.injEq, DataW.agg.injEq, List.cons.injEq, and_true] at e4
    obtain ⟨z0, a0, b0, -⟩ := DataW.trod_int Tryd.underlying5 k0
    obtain ⟨z1, a1, b1, -⟩ := DataW.trod_int Tryd.underlying5 k1
    rw [b0, b1] at e4
    simp only [DataW.lit.injEq, Lit.int.injEq, true_and] at e4
    obtain ⟨rfl, rfl⟩ := e4
    have f0 := congrArg (·[0]?) a0
    have f1 := congrArg (·[0]?) a1
    simp [c_byte, List.getElem?_take, List.getElem?_drop] at f0 f1
    constructor
    · rw [World.var?_cell hg hv (2 * i)]
      simpa [Nat.mul_comm] using f0
    · rw [World.var?_cell hg hv (2 * i + 1)]
      simpa [Nat.mul_comm] using f1
def IsRow (k : IntKind) (w : World) (a : Option Addr) (len cap : Nat) (zs : List Int) : Prop :=
  (a = none ∧ len = 0 ∧ cap = 0 ∧ zs = []) ∨
  ∃ x, a = some x ∧ len ≤ cap ∧ cap ≤ maxLen ∧ zs.length = cap ∧ (∀ i, i < zs.length → w.cell? (x.add i) = some (.int k (zs.getD i 0))) ∧ ∀ n ∈ zs, (Lit.int k n).wf = true
theorem bytes_of {w : World} {a : Option Addr} {len cap : Nat} {zs : List Int} (h : IsRow .u8 w a len cap zs) :
    ∃ bs : List UInt8, bs.length = len ∧ len ≤ cap ∧ cap ≤ 9223372036854775807 ∧ Reads w w.heap.size 1 a len (bs.map u8) := by
  rcases h with ⟨rfl, rfl, rfl, rfl⟩ | ⟨x, rfl, hl, hm, hz, hc, hw⟩
  · exact ⟨[], rfl, Nat.le_refl _, by omega, by simp, fun h => by omega⟩
  · refine ⟨(zs.take len).map fun z => UInt8.ofNat z.toNat, by simp; omega, hl, by unfold maxLen at hm; omega, by simp; omega, fun hn => ⟨x, rfl, ?_, fun j u hj => ?_⟩⟩
    · have := cell_lt (hc 0 (by omega)); rwa [block_of_add] at this
    · simp only [List.map_map, List.getElem?_map] at hj
      rcases Nat.lt_or_ge j len with hlt | hge
      · have hj' : j < zs.length := by omega
        rw [List.getElem?_take, if_pos hlt, List.getElem?_eq_getElem hj'] at hj
        simp only [Option.map_some, Option.some.injEq] at hj
        have hwf := hw zs[j] (List.getElem_mem hj')
        simp [Lit.wf, IntKind.min, IntKind.max, IntKind.signed, IntKind.bits] at hwf
        rw [hc j hj', ← hj]
        simp only [List.getD, List.getElem?_eq_getElem hj', Option.getD_some, Function.comp_apply, Option.some.injEq, Value.int.injEq, true_and]
        simp only [u8, UInt8.toNat_ofNat', Value.int.injEq, true_and]
        omega
      · rw [List.getElem?_take, if_neg (by omega)] at hj; simp at hj
theorem int_of {x : Int} (h : (Lit.int .i64 x).wf = true) : -9223372036854775808 ≤ x ∧ x ≤ 9223372036854775807 := by
  simpa [Lit.wf, IntKind.min, IntKind.max, IntKind.signed, IntKind.bits] using h
end Go.Proofs.YtdeaaidbmneplaaDoor.Laid
namespace Go.Proofs.YtdeaaidbmneplaaDoor.Cl
open Go.ChangeShapes Go.WideShapes Go.ChangeAt Go.RowKit Go.Proofs.YtdeaaidbmneplaaDoor.Mem Go.Proofs.YtdeaaidbmneplaaDoor.Rs
abbrev list : List (String × DataW Unit) := [("clew/class.sets", Rows.laid_clew_class_sets)]
def rowD (n : List UInt8) (l : List R) : DataW Unit := .agg [.lit (.string n), .lit (.string (endsOf l))]
def rowsD : List (DataW Unit) := List.zipWith rowD nmB sets
theorem rows_eq : (Rows.laid_clew_class_sets : DataW Unit) = .slice rowsD [] := by kernel_rfl
theorem g_rows : Tryd.prog.globalNamed "clew/class.sets" = some 2 := by kernel_rfl
theorem y_rows : (Tryd.prog.globals[2]?).map (·.type) = some 95 := by kernel_rfl
theorem c_row : Tryd.prog.cellsOf 97 = 2 := by kernel_rfl
theorem c_str : Tryd.prog.cellsOf 9 = 1 := by kernel_rfl
theorem rowsD_at {k : Nat} {n : List UInt8} {l : List R} (hn : nmB[k]? = some n) (hl : sets[k]? = some l) : rowsD[k]? = some (rowD n l) := by
  unfold rowsD
  rw [List.getElem?_zipWith, hn, hl]
set_option maxRecDepth 100000 in
theorem tab_of {W : World} (h : laidMetH Tryd.prog list W) : Tb W := by
  rw [MakeChecks.laidMetH_plain _ _ _ (by kernel_rfl)] at h
  obtain ⟨ps, ⟨g, t, cs, fuel, p, q, hg, ht, hv, hd, -⟩, -⟩ := h
  obtain rfl := Option.some.inj (g_rows.symm.trans hg)
  obtain rfl := Option.some.inj (y_rows.symm.trans ht)
  rw [rows_eq] at hd
  rcases Go.Deep.open_slice Tryd.underlying95 hd with ⟨_, hx⟩ | ⟨a, len, cap, m, n, D, Pl, hcs, _, hl, hm, hmm, hx, hel⟩
  · simp at hx
  simp only [Prod.mk.injEq, DataW.slice.injEq] at hx
  obtain ⟨⟨hD, _⟩, _⟩ := hx
  obtain rfl : len = 14 := by
    have := congrArg List.length hD
    simpa [rowsD, nmB, sets] using this.symm
  have hlm : 14 ≤ m := by rw [hmm]; split <;> omega
  have key : ∀ (k : Nat) (n : List UInt8) (l : List R), nmB[k]? = some n → sets[k]? = some l → W.cell? (a.add (k * 2)) = some (str n) ∧ W.cell? (a.add (k * 2 + 1)) = some (str (endsOf l)) := by
    intro k nn l hn hl
    have hk : k < 14 := by have := (List.getElem?_eq_some_iff.1 hn).1; rw [nmB_len] at this; exact this
    obtain ⟨cs', h1, h2⟩ := hel k (by omega)
    rw [c_row] at h1
    obtain ⟨_, hlen, hcell⟩ := World.cells?_some h1
    have hDk : D k = rowD nn l := by
      have e := congrArg (fun l => l[k]?) hD
      simp only [rowsD_at hn hl, List.getElem?_map, List.getElem?_range hk, Option.map_some, Option.some.injEq] at e
      exact e.symm
    rw [hDk] at h2
    obtain ⟨xs, n', _, hxy, _, hxl, hf⟩ := DataW.trod_struct Tryd.underlying97 h2
    match xs, hxl, cs', hlen with
    | [y0, y1], _, [v0, v1], _ =>
      have g0 := hf 0 _ rfl
      have g1 := hf 1 _ rfl
      simp only [List.getElem_toArray, List.getElem_cons_succ, List.getElem_cons_zero, c_str, List.drop_zero, List.drop_succ_cons, List.take_succ_cons, List.take_zero] at g0 g1
      simp only [rowD, List.map_cons, List.map_nil, Prod.mk.injEq, DataW.agg.injEq, List.cons.injEq, and_true] at hxy
      obtain ⟨⟨e0, e1⟩, _⟩ := hxy
      have k0 := hcell 0 (by omega)
      have k1 := hcell 1 (by omega)
      rw [Go.Deep.add_add] at k0 k1
      obtain ⟨z0, a0, b0, -⟩ := DataW.trod_string Tryd.underlying9 g0
      obtain ⟨z1, a1, b1, -⟩ := DataW.trod_string Tryd.underlying9 g1
      rw [b0] at e0
      rw [b1] at e1
      simp only [DataW.lit.injEq, Lit.string.injEq] at e0 e1
      simp only [List.cons.injEq, and_true] at a0 a1
      subst a0
      subst a1
      have hz : str nn = .string z0 := by rw [e0]
      have hz1 : str (endsOf l) = .string z1 := by rw [e1]
      rw [hz, hz1]
      exact ⟨by simpa using k0, by simpa using k1⟩
  obtain ⟨b, off, sp⟩ := a
  have k0 := (key 0 _ _ rfl rfl).1
  have es : sp = none := cell_spot (by simpa [Addr.add] using k0)
  subst es
  refine ⟨b, off, cap, ?_, fun k n l hn hs => ?_, hl, by unfold maxLen at hm; omega⟩
  · rw [World.var?_cell hg hv 0]
    have := congrArg (fun l => l[0]?) hcs
    simpa using this
  · obtain ⟨c0, c1⟩ := key k n l hn hs
    rw [add_flat] at c0 c1
    exact ⟨c0, by rw [show off + k * 2 + 1 = off + (k * 2 + 1) by omega]; exact c1⟩
end Go.Proofs.YtdeaaidbmneplaaDoor.Cl
namespace Go.Proofs.YtdeaaidbmneplaaDoor.FoLaid
open Go.ChangeShapes Go.WideShapes Go.ChangeAt Go.RowKit Go.Proofs.YtdeaaidbmneplaaDoor.Mem Go.Proofs.YtdeaaidbmneplaaDoor.Fo
abbrev list : List (String × DataW Unit) := [("clew/fold.rows", Rows.laid_clew_fold_rows)]
def rowsD : List (DataW Unit) := U.map fun r => .agg [.lit (.int .i64 r.lo), .lit (.int .i64 r.hi), .lit (.int .i64 r.step), .lit (.int .i64 r.far)]
theorem rows_eq : (Rows.laid_clew_fold_rows : DataW Unit) = .slice rowsD [] := by kernel_rfl
theorem g_rows : Tryd.prog.globalNamed "clew/fold.rows" = some 3 := by kernel_rfl
theorem y_rows : (Tryd.prog.globals[3]?).map (·.type) = some 98 := by kernel_rfl
theorem c_row : Tryd.prog.cellsOf 100 = 4 := by kernel_rfl
theorem c_int : Tryd.prog.cellsOf 3 = 1 := by kernel_rfl
set_option maxRecDepth 100000 in
theorem tab_of {W : World} (h : laidMetH Tryd.prog list W) : ∃ b off cap, Tab b off cap W := by
  rw [MakeChecks.laidMetH_plain _ _ _ (by kernel_rfl)] at h
  obtain ⟨ps, ⟨g, t, cs, fuel, p, q, hg, ht, hv, hd, -⟩, -⟩ := h
  obtain rfl := Option.some.inj (g_rows.symm.trans hg)
  obtain rfl := Option.some.inj (y_rows.symm.trans ht)
  rw [rows_eq] at hd
  rcases Go.Deep.open_slice Tryd.underlying98 hd with ⟨_, hx⟩ | ⟨a, len, cap, m, n, D, Pl, hcs, _, hl, hm, hmm, hx, hel⟩
  · simp at hx
  simp only [Prod.mk.injEq, DataW.slice.injEq] at hx
  obtain ⟨⟨hD, _⟩, _⟩ := hx
  obtain rfl : len = 24 := by
    have := congrArg List.length hD
    simpa [rowsD, U, T] using this.symm
  simp only [if_true] at hmm
  have key : ∀ (k : Nat) (r : Row), U[k]? = some r → W.cell? (a.add (k * 4)) = some (.int .i64 r.lo) ∧ W.cell? (a.add (k * 4 + 1)) = some (.int .i64 r.hi) ∧ W.cell? (a.add (k * 4 + 2)) = some (.int .i64 r.step) ∧ W.cell? (a.add (k * 4 + 3)) = some (.int .i64 r.far) := by
    intro k r hr
    have hk : k < 24 := (List.getElem?_eq_some_iff.1 hr).1
    obtain ⟨cs', h1, h2⟩ := hel k (by omega)
    rw [c_row] at h1
    obtain ⟨_, hlen, hcell⟩ := World.cells?_some h1
    have hDk : D k = .agg [.lit (.int .i64 r.lo), .lit (.int .i64 r.hi), .lit (.int .i64 r.step), .lit (.int .i64 r.far)] := by
      have e := congrArg (fun l => l[k]?) hD
      simp only [rowsD, List.getElem?_map, hr, List.getElem?_range hk, Option.map_some, Option.some.injEq] at e
      exact e.symm
    rw [hDk] at h2
    obtain ⟨xs, n', _, hxy, _, hxl, hf⟩ := DataW.trod_struct Tryd.underlying100 h2
    match xs, hxl, cs', hlen with
    | [y0, y1, y2, y3], _, [v0, v1, v2, v3], _ =>
      have g0 := hf 0 _ rfl
      have g1 := hf 1 _ rfl
      have g2 := hf 2 _ rfl
      have g3 := hf 3 _ rfl
      simp only [c_int, List.getElem?_cons_zero, List.getElem?_cons_succ] at g0 g1 g2 g3
      obtain ⟨z0, a0, b0, -⟩ := DataW.trod_int Tryd.underlying3 g0
      obtain ⟨z1, a1, b1, -⟩ := DataW.trod_int Tryd.underlying3 g1
      obtain ⟨z2, a2, b2, -⟩ := DataW.trod_int Tryd.underlying3 g2
      obtain ⟨z3, a3, b3, -⟩ := DataW.trod_int Tryd.underlying3 g3
      simp only [List.map_cons, List.map_nil, Prod.mk.injEq, DataW.agg.injEq, List.cons.injEq, and_true, b0, b1, b2, b3, DataW.lit.injEq, Lit.int.injEq, true_and] at hxy
      obtain ⟨⟨e0, e1, e2, e3⟩, _⟩ := hxy
      have k0 := hcell 0 (by omega)
      have k1 := hcell 1 (by omega)
      have k2 := hcell 2 (by omega)
      have k3 := hcell 3 (by omega)
      rw [Go.Deep.add_add] at k0 k1 k2 k3
      simp [c_int] at a0 a1 a2 a3
      subst a0 a1 a2 a3
      rw [e0, e1, e2, e3]
      exact ⟨by simpa using k0, by simpa using k1, by simpa using k2, by simpa using k3⟩
  obtain ⟨b, off, sp⟩ := a
  have k0 := (key 0 ⟨65, 90, 1, 32⟩ rfl).1
  have es : sp = none := cell_spot (by simpa [Addr.add] using k0)
  subst es
  refine ⟨b, off, cap, ?_, fun k r hr => ?_, hl, by unfold maxLen at hm; omega⟩
  · rw [World.var?_cell hg hv 0]
    have := congrArg (fun l => l[0]?) hcs
    simpa using this
  · obtain ⟨c0, c1, c2, c3⟩ := key k r hr
    rw [add_flat] at c0 c1 c2 c3
    exact ⟨c0, c1, c2, c3⟩
end Go.Proofs.YtdeaaidbmneplaaDoor.FoLaid
namespace Go.Proofs.YtdeaaidbmneplaaDoor.Tx
open Go.ChangeShapes Go.WideShapes Go.ChangeAt Go.RowKit Go.ChangeMaps Go.Proofs.YtdeaaidbmneplaaDoor.Mem
abbrev list : List (String × DataW Unit) := [("unicode/utf8.acceptRanges", Rows.laid_unicode_utf8_acceptRanges), ("clew/class.sets", Rows.laid_clew_class_sets), ("clew/fold.rows", Rows.laid_clew_fold_rows), ("unicode/utf8.first", Rows.laid_unicode_utf8_first)]
theorem laidVars_sub {P : Program} {w : World} {l' l : List (String × DataW Unit)} (h : l'.Sublist l) : ∀ {ps : List MemPlace}, DataW.LaidVars P w l ps → ∃ ps', DataW.LaidVars P w l' ps' ∧ ps'.Sublist ps := by
  induction h with
  | slnil => intro ps h; exact ⟨ps, h, List.Sublist.refl _⟩
  | cons a h ih =>
    rintro ps ⟨g, t, cs, fuel, p, q, hg, ht, hv, hd, hr, rfl⟩
    obtain ⟨ps', h1, h2⟩ := ih hr
    exact ⟨ps', h1, h2.trans (List.sublist_append_right _ _)⟩
  | cons_cons a h ih =>
    rintro ps ⟨g, t, cs, fuel, p, q, hg, ht, hv, hd, hr, rfl⟩
    obtain ⟨ps', h1, h2⟩ := ih hr
    exact ⟨_, ⟨g, t, cs, fuel, p, ps', hg, ht, hv, hd, h1, rfl⟩, (List.Sublist.refl _).append h2⟩
theorem laidMet_sub {P : Program} {w : World} {l' l : List (String × DataW Unit)} (hs : l'.Sublist l) (h : laidMet P l w) : laidMet P l' w := by
  obtain ⟨ps, h1, h2, h3⟩ := h
  obtain ⟨ps', h4, h5⟩ := laidVars_sub hs h1
  exact ⟨ps', h4, h5.nodup h2, fun b off hm => h3 b off (h5.mem hm)⟩
theorem tl_of {W : World} (h : laidMetH Tryd.prog list W) : Tl W := by
  rw [MakeChecks.laidMetH_plain _ _ _ (by kernel_rfl)] at h
  have sub : ∀ l', l'.Sublist list → (l'.all fun x : String × DataW Unit => x.2.handleName?.isNone) = true → laidMetH Tryd.prog l' W := fun l' h1 h2 => by
    rw [MakeChecks.laidMetH_plain _ _ _ h2]
    exact laidMet_sub h1 h
  refine ⟨Laid.tabs_of (sub Laid.list ?_ (by kernel_rfl)), Cl.tab_of (sub Cl.list ?_ (by kernel_rfl)), FoLaid.tab_of (sub FoLaid.list ?_ (by kernel_rfl))⟩
  · exact .cons_cons _ (.cons _ (.cons _ (.cons_cons _ .slnil)))
  · exact .cons _ (.cons_cons _ (.cons _ (.cons _ .slnil)))
  · exact .cons _ (.cons _ (.cons_cons _ (.cons _ .slnil)))
theorem byte_of {x : Int} (h : (Lit.int .u8 x).wf = true) : ∃ c : UInt8, x = (c.toNat : Int) := by
  simp [Lit.wf, IntKind.min, IntKind.max, IntKind.signed, IntKind.bits] at h
  exact ⟨UInt8.ofNat x.toNat, by rw [UInt8.toNat_ofNat']; omega⟩
theorem own : ownKnob Tryd.prog.godebug = none := by kernel_rfl
theorem laidOut : laidOutB Tryd.prog = true := by kernel_rfl
set_option maxRecDepth 100000 in
theorem bothG {H : Type} {enc : TypeId × Value → H} {os : Os} {f : FuncId} {fn : Func} {s : ChangeSpec} (list : List (String × DataW Unit)) (G : World → Prop) (hG : ∀ W, laidMetH Tryd.prog list W → G W) (started : os.Started) (noInit : Tryd.prog.inits.idxOf? f = none) (hfn : Tryd.prog.funcs[f]? = some fn)
    (witness : ∃ (w : World) (tape : Tape) (i : Input), w.os = os ∧ (w.forCall tape i).Shaped Tryd.prog ∧ i.vars = [] ∧ Input.okWide Tryd.prog (w.forCall tape i) .any w.heap.size f i ∧
      ((s.pre enc Tryd.prog fn [] false (w.forCall tape i).memory i.args ∧ laidMetH Tryd.prog list (w.forCall tape i).memory) ∧ sizedMet enc Tryd.prog fn (OpenSpec.ofChange s) false (w.forCall tape i).memory i.args) ∧ ({} : Assume).holds Tryd.prog (lone (Frame.enter Tryd.prog f i.args .normal) [] (w.forCall tape i)))
    (contract : ∀ (W : World) (base : Nat) (args : Array Value) (ds gs : List (DataW H)) (before : List MemPlace),
      (∀ (j : Nat) t v, fn.params[j]? = some t → args[j]? = some v → Value.okWide Tryd.prog W .any base t v) →
      DataW.Whole enc Tryd.prog fn.params.toList s.vars false W args.toList ds gs before → G W →
      Calls Tryd.prog f args W fun e W' => ∃ v, e = .returned v ∧ s.post enc Tryd.prog fn false true false false W args v W') :
    ReturnsInHanded {} Tryd.checked os f .any (fun w args => (s.pre enc Tryd.prog fn [] false w args ∧ laidMetH Tryd.prog list w) ∧ sizedMet enc Tryd.prog fn (OpenSpec.ofChange s) false w args) (s.post enc Tryd.prog fn false true false false) :=
  returnsInHanded_of_calls (C := Tryd.checked) own started noInit witness fun w tape i _ hshape _ hok hpre _ => by
    obtain ⟨-, -, -, fn', hf', -, -, -, -, hvals⟩ := hok
    obtain rfl : fn' = fn := Option.some.inj (hf'.symm.trans hfn)
    obtain ⟨⟨⟨ds, gs, before, hwhole, -⟩, hlaid⟩, -⟩ := hpre
    have hlaid' : laidMetH Tryd.prog list (w.forCall tape i) := hlaid.of_heap (by rfl)
    exact (contract _ _ i.args ds gs before hvals (DataW.Whole.of_heap (w' := w.forCall tape i) (by rfl) hwhole) (hG _ hlaid')).mono fun e W' ⟨v, he, hp⟩ => by
      subst he
      exact ChangeSpec.post_blind hp
end Go.Proofs.YtdeaaidbmneplaaDoor.Tx
