/-
  From a row's condition ('the two tables of unicode/utf8 read as the program's text lays them') to their cells; a start that meets it; a slice of bytes, of ints, that came in, opened. No conditions.
-/
import Derived.Test.YtbnjhopodhjdhaaDoorRows
import Derived.Test.YtbnjhopodhjdhaaDoorTie
import Derived.Test.YtbnjhopodhjdhaaDoorCards
import Derived.Test.YtbnjhopodhjdhaaDoorSymUtf
import Derived.WalkKit
import Derived.ProofKit
import Derived.OpenShut
import Derived.ShutString
import Derived.ChangeOld
import Derived.Below
import Derived.Lay
import Derived.Lib.LaidTab
import Derived.LaidOnce
import Derived.SevenTiedAt
set_option linter.unusedVariables false
set_option linter.unusedSimpArgs false
namespace Go.Proofs.YtbnjhopodhjdhaaDoor.Laid
open Go.ChangeShapes Go.WideShapes Go.ChangeAt Go.RowKit Go.Proofs.YtbnjhopodhjdhaaDoor.Sy Go.Proofs.YtbnjhopodhjdhaaDoor.Mem Go.Proofs.YtbnjhopodhjdhaaDoor.Utf
open Go.Lib (firstT accLo accHi)

abbrev list : List (String × DataW Unit) := [("unicode/utf8.acceptRanges", Rows.laid_unicode_utf8_acceptRanges), ("unicode/utf8.first", Rows.laid_unicode_utf8_first)]
def firstZ : List Int := (List.range 256).map fun c => (firstT c : Int)
theorem first_eq : Rows.laid_unicode_utf8_first = Lib.tabData .u8 firstZ := by kernel_rfl
def accParts : List (DataW Unit) := (List.range 16).map fun i => .agg [.lit (.int .u8 (accLo i : Int)), .lit (.int .u8 (accHi i : Int))]
theorem acc_eq : (Rows.laid_unicode_utf8_acceptRanges : DataW Unit) = .agg accParts := by kernel_rfl

theorem c_byte : Tryd.prog.cellsOf 5 = 1 := by kernel_rfl
theorem c_first : Tryd.prog.cellsOf 51 = 256 := by kernel_rfl
theorem c_acc : Tryd.prog.cellsOf 54 = 2 := by kernel_rfl
theorem g_first : Tryd.prog.globalNamed "unicode/utf8.first" = some 0 := by kernel_rfl
theorem g_acc : Tryd.prog.globalNamed "unicode/utf8.acceptRanges" = some 1 := by kernel_rfl
theorem y_first : (Tryd.prog.globals[0]?).map (·.type) = some 51 := by kernel_rfl
theorem y_acc : (Tryd.prog.globals[1]?).map (·.type) = some 55 := by kernel_rfl

theorem tabs_of {W : World} (h : laidMetH Tryd.prog list W) : Tabs W := by
  rw [MakeChecks.laidMetH_plain _ _ _ (by kernel_rfl)] at h
  obtain ⟨ps, ⟨g, t, cs, fuel, p, q, hg, ht, hv, hd, ⟨g', t', cs', fuel', p', q', hg', ht', hv', hd', -, -⟩, -⟩, -⟩ := h
  obtain rfl := Option.some.inj (g_acc.symm.trans hg)
  obtain rfl := Option.some.inj (y_acc.symm.trans ht)
  obtain rfl := Option.some.inj (g_first.symm.trans hg')
  obtain rfl := Option.some.inj (y_first.symm.trans ht')
  refine ⟨fun c hc => ?_, fun i hi => ?_⟩
  · rw [first_eq] at hd'
    have hcs := Lib.cells_of_tab Tryd.underlying51 Tryd.underlying5 c_byte c_first hd'
    rw [World.var?_cell hg' hv' c, ← Array.getElem?_toList, hcs]
    simp [firstZ, hc]
  · rw [acc_eq] at hd
    obtain ⟨xs, m, -, ex, hlen, hl, hel⟩ := DataW.trod_array Tryd.underlying55 hd
    have hE := hel i hi
    rw [c_acc, List.getElem?_eq_getElem (by omega : i < xs.length)] at hE
    obtain ⟨y0, y1, n, e, -, k0, k1⟩ := trod_struct2 Tryd.underlying54 hE
    have e3 : xs.map (·.1) = accParts := (DataW.agg.inj (Prod.mk.inj ex).1).symm
    have e4 : (xs.map (·.1))[i]? = accParts[i]? := by rw [e3]
    rw [List.getElem?_map, List.getElem?_eq_getElem (by omega : i < xs.length), e] at e4
    simp only [accParts, List.getElem?_map, List.getElem?_range hi, Option.map_some, Option.some.injEq, DataW.agg.injEq, List.cons.injEq, and_true] at e4
    obtain ⟨z0, a0, b0, -⟩ := DataW.trod_int Tryd.underlying5 k0
    obtain ⟨z1, a1, b1, -⟩ := DataW.trod_int Tryd.underlying5 k1
    rw [b0, b1] at e4
    simp only [DataW.lit.injEq, Lit.int.injEq, true_and] at e4
    obtain ⟨rfl, rfl⟩ := e4
    have f0 := congrArg (·[0]?) a0
    have f1 := congrArg (·[0]?) a1
    simp [c_byte, List.getElem?_take, List.getElem?_drop] at f0 f1
    constructor
    · rw [World.var?_cell hg hv (2 * i)]
      simpa [Nat.mul_comm] using f0
    · rw [World.var?_cell hg hv (2 * i + 1)]
      simpa [Nat.mul_comm] using f1

/-- WHAT IS KNOWN OF A SLICE OF INTEGERS THAT CAME IN. -/
def IsRow (k : IntKind) (w : World) (a : Option Addr) (len cap : Nat) (zs : List Int) : Prop :=
  (a = none ∧ len = 0 ∧ cap = 0 ∧ zs = []) ∨
  ∃ x, a = some x ∧ len ≤ cap ∧ cap ≤ maxLen ∧ zs.length = cap ∧ (∀ i, i < zs.length → w.cell? (x.add i) = some (.int k (zs.getD i 0))) ∧ ∀ n ∈ zs, (Lit.int k n).wf = true

theorem bytes_of {w : World} {a : Option Addr} {len cap : Nat} {zs : List Int} (h : IsRow .u8 w a len cap zs) :
    ∃ bs : List UInt8, bs.length = len ∧ len ≤ cap ∧ cap ≤ 9223372036854775807 ∧ Reads w w.heap.size 1 a len (bs.map u8) := by
  rcases h with ⟨rfl, rfl, rfl, rfl⟩ | ⟨x, rfl, hl, hm, hz, hc, hw⟩
  · exact ⟨[], rfl, Nat.le_refl _, by omega, by simp, fun h => by omega⟩
  · refine ⟨(zs.take len).map fun z => UInt8.ofNat z.toNat, by simp; omega, hl, by unfold maxLen at hm; omega, by simp; omega, fun hn => ⟨x, rfl, ?_, fun j u hj => ?_⟩⟩
    · have := cell_lt (hc 0 (by omega)); rwa [block_of_add] at this
    · simp only [List.map_map, List.getElem?_map] at hj
      rcases Nat.lt_or_ge j len with hlt | hge
      · have hj' : j < zs.length := by omega
        rw [List.getElem?_take, if_pos hlt, List.getElem?_eq_getElem hj'] at hj
        simp only [Option.map_some, Option.some.injEq] at hj
        have hwf := hw zs[j] (List.getElem_mem hj')
        simp [Lit.wf, IntKind.min, IntKind.max, IntKind.signed, IntKind.bits] at hwf
        rw [hc j hj', ← hj]
        simp only [List.getD, List.getElem?_eq_getElem hj', Option.getD_some, Function.comp_apply, Option.some.injEq, Value.int.injEq, true_and]
        simp only [u8, UInt8.toNat_ofNat', Value.int.injEq, true_and]
        omega
      · rw [List.getElem?_take, if_neg (by omega)] at hj; simp at hj
theorem ints_of {w : World} {a : Option Addr} {len cap : Nat} {zs : List Int} (h : IsRow .i64 w a len cap zs) :
    ∃ ys : List Int, ys.length = len ∧ len ≤ cap ∧ cap ≤ 9223372036854775807 ∧ (∀ y ∈ ys, -9223372036854775808 ≤ y ∧ y ≤ 9223372036854775807) ∧ Reads w w.heap.size 1 a len (ys.map i64) := by
  rcases h with ⟨rfl, rfl, rfl, rfl⟩ | ⟨x, rfl, hl, hm, hz, hc, hw⟩
  · exact ⟨[], rfl, Nat.le_refl _, by omega, by simp, by simp, fun h => by omega⟩
  · refine ⟨zs.take len, by simp; omega, hl, by unfold maxLen at hm; omega, fun y hy => ?_, by simp; omega, fun hn => ⟨x, rfl, ?_, fun j u hj => ?_⟩⟩
    · have hwf := hw y (List.mem_of_mem_take hy)
      simp [Lit.wf, IntKind.min, IntKind.max, IntKind.signed, IntKind.bits] at hwf
      omega
    · have := cell_lt (hc 0 (by omega)); rwa [block_of_add] at this
    · rw [List.getElem?_map] at hj
      rcases Nat.lt_or_ge j len with hlt | hge
      · have hj' : j < zs.length := by omega
        rw [List.getElem?_take, if_pos hlt, List.getElem?_eq_getElem hj'] at hj
        simp only [Option.map_some, Option.some.injEq] at hj
        rw [hc j hj', ← hj]
        simp [List.getD, hj']
      · rw [List.getElem?_take, if_neg (by omega)] at hj; simp at hj
theorem int_of {x : Int} (h : (Lit.int .i64 x).wf = true) : -9223372036854775808 ≤ x ∧ x ≤ 9223372036854775807 := by
  simpa [Lit.wf, IntKind.min, IntKind.max, IntKind.signed, IntKind.bits] using h
theorem own : ownKnob Tryd.prog.godebug = none := by kernel_rfl
theorem laidOut : laidOutB Tryd.prog = true := by kernel_rfl
end Go.Proofs.YtbnjhopodhjdhaaDoor.Laid
