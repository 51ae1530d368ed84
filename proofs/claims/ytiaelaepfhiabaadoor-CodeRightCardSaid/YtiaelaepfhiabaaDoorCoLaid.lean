/-
  From a row's condition ('the four tables read as the program's text lays them') to their cells. No conditions.
-/
import Derived.Test.YtiaelaepfhiabaaDoorRows
import Derived.Test.YtiaelaepfhiabaaDoorTie
import Derived.Test.YtiaelaepfhiabaaDoorCards
import Derived.Test.YtiaelaepfhiabaaDoorCoText
import Derived.WalkKit
import Derived.ProofKit
import Derived.OpenShut
import Derived.ShutString
import Derived.ChangeOld
import Derived.Below
import Derived.Lay
import Derived.Lib.LaidTab
import Derived.LaidOnce
import Derived.SevenTiedAt
set_option linter.unusedVariables false
set_option linter.unusedSimpArgs false
namespace Go.Proofs.YtiaelaepfhiabaaDoor.Co
open Go.ChangeShapes Go.WideShapes Go.ChangeAt Go.RowKit Go.Proofs.YtiaelaepfhiabaaDoor.Mem

abbrev list : List (String × DataW Unit) := [("math/bits.deBruijn32tab", Rows.laid_math_bits_deBruijn32tab), ("math/bits.deBruijn64tab", Rows.laid_math_bits_deBruijn64tab), ("internal/strconv.uint64pow10", Rows.laid_internal_strconv_uint64pow10), ("clew/code.words", Rows.laid_clew_code_words)]
def wordsD : List (DataW Unit) := wl.map fun x => .lit (.string x)
theorem words_eq : (Rows.laid_clew_code_words : DataW Unit) = .agg wordsD := by kernel_rfl
theorem pow_eq : (Rows.laid_internal_strconv_uint64pow10 : DataW Unit) = Lib.tabData .u64 Lib.pow10Tab := by kernel_rfl
theorem g_words : Tryd.prog.globalNamed "clew/code.words" = some 0 := by kernel_rfl
theorem y_words : (Tryd.prog.globals[0]?).map (·.type) = some 38 := by kernel_rfl
theorem y_pow : (Tryd.prog.globals[1]?).map (·.type) = some 94 := by kernel_rfl
theorem c_str1 : Tryd.prog.cellsOf 9 = 1 := by kernel_rfl
theorem c_u64 : Tryd.prog.cellsOf 81 = 1 := by kernel_rfl
theorem c_pow : Tryd.prog.cellsOf 94 = 20 := by kernel_rfl
theorem var_lt {P : Program} {W : World} {name : String} {g : Nat} {cs : Array Value} (hg : P.globalNamed name = some g) (h : W.var? P name = some cs) : g < W.heap.size := by
  unfold World.var? at h
  rw [hg] at h
  simp only [Option.bind_some] at h
  rcases Nat.lt_or_ge g W.heap.size with h1 | h1
  · exact h1
  · rw [Array.getElem?_eq_none h1] at h; cases h
set_option maxRecDepth 100000 in
theorem tab_of {W : World} (h : laidMetH Tryd.prog list W) : Tb W := by
  rw [MakeChecks.laidMetH_plain _ _ _ (by kernel_rfl)] at h
  obtain ⟨ps, ⟨-, -, -, -, -, -, -, -, -, -, ⟨-, -, -, -, -, -, -, -, -, -, ⟨g, t, cs, fuel, p, q, hg, ht, hv, hd, ⟨g', t', cs', fuel', p', q', hg', ht', hv', hd', -, -⟩, -⟩, -⟩, -⟩, -⟩ := h
  obtain rfl := Option.some.inj (g_pow.symm.trans hg)
  obtain rfl := Option.some.inj (y_pow.symm.trans ht)
  obtain rfl := Option.some.inj (g_words.symm.trans hg')
  obtain rfl := Option.some.inj (y_words.symm.trans ht')
  refine ⟨fun k hk => ?_, var_lt hg' hv', ?_, var_lt hg hv⟩
  · rw [words_eq] at hd'
    obtain ⟨xs, m, -, ex, hlen, hl, hel⟩ := DataW.trod_array Tryd.underlying38 hd'
    have hE := hel k hk
    rw [c_str1, List.getElem?_eq_getElem (by omega : k < xs.length)] at hE
    have e3 : xs.map (·.1) = wordsD := (DataW.agg.inj (Prod.mk.inj ex).1).symm
    have e4 : (xs.map (·.1))[k]? = wordsD[k]? := by rw [e3]
    have hwk : k < wl.length := by have : wl.length = 20 := by decide
                                   omega
    rw [List.getElem?_map, List.getElem?_eq_getElem (by omega : k < xs.length)] at e4
    simp only [wordsD, List.getElem?_map, List.getElem?_eq_getElem hwk, Option.map_some, Option.some.injEq] at e4
    obtain ⟨z0, a0, b0, -⟩ := DataW.trod_string Tryd.underlying9 hE
    rw [b0] at e4
    simp only [DataW.lit.injEq, Lit.string.injEq] at e4
    have f0 := congrArg (·[0]?) a0
    simp [c_str1, List.getElem?_take, List.getElem?_drop] at f0
    rw [World.var?_cell hg' hv' k]
    unfold wordV wordL
    rw [show wl.getD k [] = wl[k] from by simp [List.getD, hwk], ← e4]
    simpa using f0
  · rw [pow_eq] at hd
    have hcs := Lib.cells_of_tab Tryd.underlying94 Tryd.underlying81 c_u64 c_pow hd
    unfold Lib.TabIs
    rw [hv, ← hcs]
end Go.Proofs.YtiaelaepfhiabaaDoor.Co
