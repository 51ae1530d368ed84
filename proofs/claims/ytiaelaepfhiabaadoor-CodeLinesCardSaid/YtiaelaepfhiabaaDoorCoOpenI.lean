/-
  An argument that is an instruction, opened. No conditions.
-/
import Derived.Test.YtiaelaepfhiabaaDoorCoOpen
set_option linter.unusedVariables false
set_option linter.unusedSimpArgs false
namespace Go.Proofs.YtiaelaepfhiabaaDoor.Co
open Go.ChangeShapes Go.WideShapes Go.ChangeAt Go.RowKit Go.Deep Go.Proofs.YtiaelaepfhiabaaDoor.Mem Go.Proofs.YtiaelaepfhiabaaDoor.Rs

set_option maxRecDepth 100000 in
theorem instr_of {H : Type} {enc : TypeId × Value → H} {W : World} {b0 : Nat} {v : Value} {d : DataW H} {p : List MemPlace} (hv : Value.okWide Tryd.prog W .any b0 37 v) (h : DataW.Trod enc Tryd.prog W 0 (fun _ => true) true 37 v d p) :
    ∃ i : In, v = .agg #[.int .i64 i.op, .int .i64 i.x, .int .i64 i.y, .int .i64 i.z, .int .i64 i.nd, .int .i64 i.ph] ∧ Okn i := by
  obtain ⟨cs, rfl, hsz⟩ := okWide_struct Tryd.underlying37 hv
  obtain ⟨fuel, hf⟩ := h
  have hl : cs.toList.length = 6 := by rw [Array.length_toList, hsz, c_inst]
  obtain ⟨i, hi, h0, h1, h2, h3, h4, h5⟩ := inst_of (cs := cs.toList) hl (by simpa [Value.cells] using hf)
  refine ⟨i, by rw [← hi], fun k => ?_⟩
  match k with
  | 0 => exact h1
  | 1 => exact h2
  | 2 => exact h3
  | 3 => exact h4
  | _ + 4 => exact h5
end Go.Proofs.YtiaelaepfhiabaaDoor.Co
