/-
  string(b) of bytes that read as a list: the string of these bytes.
-/
import Derived.Test.YtdeaaidbmneplaaDoorMSymMem
import Derived.Test.YtdeaaidbmneplaaDoorProg
import Derived.Laws.IdiomStrings
import Derived.KernelRfl
set_option linter.unusedSimpArgs false
set_option linter.unusedVariables false
namespace Go.Proofs.YtdeaaidbmneplaaDoor.Str
open Go.RowKit Go.Proofs.YtdeaaidbmneplaaDoor.Mem
theorem conv_str (bs : List UInt8) (B n cap : Nat) (A : Option Addr) (w : World) (hn : bs.length = n) (h : Reads w B 1 A n (bs.map u8)) :
    (convert 22 9 (.slice A n cap)).run Tryd.prog w = .ok (.string ⟨bs.toArray⟩) w := by
  subst hn
  cases A with
  | none =>
    have h0 : bs.length = 0 := by
      rcases Nat.eq_zero_or_pos bs.length with h0 | h0
      · exact h0
      · obtain ⟨ad, h, _⟩ := h.2 h0
        cases h
    rw [run_convert_bytes_nil w _ _ Tryd.underlying22 Tryd.underlying5 _ _ _ Tryd.underlying9, List.eq_nil_of_length_eq_zero h0]
    rfl
  | some a =>
    refine run_convert_bytes_back w _ _ _ a cap bs Tryd.underlying22 Tryd.underlying5 Tryd.underlying9 fun j hj => ?_
    obtain ⟨ad, e, _, hc⟩ := h.2 (by omega)
    cases e
    exact hc j (u8 bs[j]) (by simp [hj])
end Go.Proofs.YtdeaaidbmneplaaDoor.Str
