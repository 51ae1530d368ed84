/-
  string(b) of bytes that read as a list: the string of these bytes. No conditions.
-/
import Derived.Test.YtldahjgafkhobaaSymMem
import Derived.Test.YtldahjgafkhobaaProg
import Derived.Laws.IdiomStrings
import Derived.Laws.BytesArg
import Derived.KernelRfl
set_option linter.unusedVariables false
set_option linter.unusedSimpArgs false
namespace Go.Proofs.Ytldahjgafkhobaa.Str
open Go.RowKit Go.Proofs.Ytldahjgafkhobaa.Mem

theorem conv_str (bs : List UInt8) (B n cap : Nat) (A : Option Addr) (w : World) (hn : bs.length = n) (h : Reads w B 1 A n (bs.map u8)) :
    (convert 23 9 (.slice A n cap)).run Try.prog w = .ok (.string ⟨bs.toArray⟩) w := by
  subst hn
  cases A with
  | none =>
    have h0 : bs.length = 0 := by
      rcases Nat.eq_zero_or_pos bs.length with h0 | h0
      · exact h0
      · obtain ⟨ad, h, _⟩ := h.2 h0
        cases h
    rw [run_convert_bytes_nil w _ _ Try.underlying23 Try.underlying5 _ _ _ Try.underlying9, List.eq_nil_of_length_eq_zero h0]
    rfl
  | some a =>
    refine run_convert_bytes_back w _ _ _ a cap bs Try.underlying23 Try.underlying5 Try.underlying9 fun j hj => ?_
    obtain ⟨ad, e, _, hc⟩ := h.2 (by omega)
    cases e
    exact hc j (u8 bs[j]) (by simp [hj])
end Go.Proofs.Ytldahjgafkhobaa.Str
