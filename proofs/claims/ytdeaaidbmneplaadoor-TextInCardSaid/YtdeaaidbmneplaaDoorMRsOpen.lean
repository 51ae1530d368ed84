/-
  An argument that is a slice of ranges, opened to its list; what each row's proof shares.
-/
import Derived.Test.YtdeaaidbmneplaaDoorMRsMem
import Derived.WalkKit
import Derived.ProofKit
import Derived.OpenShut
import Derived.ShutString
import Derived.ChangeOld
import Derived.Carry
import Derived.Deep.SlicePairs
set_option linter.unusedSimpArgs false
set_option linter.unusedVariables false
namespace Go.Proofs.YtdeaaidbmneplaaDoor.Rs
open Go.ChangeShapes Go.WideShapes Go.ChangeAt Go.RowKit Go.Deep Go.Proofs.YtdeaaidbmneplaaDoor.Mem
theorem int_of {x : Int} (h : (Lit.int .i64 x).wf = true) : -9223372036854775808 ≤ x ∧ x ≤ 9223372036854775807 := by
  simp [Lit.wf, IntKind.min, IntKind.max, IntKind.signed, IntKind.bits] at h
  omega
theorem ranges_of {H : Type} {enc : TypeId × Value → H} {W : World} {a : Option Addr} {len cap : Nat} {d : DataW H} {p : List MemPlace} (h : DataW.Trod enc Tryd.prog W 0 (fun _ => true) true 41 (.slice a len cap) d p) :
    ∃ l : List R, l.length = len ∧ len ≤ cap ∧ cap ≤ 9223372036854775807 ∧ (∀ r ∈ l, -9223372036854775808 ≤ r.1 ∧ r.1 ≤ 9223372036854775807) ∧ Lst W W.heap.size a l := by
  obtain ⟨fuel, hf⟩ := h
  rcases open_slice_pairs Tryd.underlying41 Tryd.underlying44 (by kernel_rfl) rfl rfl (by kernel_rfl) (by kernel_rfl) hf with ⟨hcs, _⟩ | ⟨x, l, c, m, n, V0, V1, D0, D1, P0, P1, hcs, _, hl, hm, hmm, _, hx⟩
  · simp [Value.cells] at hcs
    obtain ⟨rfl, rfl, rfl⟩ := hcs
    exact ⟨[], rfl, Nat.le_refl _, by omega, by simp, Lst.nil⟩
  · simp [Value.cells] at hcs
    obtain ⟨rfl, rfl, rfl⟩ := hcs
    have hlm : len ≤ m := by rw [hmm]; split <;> omega
    have hi : ∀ i, i < len → ∃ r0 r1 : Int, V0 i = .int .i64 r0 ∧ V1 i = .int .i64 r1 ∧ (-9223372036854775808 ≤ r0 ∧ r0 ≤ 9223372036854775807) := fun i hil => by
      obtain ⟨_, _, h3, h4⟩ := hx i (by omega)
      obtain ⟨r0, e0, _, w0⟩ := DataW.trod_int Tryd.underlying3 h3
      obtain ⟨r1, e1, _, w1⟩ := DataW.trod_int Tryd.underlying3 h4
      exact ⟨r0, r1, by simpa using e0, by simpa using e1, int_of w0⟩
    refine ⟨(List.range len).map fun i => (intOf (V0 i), intOf (V1 i)), by simp, hl, by unfold maxLen at hm; omega, ?_, fun hn => ?_⟩
    · intro r hr
      simp only [List.mem_map, List.mem_range] at hr
      obtain ⟨i, hil, rfl⟩ := hr
      obtain ⟨r0, r1, e0, e1, hb⟩ := hi i hil
      rw [e0]; exact hb
    · simp at hn
      obtain ⟨b, off, sp⟩ := x
      have h0 := (hx 0 (by omega)).1
      have es : sp = none := cell_spot (by simpa [Addr.add] using h0)
      subst es
      refine ⟨b, off, rfl, by simpa [add_flat] using cell_lt h0, fun k r hr => ?_⟩
      have hk : k < len := by have := (List.getElem?_eq_some_iff.1 hr).1; simpa using this
      have e : r = (intOf (V0 k), intOf (V1 k)) := by simpa [hk] using hr.symm
      subst e
      obtain ⟨r0, r1, e0, e1, hb⟩ := hi k hk
      obtain ⟨h1, h2, _, _⟩ := hx k (by omega)
      rw [add_flat] at h1 h2
      rw [h1, e0]
      refine ⟨by simp [intOf], ?_⟩
      rw [show off + k * 2 + 1 = off + (k * 2 + 1) by omega, h2, e1]
      simp [intOf]
end Go.Proofs.YtdeaaidbmneplaaDoor.Rs
