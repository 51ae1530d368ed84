/-
  An argument that is a slice of steps, opened; what each row's proof shares. No conditions.
-/
import Derived.Test.YtjnljhigaapalaaRows
import Derived.Test.YtjnljhigaapalaaUnOps
import Derived.WalkKit
import Derived.ProofKit
import Derived.OpenShut
import Derived.ShutString
import Derived.ChangeOld
import Derived.Below
import Derived.Carry
import Derived.Deep.Slices
set_option linter.unusedVariables false
set_option linter.unusedSimpArgs false
namespace Go.Proofs.Ytjnljhigaapalaa.Un
open Go.ChangeShapes Go.WideShapes Go.ChangeAt Go.RowKit Go.Deep Go.Proofs.Ytjnljhigaapalaa.Mem
theorem own : ownKnob Try.prog.godebug = none := by kernel_rfl
theorem laidOut : laidOutB Try.prog = true := by kernel_rfl
theorem c_int : Try.prog.cellsOf 3 = 1 := by kernel_rfl
theorem c_op : Try.prog.cellsOf 34 = 3 := by kernel_rfl
section
variable {H : Type} {enc : TypeId × Value → H} {W : World} {fuel : Nat} {x : DataW H × List MemPlace}
theorem int_v {v : Value} (h : DataW.trod enc Try.prog W 0 (fun _ => true) true fuel 3 [v] = some x) : ∃ k : Int, v = .int .i64 k := by
  obtain ⟨k, hv, _, hw⟩ := DataW.trod_int Try.underlying3 h
  simp only [List.cons.injEq, and_true] at hv
  exact ⟨k, hv⟩
set_option maxRecDepth 100000 in
theorem op_of {cs : List Value} (hlen : cs.length = 3) (h : DataW.trod enc Try.prog W 0 (fun _ => true) true fuel 34 cs = some x) : ∃ c : Opn, cs = [.int .i64 c.1, .int .i64 c.2.1, .int .i64 c.2.2] := by
  obtain ⟨xs, n', _, hxy, _, hxl, hf⟩ := DataW.trod_struct Try.underlying34 h
  match xs, hxl, cs, hlen with
  | [y0, y1, y2], _, [v0, v1, v2], _ =>
    have g0 := hf 0 _ rfl
    have g1 := hf 1 _ rfl
    have g2 := hf 2 _ rfl
    simp only [c_int, List.getElem?_cons_zero, List.getElem?_cons_succ, List.drop_zero, List.drop_succ_cons, List.take_succ_cons, List.take_zero] at g0 g1 g2
    obtain ⟨k0, rfl⟩ := int_v g0
    obtain ⟨k1, rfl⟩ := int_v g1
    obtain ⟨k2, rfl⟩ := int_v g2
    exact ⟨(k0, k1, k2), rfl⟩
end
theorem ops_of {H : Type} {enc : TypeId × Value → H} {W : World} {a : Option Addr} {len cap : Nat} {d : DataW H} {p : List MemPlace} (h : DataW.Trod enc Try.prog W 0 (fun _ => true) true 22 (.slice a len cap) d p) :
    ∃ l : List Opn, l.length = len ∧ OV l a cap W.heap.size W := by
  obtain ⟨fuel, h⟩ := h
  rcases Go.Deep.open_slice Try.underlying22 h with ⟨hcs, _⟩ | ⟨ad, len', cap', m, n, D, Pl, hcs, _, hl, hm, hmm, hx, hel⟩
  · simp [Value.cells] at hcs
    obtain ⟨rfl, rfl, rfl⟩ := hcs
    exact ⟨[], rfl, Nat.le_refl _, by omega, fun h => absurd h (by simp)⟩
  · simp [Value.cells] at hcs
    obtain ⟨rfl, rfl, rfl⟩ := hcs
    have hlm : len ≤ m := by rw [hmm]; split <;> omega
    have key : ∀ i, i < len → ∃ q : Opn, ∀ j u, [Value.int .i64 q.1, .int .i64 q.2.1, .int .i64 q.2.2][j]? = some u → W.cell? (ad.add (i * 3 + j)) = some u := by
      intro i hi
      obtain ⟨cs', h1, h2⟩ := hel i (by omega)
      rw [c_op] at h1
      obtain ⟨_, hlen, hcell⟩ := World.cells?_some h1
      obtain ⟨q, rfl⟩ := op_of hlen h2
      refine ⟨q, fun j u hj => ?_⟩
      have hlt := (List.getElem?_eq_some_iff.1 hj).1
      have k0 := hcell j (by simpa using hlt)
      rw [Go.Deep.add_add] at k0
      rw [k0]
      exact hj
    obtain ⟨f, hf⟩ := Go.Deep.choose_lt key
    have hll : ((List.range len).map f).length = len := by simp
    refine ⟨(List.range len).map f, hll, by rw [hll]; exact hl, by unfold maxLen at hm; omega, fun hn => ?_⟩
    rw [hll] at hn
    obtain ⟨b, off, sp⟩ := ad
    have h0 := hf 0 hn 0 _ rfl
    have es : sp = none := cell_spot (by simpa [Addr.add] using h0)
    subst es
    refine ⟨b, off, rfl, ?_, fun k nd hk => ?_⟩
    · have := cell_lt h0
      rwa [block_of_add] at this
    · have hkl : k < len := by have := (List.getElem?_eq_some_iff.1 hk).1; simpa using this
      have e : nd = f k := by simpa [hkl] using hk.symm
      subst e
      have h := hf k hkl
      have ea : ∀ j, (Addr.add ⟨b, off, none⟩ (k * 3 + j)) = ⟨b, off + k * 3 + j, none⟩ := fun j => by rw [add_flat, Nat.add_assoc]
      simp only [ea] at h
      exact ⟨h 0 _ rfl, h 1 _ rfl, h 2 _ rfl⟩
end Go.Proofs.Ytjnljhigaapalaa.Un
