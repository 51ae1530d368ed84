/-
  An argument that is a slice of entries, or of steps, opened; what each row's proof shares. No conditions.
-/
import Derived.Test.YtklmligfljakfaaRows
import Derived.Test.YtklmligfljakfaaPiPlay
import Derived.WalkKit
import Derived.ProofKit
import Derived.OpenShut
import Derived.ShutString
import Derived.ChangeOld
import Derived.Below
import Derived.Carry
import Derived.Deep.Slices
set_option linter.unusedVariables false
set_option linter.unusedSimpArgs false
namespace Go.Proofs.Ytklmligfljakfaa.Pi
open Go.ChangeShapes Go.WideShapes Go.ChangeAt Go.RowKit Go.Deep Go.Proofs.Ytklmligfljakfaa.Mem
instance : Inhabited En := ⟨en0⟩
instance : Inhabited Opn := ⟨⟨0, false, 0, 0, 0, 0, 0⟩⟩
theorem own : ownKnob Try.prog.godebug = none := by kernel_rfl
theorem laidOut : laidOutB Try.prog = true := by kernel_rfl
theorem c_int : Try.prog.cellsOf 3 = 1 := by kernel_rfl
theorem c_bool : Try.prog.cellsOf 4 = 1 := by kernel_rfl
theorem c_en : Try.prog.cellsOf 30 = 6 := by kernel_rfl
theorem c_op : Try.prog.cellsOf 32 = 7 := by kernel_rfl
section
variable {H : Type} {enc : TypeId × Value → H} {W : World} {fuel : Nat} {x : DataW H × List MemPlace}
theorem int_v {v : Value} (h : DataW.trod enc Try.prog W 0 (fun _ => true) true fuel 3 [v] = some x) : ∃ k : Int, v = .int .i64 k := by
  obtain ⟨k, hv, _, hw⟩ := DataW.trod_int Try.underlying3 h
  simp only [List.cons.injEq, and_true] at hv
  exact ⟨k, hv⟩
theorem bool_v {v : Value} (h : DataW.trod enc Try.prog W 0 (fun _ => true) true fuel 4 [v] = some x) : ∃ b : Bool, v = .bool b := by
  obtain ⟨b, hv, _⟩ := DataW.trod_bool Try.underlying4 h
  simp only [List.cons.injEq, and_true] at hv
  exact ⟨b, hv⟩
set_option maxRecDepth 100000 in
theorem en_of {cs : List Value} (hlen : cs.length = 6) (h : DataW.trod enc Try.prog W 0 (fun _ => true) true fuel 30 cs = some x) : ∃ c : En, cs = [.bool c.bar, .int .i64 c.pc, .int .i64 c.pos, .int .i64 c.mark, .int .i64 c.orig, .int .i64 c.val] := by
  obtain ⟨xs, n', _, hxy, _, hxl, hf⟩ := DataW.trod_struct Try.underlying30 h
  match xs, hxl, cs, hlen with
  | [y0, y1, y2, y3, y4, y5], _, [v0, v1, v2, v3, v4, v5], _ =>
    have g0 := hf 0 _ rfl
    have g1 := hf 1 _ rfl
    have g2 := hf 2 _ rfl
    have g3 := hf 3 _ rfl
    have g4 := hf 4 _ rfl
    have g5 := hf 5 _ rfl
    simp only [c_int, c_bool, List.getElem?_cons_zero, List.getElem?_cons_succ, List.drop_zero, List.drop_succ_cons, List.take_succ_cons, List.take_zero] at g0 g1 g2 g3 g4 g5
    obtain ⟨k0, rfl⟩ := bool_v g0
    obtain ⟨k1, rfl⟩ := int_v g1
    obtain ⟨k2, rfl⟩ := int_v g2
    obtain ⟨k3, rfl⟩ := int_v g3
    obtain ⟨k4, rfl⟩ := int_v g4
    obtain ⟨k5, rfl⟩ := int_v g5
    exact ⟨⟨k0, k1, k2, k3, k4, k5⟩, rfl⟩
set_option maxRecDepth 100000 in
theorem op_of {cs : List Value} (hlen : cs.length = 7) (h : DataW.trod enc Try.prog W 0 (fun _ => true) true fuel 32 cs = some x) : ∃ c : Opn, cs = [.int .i64 c.kind, .bool c.bar, .int .i64 c.pc, .int .i64 c.pos, .int .i64 c.mark, .int .i64 c.orig, .int .i64 c.val] := by
  obtain ⟨xs, n', _, hxy, _, hxl, hf⟩ := DataW.trod_struct Try.underlying32 h
  match xs, hxl, cs, hlen with
  | [y0, y1], _, [v0, v1, v2, v3, v4, v5, v6], _ =>
    have g0 := hf 0 _ rfl
    have g1 := hf 1 _ rfl
    simp only [c_int, c_en, List.getElem?_cons_zero, List.getElem?_cons_succ, List.drop_zero, List.drop_succ_cons, List.take_succ_cons, List.take_zero] at g0 g1
    obtain ⟨k0, rfl⟩ := int_v g0
    obtain ⟨e, he⟩ := en_of rfl g1
    exact ⟨⟨k0, e.bar, e.pc, e.pos, e.mark, e.orig, e.val⟩, congrArg _ he⟩
end
theorem ents_of {H : Type} {enc : TypeId × Value → H} {W : World} {a : Option Addr} {len cap : Nat} {d : DataW H} {p : List MemPlace} (h : DataW.Trod enc Try.prog W 0 (fun _ => true) true 28 (.slice a len cap) d p) :
    ∃ l : List En, l.length = len ∧ EV l a cap W.heap.size W := by
  obtain ⟨fuel, h⟩ := h
  rcases Go.Deep.open_slice Try.underlying28 h with ⟨hcs, _⟩ | ⟨ad, len', cap', m, n, D, Pl, hcs, _, hl, hm, hmm, hx, hel⟩
  · simp [Value.cells] at hcs
    obtain ⟨rfl, rfl, rfl⟩ := hcs
    exact ⟨[], rfl, Nat.le_refl _, by omega, fun h => absurd h (by simp)⟩
  · simp [Value.cells] at hcs
    obtain ⟨rfl, rfl, rfl⟩ := hcs
    have hlm : len ≤ m := by rw [hmm]; split <;> omega
    have key : ∀ i, i < len → ∃ q : En, ∀ j u, [Value.bool q.bar, .int .i64 q.pc, .int .i64 q.pos, .int .i64 q.mark, .int .i64 q.orig, .int .i64 q.val][j]? = some u → W.cell? (ad.add (i * 6 + j)) = some u := by
      intro i hi
      obtain ⟨cs', h1, h2⟩ := hel i (by omega)
      rw [c_en] at h1
      obtain ⟨_, hlen, hcell⟩ := World.cells?_some h1
      obtain ⟨q, rfl⟩ := en_of hlen h2
      refine ⟨q, fun j u hj => ?_⟩
      have hlt := (List.getElem?_eq_some_iff.1 hj).1
      have k0 := hcell j (by simpa using hlt)
      rw [Go.Deep.add_add] at k0
      rw [k0]
      exact hj
    obtain ⟨f, hf⟩ := Go.Deep.choose_lt key
    have hll : ((List.range len).map f).length = len := by simp
    refine ⟨(List.range len).map f, hll, by rw [hll]; exact hl, by unfold maxLen at hm; omega, fun hn => ?_⟩
    rw [hll] at hn
    obtain ⟨b, off, sp⟩ := ad
    have h0 := hf 0 hn 0 _ rfl
    have es : sp = none := cell_spot (by simpa [Addr.add] using h0)
    subst es
    refine ⟨b, off, rfl, ?_, fun k nd hk => ?_⟩
    · have := cell_lt h0
      rwa [block_of_add] at this
    · have hkl : k < len := by have := (List.getElem?_eq_some_iff.1 hk).1; simpa using this
      have e : nd = f k := by simpa [hkl] using hk.symm
      subst e
      have h := hf k hkl
      have ea : ∀ j, (Addr.add ⟨b, off, none⟩ (k * 6 + j)) = ⟨b, off + k * 6 + j, none⟩ := fun j => by rw [add_flat, Nat.add_assoc]
      simp only [ea] at h
      exact ⟨h 0 _ rfl, h 1 _ rfl, h 2 _ rfl, h 3 _ rfl, h 4 _ rfl, h 5 _ rfl⟩
theorem ops_of {H : Type} {enc : TypeId × Value → H} {W : World} {a : Option Addr} {len cap : Nat} {d : DataW H} {p : List MemPlace} (h : DataW.Trod enc Try.prog W 0 (fun _ => true) true 22 (.slice a len cap) d p) :
    ∃ l : List Opn, l.length = len ∧ OV l a cap W.heap.size W := by
  obtain ⟨fuel, h⟩ := h
  rcases Go.Deep.open_slice Try.underlying22 h with ⟨hcs, _⟩ | ⟨ad, len', cap', m, n, D, Pl, hcs, _, hl, hm, hmm, hx, hel⟩
  · simp [Value.cells] at hcs
    obtain ⟨rfl, rfl, rfl⟩ := hcs
    exact ⟨[], rfl, Nat.le_refl _, by omega, fun h => absurd h (by simp)⟩
  · simp [Value.cells] at hcs
    obtain ⟨rfl, rfl, rfl⟩ := hcs
    have hlm : len ≤ m := by rw [hmm]; split <;> omega
    have key : ∀ i, i < len → ∃ q : Opn, ∀ j u, [Value.int .i64 q.kind, .bool q.bar, .int .i64 q.pc, .int .i64 q.pos, .int .i64 q.mark, .int .i64 q.orig, .int .i64 q.val][j]? = some u → W.cell? (ad.add (i * 7 + j)) = some u := by
      intro i hi
      obtain ⟨cs', h1, h2⟩ := hel i (by omega)
      rw [c_op] at h1
      obtain ⟨_, hlen, hcell⟩ := World.cells?_some h1
      obtain ⟨q, rfl⟩ := op_of hlen h2
      refine ⟨q, fun j u hj => ?_⟩
      have hlt := (List.getElem?_eq_some_iff.1 hj).1
      have k0 := hcell j (by simpa using hlt)
      rw [Go.Deep.add_add] at k0
      rw [k0]
      exact hj
    obtain ⟨f, hf⟩ := Go.Deep.choose_lt key
    have hll : ((List.range len).map f).length = len := by simp
    refine ⟨(List.range len).map f, hll, by rw [hll]; exact hl, by unfold maxLen at hm; omega, fun hn => ?_⟩
    rw [hll] at hn
    obtain ⟨b, off, sp⟩ := ad
    have h0 := hf 0 hn 0 _ rfl
    have es : sp = none := cell_spot (by simpa [Addr.add] using h0)
    subst es
    refine ⟨b, off, rfl, ?_, fun k nd hk => ?_⟩
    · have := cell_lt h0
      rwa [block_of_add] at this
    · have hkl : k < len := by have := (List.getElem?_eq_some_iff.1 hk).1; simpa using this
      have e : nd = f k := by simpa [hkl] using hk.symm
      subst e
      have h := hf k hkl
      have ea : ∀ j, (Addr.add ⟨b, off, none⟩ (k * 7 + j)) = ⟨b, off + k * 7 + j, none⟩ := fun j => by rw [add_flat, Nat.add_assoc]
      simp only [ea] at h
      exact ⟨h 0 _ rfl, h 1 _ rfl, h 2 _ rfl, h 3 _ rfl, h 4 _ rfl, h 5 _ rfl, h 6 _ rfl⟩
end Go.Proofs.Ytklmligfljakfaa.Pi
