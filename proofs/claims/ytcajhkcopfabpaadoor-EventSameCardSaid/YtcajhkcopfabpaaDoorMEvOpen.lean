/-
  An argument that is a state, opened.
-/
import Derived.Test.YtcajhkcopfabpaaDoorRows
import Derived.Test.YtcajhkcopfabpaaDoorTie
import Derived.Test.YtcajhkcopfabpaaDoorCards
import Derived.Test.YtcajhkcopfabpaaDoorMEvSmall
import Derived.WalkKit
import Derived.ProofKit
import Derived.OpenShut
import Derived.ShutString
import Derived.ChangeOld
import Derived.ChangeMaps5
import Derived.Carry
import Derived.Deep.Slices
import Derived.Lay
import Derived.Lib.LaidTab
import Derived.LaidOnce
import Derived.SevenTiedAt
import Derived.SizedLaws
set_option linter.unusedSimpArgs false
set_option linter.unusedVariables false
namespace Go.Proofs.YtcajhkcopfabpaaDoor.Ev
open Go.ChangeShapes Go.WideShapes Go.ChangeAt Go.RowKit Go.ChangeMaps Go.Proofs.YtcajhkcopfabpaaDoor.Mem Go.Deep
section
variable {H : Type} {enc : TypeId × Value → H} {W : World} {fuel : Nat} {x : DataW H × List MemPlace}
def Reach (t : TypeId) (d : DataW H) : Prop := ∀ n ∈ d.weights Tryd.prog t, n ≤ reachBytes
theorem b_int : Tryd.prog.bytesOf 3 = 8 := by kernel_rfl
theorem c_int : Tryd.prog.cellsOf 3 = 1 := by kernel_rfl
theorem c_ints : Tryd.prog.cellsOf 22 = 1 := by kernel_rfl
theorem c_state : Tryd.prog.cellsOf 24 = 8 := by kernel_rfl
theorem ints_reach {a : Option Addr} {len cap : Nat} (h : DataW.trod enc Tryd.prog W 0 (fun _ => true) true fuel 22 [.slice a len cap] = some x) (hr : Reach 22 x.1) : len * 8 ≤ reachBytes := by
  rcases Go.Deep.open_slice Tryd.underlying22 h with ⟨hcs, _⟩ | ⟨b, l, c, m, n, D, Pl, hcs, _, hl, hm, hmm, hx, hel⟩
  · simp only [List.cons.injEq, Value.slice.injEq, and_true] at hcs
    omega
  · simp only [List.cons.injEq, Value.slice.injEq, and_true] at hcs
    obtain ⟨-, rfl, -⟩ := hcs
    have := hr (((List.range len).map D).length * 8 + ((List.range (m - len)).map fun j => D (len + j)).length * 8) (by
      rw [hx]
      simp only [DataW.weights, Tryd.underlying22, b_int, List.mem_cons]
      left
      rw [Nat.add_mul])
    simp at this
    omega
theorem places_of {v : Value} (h : DataW.trod enc Tryd.prog W 0 (fun _ => true) true fuel 22 [v] = some x) : ∃ (l : List Int) (A : Option Addr) (c : Nat), v = .slice A l.length c ∧ CV l A c W ∧ (Reach 22 x.1 → l.length * 8 ≤ reachBytes) := by
  have h0 := h
  rcases open_ints Tryd.underlying22 Tryd.underlying3 (by kernel_rfl) h with ⟨hcs, _⟩ | ⟨y, len, cap, zs, hcs, _, hl, hm, hz, _, hc, hw⟩
  · simp only [List.cons.injEq, and_true] at hcs
    subst hcs
    exact ⟨[], none, 0, rfl, ⟨Nat.le_refl _, by omega, Reads.none_⟩, fun _ => by simp⟩
  · simp only [List.cons.injEq, and_true] at hcs
    subst hcs
    have hz' : zs.length = cap := by simpa using hz
    have hlt : (zs.take len).length = len := by rw [List.length_take]; omega
    refine ⟨zs.take len, some y, cap, by rw [hlt], ⟨by rw [hlt]; exact hl, by unfold maxLen at hm; omega, ?_⟩, fun hr => by rw [hlt]; exact ints_reach h0 hr⟩
    refine ⟨by simp, fun hn => ⟨y, rfl, ?_, fun j u hj => ?_⟩⟩
    · rw [hlt] at hn
      have := cell_lt (hc 0 (by omega))
      rwa [block_of_add] at this
    · rw [List.getElem?_map] at hj
      rcases Nat.lt_or_ge j len with h1 | h1
      · have hj' : j < zs.length := by omega
        rw [List.getElem?_take, if_pos h1, List.getElem?_eq_getElem hj'] at hj
        simp only [Option.map_some, Option.some.injEq] at hj
        rw [hc j hj', ← hj]
        simp [List.getD, hj']
      · rw [List.getElem?_take, if_neg (by omega)] at hj; simp at hj
theorem int_v {v : Value} (h : DataW.trod enc Tryd.prog W 0 (fun _ => true) true fuel 3 [v] = some x) : ∃ k : Int, v = .int .i64 k := by
  obtain ⟨k, hv, _, hw⟩ := DataW.trod_int Tryd.underlying3 h
  simp only [List.cons.injEq, and_true] at hv
  exact ⟨k, hv⟩
end
set_option maxRecDepth 100000 in
theorem state_of {H : Type} {enc : TypeId × Value → H} {W : World} {b0 : Nat} {v : Value} {d : DataW H} {p : List MemPlace} (hv : Value.okWide Tryd.prog W .any b0 24 v) (h : DataW.Trod enc Tryd.prog W 0 (fun _ => true) true 24 v d p) :
    ∃ (s : St) (A : Option Addr) (c : Nat), v = .agg #[.int .i64 s.kind, .int .i64 s.node, .int .i64 s.phase, .int .i64 s.pos, .int .i64 s.start, .int .i64 s.depth, .int .i64 s.origin, .slice A s.caps.length c] ∧ CV s.caps A c W ∧ (Reach 24 d → s.caps.length ≤ 17592186044416) := by
  obtain ⟨cs, rfl, hsz⟩ := okWide_struct Tryd.underlying24 hv
  obtain ⟨fuel, hf⟩ := h
  have hl : cs.toList.length = 8 := by rw [Array.length_toList, hsz, c_state]
  have hf2 : DataW.trod enc Tryd.prog W 0 (fun _ => true) true fuel 24 cs.toList = some (d, p) := by simpa [Value.cells] using hf
  obtain ⟨xs, n', _, hxy, _, hxl, hg⟩ := DataW.trod_struct Tryd.underlying24 hf2
  obtain ⟨l, hcs⟩ : ∃ l, cs.toList = l := ⟨_, rfl⟩
  rw [hcs] at hl hg
  match xs, hxl, l, hl with
  | [y0, y1, y2, y3, y4, y5, y6, y7], _, [v0, v1, v2, v3, v4, v5, v6, v7], _ =>
    have g0 := hg 0 _ rfl
    have g1 := hg 1 _ rfl
    have g2 := hg 2 _ rfl
    have g3 := hg 3 _ rfl
    have g4 := hg 4 _ rfl
    have g5 := hg 5 _ rfl
    have g6 := hg 6 _ rfl
    have g7 := hg 7 _ rfl
    simp only [c_int, c_ints, List.getElem?_cons_zero, List.getElem?_cons_succ, List.drop_zero, List.drop_succ_cons, List.take_succ_cons, List.take_zero] at g0 g1 g2 g3 g4 g5 g6 g7
    obtain ⟨k0, rfl⟩ := int_v g0
    obtain ⟨k1, rfl⟩ := int_v g1
    obtain ⟨k2, rfl⟩ := int_v g2
    obtain ⟨k3, rfl⟩ := int_v g3
    obtain ⟨k4, rfl⟩ := int_v g4
    obtain ⟨k5, rfl⟩ := int_v g5
    obtain ⟨k6, rfl⟩ := int_v g6
    obtain ⟨l7, A, c, rfl, hC, hR⟩ := places_of g7
    refine ⟨⟨k0, k1, k2, k3, k4, k5, k6, l7⟩, A, c, by rw [← hcs], hC, fun hr => ?_⟩
    have := hR (fun n hn => hr n (by
      have hd : d = _ := (Prod.mk.inj hxy).1
      rw [hd]
      simp only [DataW.weights, Tryd.underlying24]
      exact DataW.weights_mem_each (j := 7) rfl rfl n hn))
    unfold reachBytes at this
    show l7.length ≤ _
    omega
theorem own : ownKnob Tryd.prog.godebug = none := by kernel_rfl
theorem laidOut : laidOutB Tryd.prog = true := by kernel_rfl
end Go.Proofs.YtcajhkcopfabpaaDoor.Ev
