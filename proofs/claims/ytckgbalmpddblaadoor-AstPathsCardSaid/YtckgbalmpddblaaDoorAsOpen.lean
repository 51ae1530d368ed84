/-
  An argument that is a tree, opened; what each row's proof of stage 6 shares. No conditions.
-/
import Derived.Test.YtckgbalmpddblaaDoorRows
import Derived.Test.YtckgbalmpddblaaDoorAsMem
import Derived.Test.YtckgbalmpddblaaDoorRsOpen
import Derived.Lib.SmallJoins
import Derived.SliceStrings
import Derived.Deep.Slices
import Derived.SizedLaws
set_option linter.unusedVariables false
set_option linter.unusedSimpArgs false
namespace Go.Proofs.YtckgbalmpddblaaDoor.As
open Go.ChangeShapes Go.WideShapes Go.ChangeAt Go.RowKit Go.Deep Go.Proofs.YtckgbalmpddblaaDoor.Mem Go.Proofs.YtckgbalmpddblaaDoor.Rs

section
variable {H : Type} {enc : TypeId × Value → H} {W : World} {fuel : Nat} {x : DataW H × List MemPlace}
theorem in_of {k : Int} (h : (Lit.int .i64 k).wf = true) : in64 k := Rs.int_of h
theorem shape_of {t e : TypeId} {v : Value} (ht : Tryd.prog.underlying t = some (.slice e)) (h : DataW.trod enc Tryd.prog W 0 (fun _ => true) true fuel t [v] = some x) : ∃ a len cap, v = .slice a len cap := by
  rcases DataW.trod_slice ht h with ⟨hcs, _⟩ | ⟨a, len, cap, _, _, _, _, hcs, _⟩
  · simp only [List.cons.injEq, and_true] at hcs
    exact ⟨_, _, _, hcs⟩
  · simp only [List.cons.injEq, and_true] at hcs
    exact ⟨_, _, _, hcs⟩
def Reach (t : TypeId) (d : DataW H) : Prop := ∀ n ∈ d.weights Tryd.prog t, n ≤ reachBytes
theorem b_range : Tryd.prog.bytesOf 52 = 16 := by kernel_rfl
theorem mem_all {P : Program} {e : TypeId} {d : DataW H} : ∀ {ds : List (DataW H)}, d ∈ ds → ∀ n ∈ d.weights P e, n ∈ DataW.weightsAll P e ds
  | x :: ds, hd, n, hn => by
    rw [DataW.weightsAll, List.mem_append]
    rcases List.mem_cons.1 hd with rfl | hd
    · exact .inl hn
    · exact .inr (mem_all hd n hn)
theorem set_reach {a : Option Addr} {len cap : Nat} (h : DataW.trod enc Tryd.prog W 0 (fun _ => true) true fuel 39 [.slice a len cap] = some x) (hr : Reach 39 x.1) : len * 16 ≤ reachBytes := by
  rcases Go.Deep.open_slice Tryd.underlying39 h with ⟨hcs, _⟩ | ⟨b, l, c, m, n, D, Pl, hcs, _, hl, hm, hmm, hx, hel⟩
  · simp only [List.cons.injEq, Value.slice.injEq, and_true] at hcs
    omega
  · simp only [List.cons.injEq, Value.slice.injEq, and_true] at hcs
    obtain ⟨-, rfl, -⟩ := hcs
    have := hr (((List.range len).map D).length * 16 + ((List.range (m - len)).map fun j => D (len + j)).length * 16) (by
      rw [hx]
      simp only [DataW.weights, Tryd.underlying39, b_range, List.mem_cons]
      left
      rw [Nat.add_mul])
    simp at this
    omega
theorem set_of {v : Value} (h : DataW.trod enc Tryd.prog W 0 (fun _ => true) true fuel 39 [v] = some x) : ∃ l : List R, SetV W W.heap.size l v ∧ (∀ r ∈ l, in64 r.1) ∧ (Reach 39 x.1 → l.length * 16 ≤ reachBytes) := by
  obtain ⟨a, len, cap, rfl⟩ := shape_of Tryd.underlying39 h
  have HR := set_reach h
  obtain ⟨l, rfl, h1, h2, h3, h4⟩ := ranges_of (⟨fuel, by simpa [Value.cells] using h⟩ : DataW.Trod enc Tryd.prog W 0 (fun _ => true) true 39 (.slice a len cap) x.1 x.2)
  exact ⟨l, ⟨a, cap, rfl, h1, h2, h4⟩, h3, HR⟩
theorem kids_of {v : Value} (h : DataW.trod enc Tryd.prog W 0 (fun _ => true) true fuel 40 [v] = some x) : ∃ l : List Int, KidsV W W.heap.size l v ∧ ∀ k ∈ l, in64 k := by
  rcases open_ints Tryd.underlying40 Tryd.underlying3 (by kernel_rfl) h with ⟨hcs, _⟩ | ⟨y, len, cap, zs, hcs, _, hl, hm, hz, _, hc, hw⟩
  · simp only [List.cons.injEq, and_true] at hcs
    subst hcs
    exact ⟨[], ⟨none, 0, rfl, Nat.le_refl _, by omega, Reads.none_⟩, by simp⟩
  · simp only [List.cons.injEq, and_true] at hcs
    subst hcs
    have hz' : zs.length = cap := by simpa using hz
    have hlt : (zs.take len).length = len := by rw [List.length_take]; omega
    refine ⟨zs.take len, ⟨some y, cap, by rw [hlt], by rw [hlt]; exact hl, by unfold maxLen at hm; omega, ?_⟩, fun k hk => in_of (hw k (List.mem_of_mem_take hk))⟩
    refine ⟨by simp, fun hn => ⟨y, rfl, ?_, fun j u hj => ?_⟩⟩
    · rw [hlt] at hn
      have := cell_lt (hc 0 (by omega))
      rwa [block_of_add] at this
    · rw [List.getElem?_map] at hj
      rcases Nat.lt_or_ge j len with h1 | h1
      · have hj' : j < zs.length := by omega
        rw [List.getElem?_take, if_pos h1, List.getElem?_eq_getElem hj'] at hj
        simp only [Option.map_some, Option.some.injEq] at hj
        rw [hc j hj', ← hj]
        simp [List.getD, hj']
      · rw [List.getElem?_take, if_neg (by omega)] at hj; simp at hj
theorem str_of {v : Value} (h : DataW.trod enc Tryd.prog W 0 (fun _ => true) true fuel 9 [v] = some x) : ∃ l : List UInt8, v = str l := by
  obtain ⟨s, hv, _⟩ := DataW.trod_string Tryd.underlying9 h
  simp only [List.cons.injEq, and_true] at hv
  exact ⟨s.data.toList, by rw [hv]⟩
theorem int_v {v : Value} (h : DataW.trod enc Tryd.prog W 0 (fun _ => true) true fuel 3 [v] = some x) : ∃ k : Int, v = .int .i64 k ∧ in64 k := by
  obtain ⟨k, hv, _, hw⟩ := DataW.trod_int Tryd.underlying3 h
  simp only [List.cons.injEq, and_true] at hv
  exact ⟨k, hv, in_of hw⟩
theorem c_int : Tryd.prog.cellsOf 3 = 1 := by kernel_rfl
theorem c_str : Tryd.prog.cellsOf 9 = 1 := by kernel_rfl
theorem c_set : Tryd.prog.cellsOf 39 = 1 := by kernel_rfl
theorem c_kids : Tryd.prog.cellsOf 40 = 1 := by kernel_rfl
theorem c_node : Tryd.prog.cellsOf 42 = 10 := by kernel_rfl
set_option maxRecDepth 100000 in
theorem node_of {cs : List Value} (hlen : cs.length = 10) (h : DataW.trod enc Tryd.prog W 0 (fun _ => true) true fuel 42 cs = some x) : ∃ nd, NdIn nd ∧ (NodeV W W.heap.size nd fun j => cs[j]?) ∧ (Reach 42 x.1 → nd.set.length * 16 ≤ reachBytes) := by
  obtain ⟨xs, n', _, hxy, _, hxl, hf⟩ := DataW.trod_struct Tryd.underlying42 h
  match xs, hxl, cs, hlen with
  | [y0, y1, y2, y3, y4, y5, y6, y7, y8, y9], _, [v0, v1, v2, v3, v4, v5, v6, v7, v8, v9], _ =>
    have g0 := hf 0 _ rfl
    have g1 := hf 1 _ rfl
    have g2 := hf 2 _ rfl
    have g3 := hf 3 _ rfl
    have g4 := hf 4 _ rfl
    have g5 := hf 5 _ rfl
    have g6 := hf 6 _ rfl
    have g7 := hf 7 _ rfl
    have g8 := hf 8 _ rfl
    have g9 := hf 9 _ rfl
    simp only [c_int, c_str, c_set, c_kids, List.getElem?_cons_zero, List.getElem?_cons_succ, List.drop_zero, List.drop_succ_cons, List.take_succ_cons, List.take_zero] at g0 g1 g2 g3 g4 g5 g6 g7 g8 g9
    obtain ⟨k0, rfl, i0⟩ := int_v g0
    obtain ⟨k1, rfl, i1⟩ := int_v g1
    obtain ⟨k2, rfl, i2⟩ := int_v g2
    obtain ⟨k3, rfl, i3⟩ := int_v g3
    obtain ⟨k4, rfl, i4⟩ := int_v g4
    obtain ⟨k5, rfl, i5⟩ := int_v g5
    obtain ⟨k6, rfl, i6⟩ := int_v g6
    obtain ⟨k7, rfl⟩ := str_of g7
    obtain ⟨k8, h8, i8, z8⟩ := set_of g8
    obtain ⟨k9, h9, i9⟩ := kids_of g9
    exact ⟨⟨k0, k1, k2, k3, k4, k5, k6, k7, k8, k9⟩, ⟨i0, i1, i2, i3, i4, i5, i6, i8, i9⟩, ⟨rfl, rfl, rfl, rfl, rfl, rfl, rfl, rfl, ⟨_, rfl, h8⟩, _, rfl, h9⟩, fun hr => z8 fun n hn => hr n (by
      rw [hxy]
      simp only [DataW.weights, Tryd.underlying42]
      exact DataW.weights_mem_each (j := 8) rfl rfl n hn)⟩
theorem nodes_of {v : Value} (h : DataW.trod enc Tryd.prog W 0 (fun _ => true) true fuel 22 [v] = some x) : ∃ l : List Nd, NodesV W W.heap.size l v ∧ (∀ nd ∈ l, NdIn nd) ∧ (Reach 22 x.1 → ∀ nd ∈ l, nd.set.length * 16 ≤ reachBytes) := by
  rcases Go.Deep.open_slice Tryd.underlying22 h with ⟨hcs, _⟩ | ⟨a, len, cap, m, n, D, Pl, hcs, _, hl, hm, hmm, hx, hel⟩
  · simp only [List.cons.injEq, and_true] at hcs
    subst hcs
    exact ⟨[], ⟨none, 0, rfl, Nat.le_refl _, by omega, fun hn => absurd hn (by simp)⟩, by simp, by simp⟩
  · simp only [List.cons.injEq, and_true] at hcs
    subst hcs
    have hlm : len ≤ m := by rw [hmm]; split <;> omega
    have key : ∀ i, i < len → ∃ nd, NdIn nd ∧ (NodeV W W.heap.size nd fun j => W.cell? (a.add (i * 10 + j))) ∧ (Reach 22 x.1 → nd.set.length * 16 ≤ reachBytes) := by
      intro i hi
      obtain ⟨cs', h1, h2⟩ := hel i (by omega)
      rw [c_node] at h1
      obtain ⟨_, hlen, hcell⟩ := World.cells?_some h1
      obtain ⟨nd, hin, hv, hz⟩ := node_of hlen h2
      refine ⟨nd, hin, ?_, fun hr => hz fun n hn => hr n (by
        rw [hx]
        simp only [DataW.weights, Tryd.underlying22, List.mem_cons, List.mem_append]
        exact .inr (.inl (mem_all (List.mem_map.2 ⟨i, List.mem_range.2 hi, rfl⟩) n hn)))⟩
      have hj : ∀ j v, cs'[j]? = some v → W.cell? (a.add (i * 10 + j)) = some v := by
        intro j v hjv
        have hlt : j < cs'.length := (List.getElem?_eq_some_iff.1 hjv).1
        have k0 := hcell j (by omega)
        rw [Go.Deep.add_add] at k0
        rw [k0]
        exact hjv
      obtain ⟨h0, h1, h2, h3, h4, h5, h6, h7, ⟨v8, h8, h8'⟩, v9, h9, h9'⟩ := hv
      exact ⟨hj 0 _ h0, hj 1 _ h1, hj 2 _ h2, hj 3 _ h3, hj 4 _ h4, hj 5 _ h5, hj 6 _ h6, hj 7 _ h7, ⟨v8, hj 8 _ h8, h8'⟩, v9, hj 9 _ h9, h9'⟩
    haveI : Inhabited Nd := ⟨⟨0, 0, 0, 0, 0, 0, 0, [], [], []⟩⟩
    obtain ⟨f, hf⟩ := Go.Deep.choose_lt key
    have hll : ((List.range len).map f).length = len := by simp
    refine ⟨(List.range len).map f, ⟨some a, cap, by rw [hll], by rw [hll]; exact hl, by unfold maxLen at hm; omega, fun hn => ?_⟩, fun nd hnd => ?_, fun hr nd hnd => ?_⟩
    · rw [hll] at hn
      obtain ⟨b, off, sp⟩ := a
      have h0 := (hf 0 hn).2.1.1
      have es : sp = none := cell_spot (by simpa [Addr.add] using h0)
      subst es
      refine ⟨b, off, rfl, ?_, fun k nd hk => ?_⟩
      · have := cell_lt h0
        rwa [block_of_add] at this
      · have hkl : k < len := by have := (List.getElem?_eq_some_iff.1 hk).1; simpa using this
        have e : nd = f k := by simpa [hkl] using hk.symm
        subst e
        have h := (hf k hkl).2.1
        have ea : ∀ j, (Addr.add ⟨b, off, none⟩ (k * 10 + j)) = ⟨b, off + k * 10 + j, none⟩ := fun j => by rw [add_flat, Nat.add_assoc]
        simp only [ea] at h
        exact h
    · obtain ⟨i, hi, rfl⟩ := List.mem_map.1 hnd
      exact (hf i (List.mem_range.1 hi)).1
    · obtain ⟨i, hi, rfl⟩ := List.mem_map.1 hnd
      exact (hf i (List.mem_range.1 hi)).2.2 hr
theorem names_of {v : Value} (h : DataW.trod enc Tryd.prog W 0 (fun _ => true) true fuel 23 [v] = some x) : ∃ l : List (List UInt8), NamesV W W.heap.size l v := by
  rcases open_strings Tryd.underlying23 Tryd.underlying9 (by kernel_rfl) h with ⟨hcs, _⟩ | ⟨a, len, cap, ss, hcs, _, hl, hm, hlen, _, hc, _⟩
  · simp only [List.cons.injEq, and_true] at hcs
    subst hcs
    exact ⟨[], none, 0, rfl, Nat.le_refl _, by omega, fun hn => absurd hn (by simp)⟩
  · simp only [List.cons.injEq, and_true] at hcs
    subst hcs
    have hlm : len ≤ ss.length := by rw [hlen]; split <;> omega
    have hll : ((ss.take len).map fun s => s.data.toList).length = len := by rw [List.length_map, List.length_take]; omega
    refine ⟨(ss.take len).map fun s => s.data.toList, some a, cap, by rw [hll], by rw [hll]; exact hl, by unfold maxLen at hm; omega, fun hn => ?_⟩
    rw [hll] at hn
    obtain ⟨b, off, sp⟩ := a
    have h0 := hc 0 (by omega)
    have es : sp = none := cell_spot (by simpa [Addr.add] using h0)
    subst es
    refine ⟨b, off, rfl, ?_, fun k s hk => ?_⟩
    · have := cell_lt h0
      rwa [block_of_add] at this
    · rw [List.getElem?_map, List.getElem?_take] at hk
      split at hk
      · rename_i hkl
        have h := hc k (by omega)
        rw [add_flat] at h
        rw [h, List.getD]
        obtain ⟨y, hy, rfl⟩ := Option.map_eq_some_iff.1 hk
        rw [hy]
        simp [str]
      · simp at hk
end
theorem tree_of {H : Type} {enc : TypeId × Value → H} {W : World} {b0 : Nat} {v : Value} {d : DataW H} {p : List MemPlace} (hv : Value.okWide Tryd.prog W .any b0 25 v) (h : DataW.Trod enc Tryd.prog W 0 (fun _ => true) true 25 v d p) :
    ∃ t : Tr, TreeV W W.heap.size t v ∧ TrIn t ∧ (Reach 25 d → ∀ nd ∈ t.nodes, nd.set.length ≤ 8796093021952) := by
  obtain ⟨a, g, c, y0, y1, y2, n, rfl, hd, _, h0, h1, h2⟩ := Go.Joins.open_agg3 Tryd.underlying25 (by kernel_rfl) (by kernel_rfl) hv h
  obtain ⟨l, hl, hin, hz⟩ := nodes_of h0
  obtain ⟨k, rfl, hk⟩ := int_v h1
  obtain ⟨ns, hns⟩ := names_of h2
  refine ⟨⟨l, k, ns⟩, ⟨a, c, rfl, hl, hns⟩, ⟨hin, hk⟩, fun hr nd hnd => ?_⟩
  have := hz (fun n hn => hr n (by
    rw [hd]
    simp only [DataW.weights, Tryd.underlying25]
    exact DataW.weights_mem_each (j := 0) rfl rfl n hn)) nd hnd
  unfold reachBytes at this
  omega
end Go.Proofs.YtckgbalmpddblaaDoor.As
