/-
  An argument that is a program, an instruction, opened. No conditions.
-/
import Derived.Test.YtiaelaepfhiabaaDoorRows
import Derived.Test.YtiaelaepfhiabaaDoorCoLine
import Derived.Test.YtiaelaepfhiabaaDoorCoRight
import Derived.Test.YtiaelaepfhiabaaDoorRsOpen
import Derived.Lib.SmallJoins
import Derived.Deep.Slices
import Derived.SizedLaws
set_option linter.unusedVariables false
set_option linter.unusedSimpArgs false
namespace Go.Proofs.YtiaelaepfhiabaaDoor.Co
open Go.ChangeShapes Go.WideShapes Go.ChangeAt Go.RowKit Go.Deep Go.Proofs.YtiaelaepfhiabaaDoor.Mem Go.Proofs.YtiaelaepfhiabaaDoor.Rs

section
variable {H : Type} {enc : TypeId × Value → H} {W : World} {fuel : Nat} {x : DataW H × List MemPlace}
def in64 (k : Int) : Prop := -9223372036854775808 ≤ k ∧ k ≤ 9223372036854775807
def Reach (t : TypeId) (d : DataW H) : Prop := ∀ n ∈ d.weights Tryd.prog t, n ≤ reachBytes
theorem mem_all {P : Program} {e : TypeId} {d : DataW H} : ∀ {ds : List (DataW H)}, d ∈ ds → ∀ n ∈ d.weights P e, n ∈ DataW.weightsAll P e ds
  | x :: ds, hd, n, hn => by
    rw [DataW.weightsAll, List.mem_append]
    rcases List.mem_cons.1 hd with rfl | hd
    · exact .inl hn
    · exact .inr (mem_all hd n hn)
theorem shape_of {t e : TypeId} {v : Value} (ht : Tryd.prog.underlying t = some (.slice e)) (h : DataW.trod enc Tryd.prog W 0 (fun _ => true) true fuel t [v] = some x) : ∃ a len cap, v = .slice a len cap := by
  rcases DataW.trod_slice ht h with ⟨hcs, _⟩ | ⟨a, len, cap, _, _, _, _, hcs, _⟩
  · simp only [List.cons.injEq, and_true] at hcs
    exact ⟨_, _, _, hcs⟩
  · simp only [List.cons.injEq, and_true] at hcs
    exact ⟨_, _, _, hcs⟩
theorem slice_reach {t e : TypeId} {bb : Nat} (ht : Tryd.prog.underlying t = some (.slice e)) (hb : Tryd.prog.bytesOf e = bb) {a : Option Addr} {len cap : Nat} (h : DataW.trod enc Tryd.prog W 0 (fun _ => true) true fuel t [.slice a len cap] = some x) (hr : Reach t x.1) : len * bb ≤ reachBytes := by
  rcases Go.Deep.open_slice ht h with ⟨hcs, _⟩ | ⟨b, l, c, m, n, D, Pl, hcs, _, hl, hm, hmm, hx, hel⟩
  · simp only [List.cons.injEq, Value.slice.injEq, and_true] at hcs
    rw [hcs.2.1]; omega
  · simp only [List.cons.injEq, Value.slice.injEq, and_true] at hcs
    obtain ⟨-, rfl, -⟩ := hcs
    have := hr (((List.range len).map D).length * bb + ((List.range (m - len)).map fun j => D (len + j)).length * bb) (by
      rw [hx]
      simp only [DataW.weights, ht, hb, List.mem_cons]
      left
      rw [Nat.add_mul])
    simp at this
    omega
theorem int_v {v : Value} (h : DataW.trod enc Tryd.prog W 0 (fun _ => true) true fuel 3 [v] = some x) : ∃ k : Int, v = .int .i64 k ∧ in64 k := by
  obtain ⟨k, hv, _, hw⟩ := DataW.trod_int Tryd.underlying3 h
  simp only [List.cons.injEq, and_true] at hv
  exact ⟨k, hv, Rs.int_of hw⟩
theorem c_int : Tryd.prog.cellsOf 3 = 1 := by kernel_rfl
theorem c_inst : Tryd.prog.cellsOf 37 = 6 := by kernel_rfl
theorem c_cnt : Tryd.prog.cellsOf 54 = 3 := by kernel_rfl
theorem c_set : Tryd.prog.cellsOf 50 = 1 := by kernel_rfl
theorem b_range : Tryd.prog.bytesOf 52 = 16 := by kernel_rfl
theorem b_inst : Tryd.prog.bytesOf 37 = 48 := by kernel_rfl
theorem b_cnt : Tryd.prog.bytesOf 54 = 24 := by kernel_rfl
theorem b_set : Tryd.prog.bytesOf 50 = 24 := by kernel_rfl
set_option maxRecDepth 100000 in
theorem inst_of {cs : List Value} (hlen : cs.length = 6) (h : DataW.trod enc Tryd.prog W 0 (fun _ => true) true fuel 37 cs = some x) : ∃ i : In, cs = [.int .i64 i.op, .int .i64 i.x, .int .i64 i.y, .int .i64 i.z, .int .i64 i.nd, .int .i64 i.ph] ∧ in64 i.op ∧ in64 i.x ∧ in64 i.y ∧ in64 i.z ∧ in64 i.nd ∧ in64 i.ph := by
  obtain ⟨xs, n', _, hxy, _, hxl, hf⟩ := DataW.trod_struct Tryd.underlying37 h
  match xs, hxl, cs, hlen with
  | [y0, y1, y2, y3, y4, y5], _, [v0, v1, v2, v3, v4, v5], _ =>
    have g0 := hf 0 _ rfl
    have g1 := hf 1 _ rfl
    have g2 := hf 2 _ rfl
    have g3 := hf 3 _ rfl
    have g4 := hf 4 _ rfl
    have g5 := hf 5 _ rfl
    simp only [c_int, List.getElem?_cons_zero, List.getElem?_cons_succ, List.drop_zero, List.drop_succ_cons, List.take_succ_cons, List.take_zero] at g0 g1 g2 g3 g4 g5
    obtain ⟨k0, rfl, i0⟩ := int_v g0
    obtain ⟨k1, rfl, i1⟩ := int_v g1
    obtain ⟨k2, rfl, i2⟩ := int_v g2
    obtain ⟨k3, rfl, i3⟩ := int_v g3
    obtain ⟨k4, rfl, i4⟩ := int_v g4
    obtain ⟨k5, rfl, i5⟩ := int_v g5
    exact ⟨⟨k0, k1, k2, k3, k4, k5⟩, rfl, i0, i1, i2, i3, i4, i5⟩
set_option maxRecDepth 100000 in
theorem cnt_of {cs : List Value} (hlen : cs.length = 3) (h : DataW.trod enc Tryd.prog W 0 (fun _ => true) true fuel 54 cs = some x) : ∃ c : Cn, cs = [.int .i64 c.1, .int .i64 c.2.1, .int .i64 c.2.2] := by
  obtain ⟨xs, n', _, hxy, _, hxl, hf⟩ := DataW.trod_struct Tryd.underlying54 h
  match xs, hxl, cs, hlen with
  | [y0, y1, y2], _, [v0, v1, v2], _ =>
    have g0 := hf 0 _ rfl
    have g1 := hf 1 _ rfl
    have g2 := hf 2 _ rfl
    simp only [c_int, List.getElem?_cons_zero, List.getElem?_cons_succ, List.drop_zero, List.drop_succ_cons, List.take_succ_cons, List.take_zero] at g0 g1 g2
    obtain ⟨k0, rfl, i0⟩ := int_v g0
    obtain ⟨k1, rfl, i1⟩ := int_v g1
    obtain ⟨k2, rfl, i2⟩ := int_v g2
    exact ⟨(k0, k1, k2), rfl⟩
theorem insts_of {v : Value} (h : DataW.trod enc Tryd.prog W 0 (fun _ => true) true fuel 22 [v] = some x) (hr : Reach 22 x.1) : ∃ (l : List In) (A : Option Addr) (cap : Nat), v = .slice A l.length cap ∧ Ins W W.heap.size A l ∧ l.length * 48 ≤ reachBytes ∧ l.length ≤ cap := by
  obtain ⟨a0, len0, cap0, rfl⟩ := shape_of Tryd.underlying22 h
  have hR := slice_reach Tryd.underlying22 b_inst h hr
  rcases Go.Deep.open_slice Tryd.underlying22 h with ⟨hcs, _⟩ | ⟨a, len, cap, m, n, D, Pl, hcs, _, hl, hm, hmm, hx, hel⟩
  · simp only [List.cons.injEq, Value.slice.injEq, and_true] at hcs
    obtain ⟨rfl, rfl, rfl⟩ := hcs
    exact ⟨[], none, 0, rfl, fun hn => absurd hn (by simp), by simp, Nat.le_refl _⟩
  · simp only [List.cons.injEq, Value.slice.injEq, and_true] at hcs
    obtain ⟨rfl, rfl, rfl⟩ := hcs
    have hlm : len0 ≤ m := by rw [hmm]; split <;> omega
    have key : ∀ i, i < len0 → ∃ q : In, ∀ j u, [Value.int .i64 q.op, .int .i64 q.x, .int .i64 q.y, .int .i64 q.z, .int .i64 q.nd, .int .i64 q.ph][j]? = some u → W.cell? (a.add (i * 6 + j)) = some u := by
      intro i hi
      obtain ⟨cs', h1, h2⟩ := hel i (by omega)
      rw [c_inst] at h1
      obtain ⟨_, hlen, hcell⟩ := World.cells?_some h1
      obtain ⟨q, rfl, -⟩ := inst_of hlen h2
      refine ⟨q, fun j u hj => ?_⟩
      have hlt := (List.getElem?_eq_some_iff.1 hj).1
      have k0 := hcell j (by simpa using hlt)
      rw [Go.Deep.add_add] at k0
      rw [k0]
      exact hj
    obtain ⟨f, hf⟩ := Go.Deep.choose_lt key
    have hll : ((List.range len0).map f).length = len0 := by simp
    refine ⟨(List.range len0).map f, some a, cap0, by rw [hll], fun hn => ?_, by rw [hll]; exact hR, by rw [hll]; exact hl⟩
    rw [hll] at hn
    obtain ⟨b, off, sp⟩ := a
    have h0 := hf 0 hn 0 _ rfl
    have es : sp = none := cell_spot (by simpa [Addr.add] using h0)
    subst es
    refine ⟨b, off, rfl, ?_, fun k nd hk => ?_⟩
    · have := cell_lt h0
      rwa [block_of_add] at this
    · have hkl : k < len0 := by have := (List.getElem?_eq_some_iff.1 hk).1; simpa using this
      have e : nd = f k := by simpa [hkl] using hk.symm
      subst e
      have h := hf k hkl
      have ea : ∀ j, (Addr.add ⟨b, off, none⟩ (k * 6 + j)) = ⟨b, off + k * 6 + j, none⟩ := fun j => by rw [add_flat, Nat.add_assoc]
      simp only [ea] at h
      exact ⟨h 0 _ rfl, h 1 _ rfl, h 2 _ rfl, h 3 _ rfl, h 4 _ rfl, h 5 _ rfl⟩
theorem cnts_of {v : Value} (h : DataW.trod enc Tryd.prog W 0 (fun _ => true) true fuel 24 [v] = some x) (hr : Reach 24 x.1) : ∃ (l : List Cn) (A : Option Addr) (cap : Nat), v = .slice A l.length cap ∧ Cns W W.heap.size A l ∧ l.length * 24 ≤ reachBytes ∧ l.length ≤ cap := by
  obtain ⟨a0, len0, cap0, rfl⟩ := shape_of Tryd.underlying24 h
  have hR := slice_reach Tryd.underlying24 b_cnt h hr
  rcases Go.Deep.open_slice Tryd.underlying24 h with ⟨hcs, _⟩ | ⟨a, len, cap, m, n, D, Pl, hcs, _, hl, hm, hmm, hx, hel⟩
  · simp only [List.cons.injEq, Value.slice.injEq, and_true] at hcs
    obtain ⟨rfl, rfl, rfl⟩ := hcs
    exact ⟨[], none, 0, rfl, fun hn => absurd hn (by simp), by simp, Nat.le_refl _⟩
  · simp only [List.cons.injEq, Value.slice.injEq, and_true] at hcs
    obtain ⟨rfl, rfl, rfl⟩ := hcs
    have hlm : len0 ≤ m := by rw [hmm]; split <;> omega
    have key : ∀ i, i < len0 → ∃ q : Cn, ∀ j u, [Value.int .i64 q.1, .int .i64 q.2.1, .int .i64 q.2.2][j]? = some u → W.cell? (a.add (i * 3 + j)) = some u := by
      intro i hi
      obtain ⟨cs', h1, h2⟩ := hel i (by omega)
      rw [c_cnt] at h1
      obtain ⟨_, hlen, hcell⟩ := World.cells?_some h1
      obtain ⟨q, rfl⟩ := cnt_of hlen h2
      refine ⟨q, fun j u hj => ?_⟩
      have hlt := (List.getElem?_eq_some_iff.1 hj).1
      have k0 := hcell j (by simpa using hlt)
      rw [Go.Deep.add_add] at k0
      rw [k0]
      exact hj
    obtain ⟨f, hf⟩ := Go.Deep.choose_lt key
    have hll : ((List.range len0).map f).length = len0 := by simp
    refine ⟨(List.range len0).map f, some a, cap0, by rw [hll], fun hn => ?_, by rw [hll]; exact hR, by rw [hll]; exact hl⟩
    rw [hll] at hn
    obtain ⟨b, off, sp⟩ := a
    have h0 := hf 0 hn 0 _ rfl
    have es : sp = none := cell_spot (by simpa [Addr.add] using h0)
    subst es
    refine ⟨b, off, rfl, ?_, fun k nd hk => ?_⟩
    · have := cell_lt h0
      rwa [block_of_add] at this
    · have hkl : k < len0 := by have := (List.getElem?_eq_some_iff.1 hk).1; simpa using this
      have e : nd = f k := by simpa [hkl] using hk.symm
      subst e
      have h := hf k hkl
      have ea : ∀ j, (Addr.add ⟨b, off, none⟩ (k * 3 + j)) = ⟨b, off + k * 3 + j, none⟩ := fun j => by rw [add_flat, Nat.add_assoc]
      simp only [ea] at h
      exact ⟨h 0 _ rfl, h 1 _ rfl, h 2 _ rfl⟩
theorem set_of {v : Value} (h : DataW.trod enc Tryd.prog W 0 (fun _ => true) true fuel 50 [v] = some x) (hr : Reach 50 x.1) : ∃ (l : List R) (A : Option Addr) (cap : Nat), v = .slice A l.length cap ∧ Lst W W.heap.size A l ∧ l.length ≤ cap ∧ l.length ≤ 8796093021952 := by
  obtain ⟨a, len, cap, rfl⟩ := shape_of Tryd.underlying50 h
  have HR := slice_reach Tryd.underlying50 b_range h hr
  obtain ⟨l, rfl, h1, h2, h3, h4⟩ := ranges_of (⟨fuel, by simpa [Value.cells] using h⟩ : DataW.Trod enc Tryd.prog W 0 (fun _ => true) true 50 (.slice a len cap) x.1 x.2)
  refine ⟨l, a, cap, rfl, h4, h1, ?_⟩
  unfold reachBytes at HR
  omega
theorem sets_of {v : Value} (h : DataW.trod enc Tryd.prog W 0 (fun _ => true) true fuel 23 [v] = some x) (hr : Reach 23 x.1) : ∃ (l : List (List R)) (A : Option Addr) (cap : Nat), v = .slice A l.length cap ∧ Sts W W.heap.size A l ∧ l.length * 24 ≤ reachBytes ∧ l.length ≤ cap := by
  obtain ⟨a0, len0, cap0, rfl⟩ := shape_of Tryd.underlying23 h
  have hR := slice_reach Tryd.underlying23 b_set h hr
  rcases Go.Deep.open_slice Tryd.underlying23 h with ⟨hcs, _⟩ | ⟨a, len, cap, m, n, D, Pl, hcs, _, hl, hm, hmm, hx, hel⟩
  · simp only [List.cons.injEq, Value.slice.injEq, and_true] at hcs
    obtain ⟨rfl, rfl, rfl⟩ := hcs
    exact ⟨[], none, 0, rfl, fun hn => absurd hn (by simp), by simp, Nat.le_refl _⟩
  · simp only [List.cons.injEq, Value.slice.injEq, and_true] at hcs
    obtain ⟨rfl, rfl, rfl⟩ := hcs
    have hlm : len0 ≤ m := by rw [hmm]; split <;> omega
    have key : ∀ i, i < len0 → ∃ q : List R, ∃ A' cap', W.cell? (a.add i) = some (.slice A' q.length cap') ∧ Lst W W.heap.size A' q ∧ q.length ≤ cap' ∧ q.length ≤ 8796093021952 := by
      intro i hi
      obtain ⟨cs', h1, h2⟩ := hel i (by omega)
      rw [c_set] at h1
      obtain ⟨_, hlen, hcell⟩ := World.cells?_some h1
      match cs', hlen with
      | [u], _ =>
        obtain ⟨q, A', cap', rfl, hL, hq1, hq2⟩ := set_of h2 (fun n hn => hr n (by
          rw [hx]
          simp only [DataW.weights, Tryd.underlying23, List.mem_cons, List.mem_append]
          exact .inr (.inl (mem_all (List.mem_map.2 ⟨i, List.mem_range.2 hi, rfl⟩) n hn))))
        have k0 := hcell 0 (by simp)
        rw [Go.Deep.add_add] at k0
        refine ⟨q, A', cap', ?_, hL, hq1, hq2⟩
        simpa using k0
    obtain ⟨f, hf⟩ := Go.Deep.choose_lt key
    have hll : ((List.range len0).map f).length = len0 := by simp
    refine ⟨(List.range len0).map f, some a, cap0, by rw [hll], fun hn => ?_, by rw [hll]; exact hR, by rw [hll]; exact hl⟩
    rw [hll] at hn
    obtain ⟨b, off, sp⟩ := a
    obtain ⟨A0, c0, h0, -⟩ := hf 0 hn
    have es : sp = none := cell_spot (by simpa [Addr.add] using h0)
    subst es
    refine ⟨b, off, rfl, ?_, fun k nd hk => ?_⟩
    · have := cell_lt h0
      rwa [block_of_add] at this
    · have hkl : k < len0 := by have := (List.getElem?_eq_some_iff.1 hk).1; simpa using this
      have e : nd = f k := by simpa [hkl] using hk.symm
      subst e
      have h := hf k hkl
      rw [add_flat] at h
      exact h
end
set_option maxRecDepth 100000 in
theorem prog_of {H : Type} {enc : TypeId × Value → H} {W : World} {b0 : Nat} {v : Value} {d : DataW H} {p : List MemPlace} (hv : Value.okWide Tryd.prog W .any b0 26 v) (h : DataW.Trod enc Tryd.prog W 0 (fun _ => true) true 26 v d p) (hr : Reach 26 d) :
    ∃ (l : List In) (ss : List (List R)) (kk : List Cn) (A As Al : Option Addr) (c cs ck : Nat) (g : Int), v = .agg #[.slice A l.length c, .slice As ss.length cs, .slice Al kk.length ck, .int .i64 g] ∧ Pv W W.heap.size l ss kk A As Al ∧ (l.length : Int) ≤ 9000000000000000000 ∧ l.length ≤ c ∧ ss.length ≤ cs ∧ kk.length ≤ ck := by
  obtain ⟨a, g, c, e, y0, y1, y2, y3, n, rfl, hd, _, h0, h1, h2, h3⟩ := Go.Joins.open_agg4 Tryd.underlying26 (by kernel_rfl) (by kernel_rfl) hv h
  obtain ⟨l, A, cap, rfl, hl, hlr, hlc⟩ := insts_of h0 (fun n hn => hr n (by
    rw [hd]
    simp only [DataW.weights, Tryd.underlying26]
    exact DataW.weights_mem_each (j := 0) rfl rfl n hn))
  obtain ⟨ss, As, caps, rfl, hs, hsr, hsc⟩ := sets_of h1 (fun n hn => hr n (by
    rw [hd]
    simp only [DataW.weights, Tryd.underlying26]
    exact DataW.weights_mem_each (j := 1) rfl rfl n hn))
  obtain ⟨kk, Al, capk, rfl, hk, hkr, hkc⟩ := cnts_of h2 (fun n hn => hr n (by
    rw [hd]
    simp only [DataW.weights, Tryd.underlying26]
    exact DataW.weights_mem_each (j := 2) rfl rfl n hn))
  obtain ⟨gr, rfl, -⟩ := int_v h3
  unfold reachBytes at hlr hsr hkr
  exact ⟨l, ss, kk, A, As, Al, cap, caps, capk, gr, rfl, ⟨hl, hs, hk, by omega, by omega⟩, by omega, hlc, hsc, hkc⟩
end Go.Proofs.YtiaelaepfhiabaaDoor.Co
