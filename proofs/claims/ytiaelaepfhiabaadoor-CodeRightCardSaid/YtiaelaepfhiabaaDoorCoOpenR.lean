/-
  An argument that is a program, opened, with its sets' lower ends. No conditions.
-/
import Derived.Test.YtiaelaepfhiabaaDoorCoOpen
set_option linter.unusedVariables false
set_option linter.unusedSimpArgs false
namespace Go.Proofs.YtiaelaepfhiabaaDoor.Co
open Go.ChangeShapes Go.WideShapes Go.ChangeAt Go.RowKit Go.Deep Go.Proofs.YtiaelaepfhiabaaDoor.Mem Go.Proofs.YtiaelaepfhiabaaDoor.Rs
section
variable {H : Type} {enc : TypeId × Value → H} {W : World} {fuel : Nat} {x : DataW H × List MemPlace}
theorem set_ofI {v : Value} (h : DataW.trod enc Tryd.prog W 0 (fun _ => true) true fuel 50 [v] = some x) (hr : Reach 50 x.1) : ∃ (l : List R) (A : Option Addr) (cap : Nat), v = .slice A l.length cap ∧ Lst W W.heap.size A l ∧ l.length ≤ cap ∧ l.length ≤ 8796093021952 ∧ (∀ r ∈ l, -9223372036854775808 ≤ r.1 ∧ r.1 ≤ 9223372036854775807) := by
  obtain ⟨a, len, cap, rfl⟩ := shape_of Tryd.underlying50 h
  have HR := slice_reach Tryd.underlying50 b_range h hr
  obtain ⟨l, rfl, h1, h2, h3, h4⟩ := ranges_of (⟨fuel, by simpa [Value.cells] using h⟩ : DataW.Trod enc Tryd.prog W 0 (fun _ => true) true 50 (.slice a len cap) x.1 x.2)
  refine ⟨l, a, cap, rfl, h4, h1, ?_, h3⟩
  unfold reachBytes at HR
  omega
theorem sets_ofI {v : Value} (h : DataW.trod enc Tryd.prog W 0 (fun _ => true) true fuel 23 [v] = some x) (hr : Reach 23 x.1) : ∃ (l : List (List R)) (A : Option Addr) (cap : Nat), v = .slice A l.length cap ∧ Sts W W.heap.size A l ∧ l.length * 24 ≤ reachBytes ∧ l.length ≤ cap ∧ (∀ s ∈ l, ∀ r ∈ s, -9223372036854775808 ≤ r.1 ∧ r.1 ≤ 9223372036854775807) := by
  obtain ⟨a0, len0, cap0, rfl⟩ := shape_of Tryd.underlying23 h
  have hR := slice_reach Tryd.underlying23 b_set h hr
  rcases Go.Deep.open_slice Tryd.underlying23 h with ⟨hcs, _⟩ | ⟨a, len, cap, m, n, D, Pl, hcs, _, hl, hm, hmm, hx, hel⟩
  · simp only [List.cons.injEq, Value.slice.injEq, and_true] at hcs
    obtain ⟨rfl, rfl, rfl⟩ := hcs
    exact ⟨[], none, 0, rfl, fun hn => absurd hn (by simp), by simp, Nat.le_refl _, by simp⟩
  · simp only [List.cons.injEq, Value.slice.injEq, and_true] at hcs
    obtain ⟨rfl, rfl, rfl⟩ := hcs
    have hlm : len0 ≤ m := by rw [hmm]; split <;> omega
    have key : ∀ i, i < len0 → ∃ q : List R, ∃ A' cap', W.cell? (a.add i) = some (.slice A' q.length cap') ∧ Lst W W.heap.size A' q ∧ (q.length ≤ cap' ∧ q.length ≤ 8796093021952) ∧ (∀ r ∈ q, -9223372036854775808 ≤ r.1 ∧ r.1 ≤ 9223372036854775807) := by
      intro i hi
      obtain ⟨cs', h1, h2⟩ := hel i (by omega)
      rw [c_set] at h1
      obtain ⟨_, hlen, hcell⟩ := World.cells?_some h1
      match cs', hlen with
      | [u], _ =>
        obtain ⟨q, A', cap', rfl, hL, hq1, hq2, hq3⟩ := set_ofI h2 (fun n hn => hr n (by
          rw [hx]
          simp only [DataW.weights, Tryd.underlying23, List.mem_cons, List.mem_append]
          exact .inr (.inl (mem_all (List.mem_map.2 ⟨i, List.mem_range.2 hi, rfl⟩) n hn))))
        have k0 := hcell 0 (by simp)
        rw [Go.Deep.add_add] at k0
        refine ⟨q, A', cap', ?_, hL, ⟨hq1, hq2⟩, hq3⟩
        simpa using k0
    obtain ⟨f, hf⟩ := Go.Deep.choose_lt key
    have hll : ((List.range len0).map f).length = len0 := by simp
    refine ⟨(List.range len0).map f, some a, cap0, by rw [hll], fun hn => ?_, by rw [hll]; exact hR, by rw [hll]; exact hl, fun s hs => by
      obtain ⟨i, hi, rfl⟩ := List.mem_map.1 hs
      obtain ⟨_, _, _, _, _, h6⟩ := hf i (List.mem_range.1 hi)
      exact h6⟩
    rw [hll] at hn
    obtain ⟨b, off, sp⟩ := a
    obtain ⟨A0, c0, h0, -⟩ := hf 0 hn
    have es : sp = none := cell_spot (by simpa [Addr.add] using h0)
    subst es
    refine ⟨b, off, rfl, ?_, fun k nd hk => ?_⟩
    · have := cell_lt h0
      rwa [block_of_add] at this
    · have hkl : k < len0 := by have := (List.getElem?_eq_some_iff.1 hk).1; simpa using this
      have e : nd = f k := by simpa [hkl] using hk.symm
      subst e
      have h := hf k hkl
      rw [add_flat] at h
      obtain ⟨A9, c9, e1, e2, e3, -⟩ := h
      exact ⟨A9, c9, e1, e2, e3.1, e3.2⟩
end
set_option maxRecDepth 100000 in
theorem prog_ofI {H : Type} {enc : TypeId × Value → H} {W : World} {b0 : Nat} {v : Value} {d : DataW H} {p : List MemPlace} (hv : Value.okWide Tryd.prog W .any b0 26 v) (h : DataW.Trod enc Tryd.prog W 0 (fun _ => true) true 26 v d p) (hr : Reach 26 d) :
    ∃ (l : List In) (ss : List (List R)) (kk : List Cn) (A As Al : Option Addr) (c cs ck : Nat) (g : Int), v = .agg #[.slice A l.length c, .slice As ss.length cs, .slice Al kk.length ck, .int .i64 g] ∧ Pv W W.heap.size l ss kk A As Al ∧ (l.length : Int) ≤ 9000000000000000000 ∧ l.length ≤ c ∧ ss.length ≤ cs ∧ kk.length ≤ ck ∧ (∀ s ∈ ss, ∀ r ∈ s, -9223372036854775808 ≤ r.1 ∧ r.1 ≤ 9223372036854775807) := by
  obtain ⟨a, g, c, e, y0, y1, y2, y3, n, rfl, hd, _, h0, h1, h2, h3⟩ := Go.Joins.open_agg4 Tryd.underlying26 (by kernel_rfl) (by kernel_rfl) hv h
  obtain ⟨l, A, cap, rfl, hl, hlr, hlc⟩ := insts_of h0 (fun n hn => hr n (by
    rw [hd]
    simp only [DataW.weights, Tryd.underlying26]
    exact DataW.weights_mem_each (j := 0) rfl rfl n hn))
  obtain ⟨ss, As, caps, rfl, hs, hsr, hsc, hsi⟩ := sets_ofI h1 (fun n hn => hr n (by
    rw [hd]
    simp only [DataW.weights, Tryd.underlying26]
    exact DataW.weights_mem_each (j := 1) rfl rfl n hn))
  obtain ⟨kk, Al, capk, rfl, hk, hkr, hkc⟩ := cnts_of h2 (fun n hn => hr n (by
    rw [hd]
    simp only [DataW.weights, Tryd.underlying26]
    exact DataW.weights_mem_each (j := 2) rfl rfl n hn))
  obtain ⟨gr, rfl, -⟩ := int_v h3
  unfold reachBytes at hlr hsr hkr
  exact ⟨l, ss, kk, A, As, Al, cap, caps, capk, gr, rfl, ⟨hl, hs, hk, by omega, by omega⟩, by omega, hlc, hsc, hkc, hsi⟩
end Go.Proofs.YtiaelaepfhiabaaDoor.Co
