/-
  'clear' of the tail of a row of one's own: what lies below stays; no other block turns. No conditions. No program.
-/
import Derived.Test.YtklmligfljakfaaKeep
import Derived.Lib.SliceRun
set_option linter.unusedVariables false
set_option linter.unusedSimpArgs false
namespace Go.Proofs.Ytklmligfljakfaa.Kp
open Go.RowKit Go.Proofs.Ytklmligfljakfaa.Mem
theorem setCells_blk (g : Nat) (t : TypeId) : ∀ (vs : List Value) (o : Nat) (w : World) (cs : Array Value), Blk w g t cs → ∃ cs', Blk (w.setCells g o vs) g t cs' ∧ cs'.size = cs.size ∧ ∀ j, j < o → cs'[j]? = cs[j]?
  | [], o, w, cs, h => ⟨cs, h, rfl, fun _ _ => rfl⟩
  | v :: r, o, w, cs, h => by
    obtain ⟨cs', h1, h2, h3⟩ := setCells_blk g t r (o + 1) (w.setCell ⟨g, o, none⟩ v) _ (h.set_ o v)
    refine ⟨cs', h1, by rw [h2]; simp, fun j hj => ?_⟩
    rw [h3 j (by omega)]
    simp [Array.getElem?_setIfInBounds, show ¬ o = j by omega]
theorem setCells_grown (g : Nat) : ∀ (vs : List Value) (o : Nat) (a w : World), a.grownBy w (some g) → a.grownBy (w.setCells g o vs) (some g)
  | [], _, _, _, h => h
  | v :: r, o, a, w, h => setCells_grown g r (o + 1) a _ (only_setCell h (.inl rfl) v)
section
variable {P : Program} {w : World} {base e size n : Nat} {g c : Nat} {xs : List Value}
theorem zeros_one {z : Value} (hz : z.cells.all (·.oneCell') = true) (n : Nat) : ∀ v ∈ (Builtin.zeroCells z.cells n).toList, v.oneCell' = true := by
  intro v hv
  simp only [Builtin.zeroCells, Array.toList_map, List.mem_map] at hv
  obtain ⟨i, hi, rfl⟩ := hv
  have hi2 : i < n * z.cells.size := by simpa using hi
  have hp : 0 < z.cells.size := by
    rcases Nat.eq_zero_or_pos z.cells.size with h | h
    · rw [h] at hi2; omega
    · exact h
  have hm : i % z.cells.size < z.cells.size := Nat.mod_lt _ hp
  rw [getElem!_pos z.cells _ hm]
  exact (Array.all_eq_true_iff_forall_mem.1 hz) _ (Array.getElem_mem hm)
theorem run_clear_own (t ty e : TypeId) (z : Value) (ht : P.underlying t = some (.slice e)) (hv : ∀ w, (zeroValue e).run P w = .ok z w) (hz : z.cells.all (·.oneCell') = true) (hzs : z.cells.size = size)
    (m : Nat) (hm : m ≤ n) (how : w.ownsRow base e size (.slice (some ⟨g, 0, none⟩) n c) n xs) (A : Option Addr) (k cc : Nat) (hk : k = n - m) (hA : 0 < k → A = some ⟨g, m * size, none⟩) :
    ∃ w', (Builtin.clear_ #[t] ty #[.slice A k cc]).run P w = .ok (.tuple #[]) w' ∧ w'.ownsRow base e size (.slice (some ⟨g, 0, none⟩) m c) m (xs.take (m * size)) ∧ w.grownBy w' (some g) := by
  rcases Nat.eq_zero_or_pos k with h0 | h0
  · refine ⟨w, ?_, own_cut how hm, World.grownBy.refl w _⟩
    subst h0
    cases A with
    | none => simp [Builtin.clear_, run_underlying ht]
    | some a => simp [Builtin.clear_, run_underlying ht]
  · rcases how.2 with ⟨h1, -⟩ | ⟨g', cap, cur, e1, h1, h2, h3, h4, h5, h6⟩
    · cases h1
    · cases e1
      have hms : m * size ≤ n * size := Nat.mul_le_mul_right _ hm
      have hnc : n * size ≤ c * size := Nat.mul_le_mul_right _ h3
      have hks : k * size + m * size = n * size := by rw [← Nat.add_mul]; congr 1; omega
      have hzl : (Builtin.zeroCells z.cells k).toList.length = k * size := by simp [Builtin.zeroCells, hzs]
      obtain ⟨cs', b1, b2, b3⟩ := setCells_blk g e (Builtin.zeroCells z.cells k).toList (m * size) w cur h2
      refine ⟨w.setCells g (m * size) (Builtin.zeroCells z.cells k).toList, ?_, ?_, setCells_grown g _ _ _ _ (World.grownBy.refl w _)⟩
      · have hst := run_storeCells_cells (P := P) g (m * size) (Builtin.zeroCells z.cells k).toList 0 w (fun j hj => by
          rw [hzl] at hj
          rw [Nat.add_zero, show w.cell? ⟨g, m * size + j, none⟩ = cur[m * size + j]? from cell_of_row w g _ cur e (0, 0) h2, Array.getElem?_eq_getElem (by omega)]
          rfl) (fun j hj => Blk.frozen h2 _) (zeros_one hz k)
        rw [Nat.add_zero] at hst
        rw [hA h0]
        obtain ⟨k', rfl⟩ : ∃ k', k = k' + 1 := ⟨k - 1, by omega⟩
        simp [Builtin.clear_, run_underlying ht, hv, hst]
      · refine ⟨by rw [List.length_take, how.1]; omega, .inr ⟨g, c, cs', rfl, h1, b1, by omega, h4, by rw [b2, h5], ?_⟩⟩
        apply List.ext_getElem?
        intro j
        rw [← h6, List.getElem?_take, List.getElem?_take]
        by_cases hj : j < m * size
        · rw [if_pos hj, if_pos hj, List.getElem?_take, if_pos (by omega), Array.getElem?_toList, Array.getElem?_toList, b3 j hj]
        · rw [if_neg hj, if_neg hj]
theorem wpList_clear_own {ops : Array Oper} {rest : List Oper} {o : Oper} {a : Act} {Q : Exit → Act → World → Prop} (hgd : o.guard = none) (s : Operand) (t : TypeId)
    (ho : o.op = .call { callee := .builtin .clear, args := #[s], argTypes := #[t] }) (hdst : o.dst = none) (e : TypeId) (z : Value) (ht : P.underlying t = some (.slice e)) (hv : ∀ w, (zeroValue e).run P w = .ok z w) (hz : z.cells.all (·.oneCell') = true) (hzs : z.cells.size = size)
    (m : Nat) (hm : m ≤ n) (how : w.ownsRow base e size (.slice (some ⟨g, 0, none⟩) n c) n xs) (A : Option Addr) (k cc : Nat) (hs : a.eval s = .slice A k cc) (hk : k = n - m) (hA : 0 < k → A = some ⟨g, m * size, none⟩)
    (h : ∀ w', w'.ownsRow base e size (.slice (some ⟨g, 0, none⟩) m c) m (xs.take (m * size)) → w.grownBy w' (some g) → wpList P ops Q rest a w') : wpList P ops Q (o :: rest) a w := by
  obtain ⟨w', hrun, h2, h3⟩ := run_clear_own (P := P) t o.type e z ht hv hz hzs m hm how A k cc hk hA
  refine wpList_plain hgd fun _ hK => ?_
  unfold Oper.wp execOp
  simp only [ho, resolve, invoke, builtin, Sem.run_bind, Sem.run_pure, Result.andThen_ok, List.map_toArray, List.map_cons, List.map_nil, hs, hrun]
  have := h w' h2 h3
  refine hK _ _ ?_
  rw [hdst]
  exact this
theorem run_clear_none (t ty e : TypeId) (ht : P.underlying t = some (.slice e)) (A : Option Addr) (cc : Nat) (w : World) : (Builtin.clear_ #[t] ty #[.slice A 0 cc]).run P w = .ok (.tuple #[]) w := by
  cases A <;> simp [Builtin.clear_, run_underlying ht]
end
end Go.Proofs.Ytklmligfljakfaa.Kp
