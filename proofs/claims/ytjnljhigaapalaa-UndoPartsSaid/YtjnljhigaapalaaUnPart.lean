/-
  Part of a book, walked: the numbers from one place up to another one, in memory of the call's own. No conditions.
-/
import Derived.Test.YtjnljhigaapalaaUnSmall
import Derived.Laws.CopyOwn
set_option linter.unusedVariables false
set_option linter.unusedSimpArgs false
namespace Go.Proofs.Ytjnljhigaapalaa.Un
open Go.RowKit Go.Proofs.Ytjnljhigaapalaa.Mem
open Go.Proofs.Ytjnljhigaapalaa.Ev (intA own_reads own_below ret_b run_not_true run_not_false below_box make_ints u_ints i_int)
set_option maxRecDepth 100000 in
theorem slice_nums (g n f t : Nat) (h1 : f ≤ t) (h2 : t ≤ n) (h3 : f < n) (W : World) : Sem.run Try.prog (Instr.slice 32 (.slice (some ⟨g, 0, none⟩) n n) (some (.int .i64 (f : Int))) (some (.int .i64 (t : Int))) none) W = .ok (.slice (some ⟨g, f, none⟩) (t - f) (n - f)) W := by
  have hu : Try.prog.underlying 32 = some (.slice (Try.prog.elem 32)) := by kernel_rfl
  have hz := Try.sizeOf3
  rw [run_slice_lh (P := Try.prog) W 32 (some ⟨g, 0, none⟩) n n hu .i64 .i64 (f : Int) (t : Int) (by omega) (by omega) (by omega)]
  have he : Try.prog.elem 32 = 3 := by kernel_rfl
  rw [he]
  simp only [go_sem, Result.andThen_ok, sliced, Int.toNat_natCast]
  rw [hz]
  show Result.ok _ _ = _
  rw [if_neg (by omega), Option.map_some, Nat.mul_one, add_flat, Nat.zero_add]
theorem splice_all {l z : List Value} (h : l.length = z.length) : splice z 0 l = l := by
  unfold splice
  simp [h]
section
variable {K : Nat → Prop} {base bb nb : Nat} {tv : Value} {ns : List Int} {tr : List Ch} {w : World}
def PartG (l : List Int) (w : World) (e : Ending) (w' : World) : Prop := (∃ A, e = .returned (.slice A l.length l.length) ∧ (0 < l.length → A = some ⟨w.heap.size, 0, none⟩ ∧ Blk w' w.heap.size 3 (intA l))) ∧ Below w.heap.size w w'
set_option maxHeartbeats 1000000 in
theorem part_none (h : BX K base bb nb tv ns tr w) (f t : Int) (hft : ¬ max f 0 < min t ns.length) : Calls Try.prog 16 #[.pointer (some ⟨bb, 0, none⟩), .int .i64 f, .int .i64 t] w (PartG [] w) := by
  have C := hide (len_any h)
  obtain ⟨p, hp⟩ : ∃ p, max f 0 = p := ⟨_, rfl⟩
  obtain ⟨q, hq⟩ : ∃ q, min t (ns.length : Int) = q := ⟨_, rfl⟩
  rw [hp, hq] at hft
  have hd : decide (q ≤ p) = true := by rw [decide_eq_true_iff]; omega
  clear h hft
  go_enter Try.func16, Try.ntmps16
  go_wp2_with fail
  refine (unhide C).mono ?_
  rintro e w1 ⟨rfl, rfl⟩
  clear C
  go_wp2
  go_ret
  exact ⟨⟨none, rfl, fun h => absurd h (by simp)⟩, Below.refl _ _⟩
set_option maxRecDepth 100000 in
set_option maxHeartbeats 2000000 in
theorem part_some (h : BX K base bb nb tv ns tr w) (f t : Int) (hft : max f 0 < min t ns.length) : Calls Try.prog 16 #[.pointer (some ⟨bb, 0, none⟩), .int .i64 f, .int .i64 t] w (PartG (partL ns f t) w) := by
  have C := hide (len_any h)
  have hpz : partL ns f t = (ns.drop (max f 0).toNat).take ((min t ns.length).toNat - (max f 0).toNat) := by unfold partL; rw [if_pos hft]
  obtain ⟨p, hp⟩ : ∃ p : Nat, max f 0 = (p : Int) := ⟨(max f 0).toNat, by omega⟩
  obtain ⟨q, hq⟩ : ∃ q : Nat, min t (ns.length : Int) = (q : Int) := ⟨(min t ns.length).toNat, by omega⟩
  rw [hp, hq] at hft
  rw [hp, hq, Int.toNat_natCast, Int.toNat_natCast] at hpz
  have hql : q ≤ ns.length := by omega
  have hpq : p < q := by omega
  obtain ⟨m, hm⟩ : ∃ m, q - p = m := ⟨_, rfl⟩
  have hm1 : m ≤ 100000 := by have := h.small; omega
  have hlen : (partL ns f t).length = m := by rw [hpz, List.length_take, List.length_drop]; omega
  have hd : decide ((q : Int) ≤ (p : Int)) = false := by rw [decide_eq_false_iff_not]; omega
  have hd' : decide (q ≤ p) = false := by rw [decide_eq_false_iff_not]; omega
  have ws : IntKind.i64.wrap ((q : Int) - (p : Int)) = (m : Int) := by rw [IntKind.wrap_i64]; have := h.small; omega
  have hsl := hide (fun W => slice_nums nb ns.length p q (by omega) hql (by omega) W)
  have hmk := hide (fun W => make_ints m hm1 W)
  have b1 := h.box.alloc (.cells (intA (List.replicate m 0)) 3)
  have b2 := h.nums.alloc (.cells (intA (List.replicate m 0)) 3)
  obtain ⟨c0, c1⟩ := cells2 h.box
  obtain ⟨d0, d1⟩ := cells2 b1
  have HSRC := hide (show ∀ j u, ((partL ns f t).map Mem.i64)[j]? = some u → (w.alloc (.cells (intA (List.replicate m 0)) 3)).cell? (Addr.add ⟨nb, p, none⟩ j) = some u from fun j u hu => by
    rw [hpz, List.getElem?_map, List.getElem?_take] at hu
    split at hu
    · rw [List.getElem?_drop] at hu
      rw [add_flat, b2.cell]
      cases hn : ns[p + j]? with
      | none => rw [hn] at hu; cases hu
      | some x => rw [hn] at hu; rw [intA_get hn]; exact hu
    · cases hu)
  have HG0 := hide (Blk.new w 3 (intA (List.replicate m 0)))
  have HL := hide hlen
  generalize hnn : ns.length = n at *
  clear h hft hpz b1 b2 hlen
  rw [hm] at hsl
  go_enter Try.func16, Try.ntmps16
  go_wp2_with fail
  refine (unhide C).mono ?_
  rintro e w1 ⟨rfl, rfl⟩
  clear C
  have s1 := unhide hsl
  have s2 := unhide hmk
  have f1 : ((partL ns f t).map Mem.i64).length = Nat.min m m := by rw [List.length_map, unhide HL]; exact (Nat.min_self m).symm
  have f2 : 0 + ((partL ns f t).map Mem.i64).length ≤ (intA (List.replicate m 0)).toList.length := by simp [intA, unhide HL]
  have f3 : ∀ v ∈ (partL ns f t).map Mem.i64, v.oneCell' = true := by simp [Value.oneCell']
  have F1 := hide f1
  have F2 := hide f2
  have F3 := hide f3
  clear f1 f2 f3
  go_wp2_with (refine wpList_copy_splice rfl (.tmp 21) (.tmp 28) 32 32 rfl 3 u_ints i_int (some ⟨w1.heap.size, 0, none⟩) (some ⟨nb, p, none⟩) m m m (n - p) rfl rfl w1.heap.size 0 (intA (List.replicate m 0)).toList 3 (unhide HG0) ((partL ns f t).map Mem.i64) (unhide F1) (fun _ => ⟨rfl, ⟨nb, p, none⟩, rfl, unhide HSRC⟩) (unhide F2) (unhide F3) w1.heap.size w1 (below_box _ _) (Nat.le_refl _) ?_; intro w2 h1 h2)
  go_ret
  have hl := unhide HL
  have e1 : splice (intA (List.replicate m 0)).toList 0 ((partL ns f t).map Mem.i64) = (partL ns f t).map Mem.i64 := splice_all (by simp [intA, hl])
  rw [e1] at h1
  exact ⟨⟨some ⟨w1.heap.size, 0, none⟩, by rw [hl]; rfl, fun _ => ⟨rfl, h1.out⟩⟩, h2⟩
end
theorem part_any {K : Nat → Prop} {base bb : Nat} {ns : List Int} {tr : List Ch} {w : World} (h : BV K base bb ns tr w) (f t : Int) : Calls Try.prog 16 #[.pointer (some ⟨bb, 0, none⟩), .int .i64 f, .int .i64 t] w (PartG (partL ns f t) w) := by
  obtain ⟨nb, tv, h⟩ := h
  by_cases hft : max f 0 < min t (ns.length : Int)
  · exact part_some h f t hft
  · have := part_none h f t hft
    unfold partL
    rw [if_neg hft]
    exact this
end Go.Proofs.Ytjnljhigaapalaa.Un
