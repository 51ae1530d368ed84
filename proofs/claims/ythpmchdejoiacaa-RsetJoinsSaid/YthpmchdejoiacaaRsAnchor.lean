/-
  The law's anchor, walked: the document's two examples.
-/
import Derived.Test.YthpmchdejoiacaaRsHas
import Derived.Test.YthpmchdejoiacaaRsNot
set_option linter.unusedVariables false
set_option linter.unusedSimpArgs false
namespace Go.Proofs.Ythpmchdejoiacaa.Rs
open Go.Shelf Go.RowKit Go.Proofs.Ythpmchdejoiacaa.Mem

theorem eql_at : EqlAt Try.prog 36 (fun x : R => .agg (enc x).toArray) (fun x y => x.1 == y.1 && x.2 == y.2) := by
  refine ⟨fun x y w => ?_, GuardAt.agg _ (by kernel_rfl)⟩
  have u3 := Try.underlying3
  have a3 := Try.isAgg3
  have z3 := Try.sizeOf3
  have hS : Try.prog.underlying 36 = some (.struct (Try.prog.fieldsOf 36)) := by kernel_rfl
  have hp : Try.prog.stoodInHeld 36 = false := by kernel_rfl
  simp only [enc]
  rw [run_eql_struct, show (10000 : Nat) = 9999 + 1 from rfl, run_equalIn_agg w 9999 36 _ _ hS hp]
  simp only [Program.fieldsOf, Try.underlying36]
  go_simp
  by_cases h1 : x.fst = y.fst <;> by_cases h2 : x.snd = y.snd <;> simp [h1, h2]
theorem eql_range (a b c d : Int) (w : World) : Sem.run Try.prog (binOp .eql 36 (.agg #[.int .i64 a, .int .i64 b]) (.agg #[.int .i64 c, .int .i64 d])) w = .ok (.bool (a == c && b == d)) w := eql_at.1 (a, b) (c, d) w
theorem eql_guard (op : BinOp) (x y : Operand) (a b c d : Int) (w : World) : Sem.run Try.prog (eqGuard op 36 x y (.agg #[.int .i64 a, .int .i64 b]) (.agg #[.int .i64 c, .int .i64 d])) w = .ok () w := eql_at.2 op x y (a, b) (c, d) w
attribute [local go_sem] build_range eql_range eql_guard

set_option maxHeartbeats 1000000 in
theorem anchor_any (w : World) : Calls Try.prog 8 #[] w fun e w' => e = .returned (.bool true) ∧ Below w.heap.size w w' := by
  have hl1 : Lst (w.alloc (.cells #[.int .i64 5, .int .i64 7, .int .i64 1, .int .i64 2, .int .i64 3, .int .i64 4] 36)) (w.alloc (.cells #[.int .i64 5, .int .i64 7, .int .i64 1, .int .i64 2, .int .i64 3, .int .i64 4] 36)).heap.size (some ⟨w.heap.size, 0, none⟩) [(5, 7), (1, 2), (3, 4)] :=
    Lst.of_reads ((reads_new w #[.int .i64 5, .int .i64 7, .int .i64 1, .int .i64 2, .int .i64 3, .int .i64 4] 36 3 2 rfl).more (by simp))
  have hl2 := fun W : World => Lst.of_reads (l := [(0, 10)]) ((reads_new W #[.int .i64 0, .int .i64 10] 36 1 2 rfl).more (B' := (W.alloc (.cells #[.int .i64 0, .int .i64 10] 36)).heap.size) (by simp))
  have HL1 := hide hl1
  have HL2 := hide hl2
  clear hl1 hl2
  go_enter Try.func8, Try.ntmps8
  go_wp2_with fail
  refine (make_any [(5, 7), (1, 2), (3, 4)] (some ⟨w.heap.size, 0, none⟩) 3 _ (by simp) (by simp) (unhide HL1)).mono ?_
  rintro e w1 ⟨v1, rfl, hcut⟩
  rw [mk_anchor] at hcut
  obtain ⟨A1, cap1, rfl, hlst, hc1, hcm⟩ := own_lst hcut.1
  obtain ⟨b1, o1, rfl, hb1, hcs1⟩ := hlst (by simp)
  have hx1 := hcs1 0 (1, 7) rfl
  have HB1 := hide ((below_al (Below.refl _ _) (Nat.le_refl _) _).trans (hcut.2.mono (by simp)) : Below w.heap.size w w1)
  have HX1 := hide hx1
  have HLT := hide hb1
  clear hcut hlst hcs1 hx1 hb1
  go_wp2_with fail
  refine (not_any [(0, 10)] (some ⟨w1.heap.size, 0, none⟩) 1 _ (by simp) (by simp) ((unhide HL2) w1)).mono ?_
  rintro e w2 ⟨v2, rfl, hcut⟩
  rw [notL_anchor] at hcut
  obtain ⟨A2, cap2, rfl, hlst, hc2, hcm2⟩ := own_lst hcut.1
  obtain ⟨b2, o2, rfl, hb2, hcs2⟩ := hlst (by simp)
  have hx2 := hcs2 0 (11, 1114367) rfl
  have hbw : Below w1.heap.size w1 w2 := (below_al (Below.refl _ _) (Nat.le_refl _) _).trans (hcut.2.mono (by simp))
  have c1 : w2.cell? ⟨b1, o1, none⟩ = some (.int .i64 1) := (hbw.cell (p := ⟨b1, o1, none⟩) (unhide HLT)).trans (by simpa using (unhide HX1).1)
  have c2 : w2.cell? ⟨b1, o1 + 1, none⟩ = some (.int .i64 7) := (hbw.cell (p := ⟨b1, o1 + 1, none⟩) (unhide HLT)).trans (by simpa using (unhide HX1).2)
  have c3 : w2.cell? ⟨b2, o2, none⟩ = some (.int .i64 11) := by simpa using hx2.1
  have c4 : w2.cell? ⟨b2, o2 + 1, none⟩ = some (.int .i64 1114367) := by simpa using hx2.2
  have HB2 := hide hbw
  clear hcut hlst hcs2 hx2 hbw hb2
  go_wp2
  go_ret
  refine ⟨rfl, (unhide HB1).trans ((unhide HB2).mono (unhide HB1).size)⟩
end Go.Proofs.Ythpmchdejoiacaa.Rs
