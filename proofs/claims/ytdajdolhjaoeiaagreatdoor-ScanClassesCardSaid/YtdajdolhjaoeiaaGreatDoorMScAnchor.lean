/-
  The law's anchor (clewlaw07), walked: true. Conditions: the tables hold what the program's text lays.
-/
import Derived.Test.YtdajdolhjaoeiaaGreatDoorMScF
import Derived.Test.YtdajdolhjaoeiaaGreatDoorMScC
import Derived.Test.YtdajdolhjaoeiaaGreatDoorMRsC
import Derived.RegionTactic
set_option linter.unusedVariables false
set_option linter.unusedSimpArgs false
namespace Go.Proofs.YtdajdolhjaoeiaaGreatDoor.Sc
open Go.Shelf Go.RowKit Go.Proofs.YtdajdolhjaoeiaaGreatDoor.Mem
open Go.Proofs.YtdajdolhjaoeiaaGreatDoor.Sy (g g_of g_lt isS)
open Go.Proofs.YtdajdolhjaoeiaaGreatDoor.Rs (R Lst notL mk)

def q4 (x : Int × Int × Int × Int) : Value := .agg #[.int .i64 x.1, .int .i64 x.2.1, .int .i64 x.2.2.1, .int .i64 x.2.2.2]
set_option maxRecDepth 100000 in
theorem eq4_at : EqlAt Tryz.prog 62 q4 (fun x y => x.1 == y.1 && (x.2.1 == y.2.1 && (x.2.2.1 == y.2.2.1 && x.2.2.2 == y.2.2.2))) := by
  refine ⟨fun x y w => ?_, GuardAt.agg _ (by kernel_rfl)⟩
  have u3 := Tryz.underlying3
  have a3 := Tryz.isAgg3
  have z3 := Tryz.sizeOf3
  have hS : Tryz.prog.underlying 62 = some (.struct (Tryz.prog.fieldsOf 62)) := by kernel_rfl
  have hp : Tryz.prog.stoodInHeld 62 = false := by kernel_rfl
  obtain ⟨a, b, c, d⟩ := x
  obtain ⟨a', b', c', d'⟩ := y
  simp only [q4]
  rw [run_eql_struct, show (10000 : Nat) = 9999 + 1 from rfl, run_equalIn_agg w 9999 62 _ _ hS hp]
  simp only [Program.fieldsOf, Tryz.underlying62]
  go_simp
  by_cases h1 : a = a' <;> by_cases h2 : b = b' <;> by_cases h3 : c = c' <;> by_cases h4 : d = d' <;> simp [h1, h2, h3, h4]
theorem eql_q (a b c d : Int) (w : World) : Sem.run Tryz.prog (binOp .eql 62 (.agg #[.int .i64 a, .int .i64 b, .int .i64 c, .int .i64 d]) (.agg #[.int .i64 a, .int .i64 b, .int .i64 c, .int .i64 d])) w = .ok (.bool true) w := by
  have h := eq4_at.1 (a, b, c, d) (a, b, c, d) w
  simpa [q4] using h
theorem eql_qg (op : BinOp) (x y : Operand) (a b c d a' b' c' d' : Int) (w : World) : Sem.run Tryz.prog (eqGuard op 62 x y (.agg #[.int .i64 a, .int .i64 b, .int .i64 c, .int .i64 d]) (.agg #[.int .i64 a', .int .i64 b', .int .i64 c', .int .i64 d'])) w = .ok () w := eq4_at.2 op x y (a, b, c, d) (a', b', c', d') w
theorem build_q4 (a b c d : Int) (w : World) : Sem.run Tryz.prog (Instr.build 62 #[(0, .int .i64 a), (1, .int .i64 b), (2, .int .i64 c), (3, .int .i64 d)]) w = .ok (.agg #[.int .i64 a, .int .i64 b, .int .i64 c, .int .i64 d]) w := run_build w 62 _ _ (by kernel_rfl)
attribute [local go_sem] eql_q eql_qg build_q4

/-- A CONSTANT's BYTES, in new memory. -/
theorem lit_pv (w : World) (bs : List UInt8) (C : Array Value) (fr : Nat × Nat) (hC : C.toList = bs.map u8) (hl : bs.length ≤ 1000) : PV bs (some ⟨w.heap.size, 0, none⟩) bs.length (w.alloc (.cells C 5 fr)) := by
  refine ⟨Nat.le_refl _, by omega, by rw [List.length_map, Nat.mul_one], fun _ => ⟨_, rfl, by simp, fun j u hu => ?_⟩⟩
  rw [Go.WideShapes.add_plain, Nat.zero_add, World.cell?_alloc_mark, ← Array.getElem?_toList, hC]
  exact hu

/-! ### the examples, reckoned -/
def exE : List UInt8 := [92, 120, 123, 101, 57, 125]
def exQ : List UInt8 := [123, 50, 44, 125, 43]
def exC : List UInt8 := [91, 94, 93, 97, 45, 99, 93]
theorem exE_is : escz exE false 0 = .lit 233 6 := by kernel_rfl
theorem exQ_is : cntz exQ 0 = ⟨2, -1, 2, 5, true, 0⟩ := by
  have h1 : decF exQ 1 0 = (2, 2) := by rw [decF_step 0 (by decide), decF_stop _ (by decide)]; rfl
  have h2 : decF exQ 3 0 = (0, 3) := by rw [decF_stop _ (by decide)]
  have hb : bracesP exQ 1 = some (2, -1, 4) := by
    unfold bracesP mostP
    rw [h1]
    simp only []
    rw [h2]
    rfl
  have hc : countsP exQ 0 = some (2, -1, 4) := by
    unfold countsP
    rw [if_neg (by decide), if_neg (by decide), if_neg (by decide), if_pos (by decide)]
    exact hb
  show cntP exQ 0 = _
  unfold cntP
  rw [hc]
  rfl
theorem exC_is : clsz exC 0 = .ok ([.rng 93 93, .rng 97 99], 7) := by
  have hp1 : partP exC 2 = .ok (.rng 93 93, 3) := by kernel_rfl
  have hp2 : partP exC 3 = .ok (.rng 97 99, 6) := by kernel_rfl
  show clsF exC 0 2 2 [] = _
  rw [clsF_on (by decide) (by decide) hp1 (by omega), clsF_on (by decide) (by decide) hp2 (by omega), clsF_stop (by decide) (by decide) (by decide)]
  rfl
theorem exC_set : wholeL (allL [.rng 93 93, .rng 97 99]) false true = [(0, 92), (94, 96), (100, 1114367)] := by
  show notL (mk [(93, 93), (97, 99)]) = _
  have hL : Rs.Least [(93, 93), (97, 99)] := by decide
  rw [Rs.mk_of_least hL]
  unfold notL
  rw [Rs.mk_of_least hL]
  rfl

theorem exE_any (W : World) (h : Gl W) : Calls Tryz.prog 10 #[.slice (some ⟨W.heap.size, 0, none⟩) 6 6, .int .i64 0] (W.alloc (.cells #[.int .u8 92, .int .u8 120, .int .u8 123, .int .u8 101, .int .u8 57, .int .u8 125] 5 (6, 7))) fun e w' => (∃ A1 c1, e = .returned (.tuple #[.agg #[.int .i64 1, .int .i64 6, .int .i64 233, .string ⟨#[]⟩, .slice A1 0 c1], .int .i64 0])) ∧ Below (W.alloc (.cells #[.int .u8 92, .int .u8 120, .int .u8 123, .int .u8 101, .int .u8 57, .int .u8 125] 5 (6, 7))).heap.size (W.alloc (.cells #[.int .u8 92, .int .u8 120, .int .u8 123, .int .u8 101, .int .u8 57, .int .u8 125] 5 (6, 7))) w' := by
  have := escape_any exE _ 6 0 _ (lit_pv W exE #[.int .u8 92, .int .u8 120, .int .u8 123, .int .u8 101, .int .u8 57, .int .u8 125] (6, 7) rfl (by decide)) (h.below ((Below.refl _ _).alloc (Nat.le_refl _) _))
  rw [exE_is] at this
  refine this.mono ?_
  rintro e w' ⟨v, rfl, ⟨A1, c1, rfl, -⟩, hB⟩
  exact ⟨⟨A1, c1, rfl⟩, hB⟩
theorem exQ_any (W : World) (h : Gl W) : Calls Tryz.prog 28 #[.slice (some ⟨W.heap.size, 0, none⟩) 5 5, .int .i64 0] (W.alloc (.cells #[.int .u8 123, .int .u8 50, .int .u8 44, .int .u8 125, .int .u8 43] 5 (5, 6))) fun e w' => e = .returned (.tuple #[.agg #[.int .i64 2, .int .i64 (-1), .int .i64 2, .int .i64 5], .bool true, .int .i64 0]) ∧ Below (W.alloc (.cells #[.int .u8 123, .int .u8 50, .int .u8 44, .int .u8 125, .int .u8 43] 5 (5, 6))).heap.size (W.alloc (.cells #[.int .u8 123, .int .u8 50, .int .u8 44, .int .u8 125, .int .u8 43] 5 (5, 6))) w' := by
  have := pcount_any exQ _ 5 0 _ (lit_pv W exQ #[.int .u8 123, .int .u8 50, .int .u8 44, .int .u8 125, .int .u8 43] (5, 6) rfl (by decide)) (h.below ((Below.refl _ _).alloc (Nat.le_refl _) _)).tabs
  rw [exQ_is] at this
  exact this
theorem exC_any (W : World) (h : Gl W) : Calls Tryz.prog 14 #[.slice (some ⟨W.heap.size, 0, none⟩) 7 7, .int .i64 0, .bool false] (W.alloc (.cells #[.int .u8 91, .int .u8 94, .int .u8 93, .int .u8 97, .int .u8 45, .int .u8 99, .int .u8 93] 5 (7, 8))) fun e w' => (∃ A1 c1, e = .returned (.tuple #[.slice A1 3 c1, .int .i64 7, .int .i64 0, .int .i64 0])) ∧ Below (W.alloc (.cells #[.int .u8 91, .int .u8 94, .int .u8 93, .int .u8 97, .int .u8 45, .int .u8 99, .int .u8 93] 5 (7, 8))).heap.size (W.alloc (.cells #[.int .u8 91, .int .u8 94, .int .u8 93, .int .u8 97, .int .u8 45, .int .u8 99, .int .u8 93] 5 (7, 8))) w' := by
  have := class_any exC _ 7 0 false _ (lit_pv W exC #[.int .u8 91, .int .u8 94, .int .u8 93, .int .u8 97, .int .u8 45, .int .u8 99, .int .u8 93] (7, 8) rfl (by decide)) (h.below ((Below.refl _ _).alloc (Nat.le_refl _) _)) (by decide)
  rw [exC_is, show notz exC 0 = true from rfl] at this
  refine this.mono ?_
  rintro e w' ⟨v, rfl, hl, hB⟩
  rw [exC_set] at hl
  obtain ⟨A1, c1, rfl, -⟩ := hl
  exact ⟨⟨A1, c1, rfl⟩, hB⟩

set_option maxRecDepth 100000 in
set_option maxHeartbeats 4000000 in
theorem anchor_any (w : World) (hG : Gl w) : Calls Tryz.prog 9 #[] w fun e w' => e = .returned (.bool true) ∧ Below w.heap.size w w' := by
  have kc := fun (w : World) (C : Array Value) (n c : Nat) => Lib.run_convert_bytes_const (P := Tryz.prog) w 22 5 C n c Tryz.underlying22 Tryz.underlying5
  have CE := hide exE_any
  have CQ := hide exQ_any
  have CC := hide exC_any
  have HG := hide hG
  clear hG
  go_enter Tryz.func9, Tryz.ntmps9
  go_wp2_with fail
  refine ((unhide CE) _ (unhide HG)).mono ?_
  rintro e w1 ⟨⟨A1, c1, rfl⟩, hB⟩
  have hB1 : Below w.heap.size w w1 := ((Below.refl _ w).alloc (Nat.le_refl _) _).trans (hB.mono (by simp))
  have hX1 := hB1.alloc hB1.size (.cells #[.int .i64 1, .int .i64 6, .int .i64 233, .string ⟨#[]⟩, .slice A1 0 c1] 26)
  have HK1 := hide (Blk.new w1 26 #[.int .i64 1, .int .i64 6, .int .i64 233, .string ⟨#[]⟩, .slice A1 0 c1])
  have CQ1 := (unhide CQ) (w1.alloc (.cells #[.int .i64 1, .int .i64 6, .int .i64 233, .string ⟨#[]⟩, .slice A1 0 c1] 26)) ((unhide HG).below hX1)
  have HX1 := hide hX1
  clear hX1 hB1 hB CE CQ
  generalize hx1 : w1.alloc (.cells #[.int .i64 1, .int .i64 6, .int .i64 233, .string ⟨#[]⟩, .slice A1 0 c1] 26) = X1 at *
  have CQ2 := hide CQ1
  clear CQ1
  go_wp2_with fail
  refine (unhide CQ2).mono ?_
  rintro e w2 ⟨rfl, hB⟩
  have hB2 : Below w.heap.size w w2 := ((unhide HX1).alloc (unhide HX1).size _).trans (hB.mono (by have := (unhide HX1).size; simp; omega))
  have hK2 := ((unhide HK1).alloc (.cells #[.int .u8 123, .int .u8 50, .int .u8 44, .int .u8 125, .int .u8 43] 5 (5, 6))).below hB (by have := (unhide HK1).lt; simp; omega)
  have hX2 := hB2.alloc hB2.size (.cells #[.int .i64 2, .int .i64 (-1), .int .i64 2, .int .i64 5] 62)
  have HL2 := hide (Blk.new w2 62 #[.int .i64 2, .int .i64 (-1), .int .i64 2, .int .i64 5])
  have HK2 := hide (hK2.alloc (.cells #[.int .i64 2, .int .i64 (-1), .int .i64 2, .int .i64 5] 62))
  have CC1 := (unhide CC) (w2.alloc (.cells #[.int .i64 2, .int .i64 (-1), .int .i64 2, .int .i64 5] 62)) ((unhide HG).below hX2)
  have HX2 := hide hX2
  clear hX2 hB2 hB hK2 CC CQ2 HX1 HK1
  generalize hx2 : w2.alloc (.cells #[.int .i64 2, .int .i64 (-1), .int .i64 2, .int .i64 5] 62) = X2 at *
  have CC2 := hide CC1
  clear CC1
  go_wp2_with fail
  refine (unhide CC2).mono ?_
  rintro e w3 ⟨⟨A3, c3, rfl⟩, hB⟩
  have hB3 : Below w.heap.size w w3 := ((unhide HX2).alloc (unhide HX2).size _).trans (hB.mono (by have := (unhide HX2).size; simp; omega))
  have hK3 := ((unhide HK2).alloc (.cells #[.int .u8 91, .int .u8 94, .int .u8 93, .int .u8 97, .int .u8 45, .int .u8 99, .int .u8 93] 5 (7, 8))).below hB (by have := (unhide HK2).lt; simp; omega)
  have hL3 := ((unhide HL2).alloc (.cells #[.int .u8 91, .int .u8 94, .int .u8 93, .int .u8 97, .int .u8 45, .int .u8 99, .int .u8 93] 5 (7, 8))).below hB (by have := (unhide HL2).lt; simp; omega)
  have HB3 := hide hB3
  obtain ⟨⟨d0, d1, d2, d3, d4⟩, f0, f1, f2, f3, f4⟩ := cells5 hK3
  obtain ⟨⟨x0, x1, x2, x3⟩, y0, y1, y2, y3⟩ := cells4 hL3
  clear hK3 hL3 hB hB3 HK2 HL2 HX2 CC2
  go_wp2
  go_ret
  exact ⟨rfl, unhide HB3⟩
end Go.Proofs.YtdajdolhjaoeiaaGreatDoor.Sc
