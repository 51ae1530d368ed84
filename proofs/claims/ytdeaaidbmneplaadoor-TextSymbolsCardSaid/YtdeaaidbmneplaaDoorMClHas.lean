/-
  The reference's Has, walked: which of the names a name is, and whether it has a number.
-/
import Derived.Test.YtdeaaidbmneplaaDoorMClRef
set_option linter.unusedSimpArgs false
set_option linter.unusedVariables false
namespace Go.Proofs.YtdeaaidbmneplaaDoor.Cl
open Go.RowKit Go.Proofs.YtdeaaidbmneplaaDoor.Mem
def boolsA (bl : List Bool) : Array Value := (bl.map Value.bool).toArray
theorem boolsA_at {bl : List Bool} {k : Nat} {b : Bool} (h : bl[k]? = some b) : (boolsA bl)[k]? = some (.bool b) := by
  unfold boolsA
  rw [List.getElem?_toArray, List.getElem?_map, h]
  rfl
def zeroB : Array Value := Array.replicate 14 (.bool false)
theorem build_bools (b0 b1 b2 b3 b4 b5 b6 b7 b8 b9 b10 b11 b12 b13 : Bool) (w : World) : Sem.run Tryd.prog (Instr.build 81 #[(0, .bool b0), (1, .bool b1), (2, .bool b2), (3, .bool b3), (4, .bool b4), (5, .bool b5), (6, .bool b6), (7, .bool b7), (8, .bool b8), (9, .bool b9), (10, .bool b10), (11, .bool b11), (12, .bool b12), (13, .bool b13)]) w = .ok (.agg (boolsA [b0, b1, b2, b3, b4, b5, b6, b7, b8, b9, b10, b11, b12, b13])) w := run_build w 81 _ _ (by kernel_rfl)
theorem zero_bools : (∀ w, (zeroValue 81).run Tryd.prog w = .ok (.agg zeroB) w) ∧ (Tryd.prog.info? 81).map (·.size) = some 14 := zero_of_info (by kernel_rfl)
theorem store_bools (b0 b1 b2 b3 b4 b5 b6 b7 b8 b9 b10 b11 b12 b13 : Bool) (w : World) : (storeCells ⟨w.heap.size, 0, none⟩ (boolsA [b0, b1, b2, b3, b4, b5, b6, b7, b8, b9, b10, b11, b12, b13]).toList 0).run Tryd.prog (w.alloc (.cells zeroB 81)) = .ok () (w.alloc (.cells (boolsA [b0, b1, b2, b3, b4, b5, b6, b7, b8, b9, b10, b11, b12, b13]) 81)) :=
  run_storeCells_new w 81 zeroB (boolsA [b0, b1, b2, b3, b4, b5, b6, b7, b8, b9, b10, b11, b12, b13]) zero_bools.2 rfl (by simp [boolsA, Value.oneCell'])
theorem store_bools' (b0 b1 b2 b3 b4 b5 b6 b7 b8 b9 b10 b11 b12 b13 : Bool) (w : World) : (Instr.storeAt 81 (.pointer (some ⟨w.heap.size, 0, none⟩)) (.agg (boolsA [b0, b1, b2, b3, b4, b5, b6, b7, b8, b9, b10, b11, b12, b13]))).run Tryd.prog (w.alloc (.cells zeroB 81)) = .ok () (w.alloc (.cells (boolsA [b0, b1, b2, b3, b4, b5, b6, b7, b8, b9, b10, b11, b12, b13]) 81)) :=
  run_storeAt_new w 81 zeroB (boolsA [b0, b1, b2, b3, b4, b5, b6, b7, b8, b9, b10, b11, b12, b13]) zero_bools.2 rfl (by simp [boolsA, Value.oneCell'])
theorem store_bools2 (b0 b1 b2 b3 b4 b5 b6 b7 b8 b9 b10 b11 b12 b13 : Bool) (w : World) : (storeCells ⟨w.heap.size + 1, 0, none⟩ (boolsA [b0, b1, b2, b3, b4, b5, b6, b7, b8, b9, b10, b11, b12, b13]).toList 0).run Tryd.prog ((w.alloc (.cells namesA 79)).alloc (.cells zeroB 81)) = .ok () ((w.alloc (.cells namesA 79)).alloc (.cells (boolsA [b0, b1, b2, b3, b4, b5, b6, b7, b8, b9, b10, b11, b12, b13]) 81)) := by
  have h := store_bools b0 b1 b2 b3 b4 b5 b6 b7 b8 b9 b10 b11 b12 b13 (w.alloc (.cells namesA 79))
  rwa [World.size_alloc] at h
theorem store_bools3 (b0 b1 b2 b3 b4 b5 b6 b7 b8 b9 b10 b11 b12 b13 : Bool) (w : World) : (Instr.storeAt 81 (.pointer (some ⟨w.heap.size + 1, 0, none⟩)) (.agg (boolsA [b0, b1, b2, b3, b4, b5, b6, b7, b8, b9, b10, b11, b12, b13]))).run Tryd.prog ((w.alloc (.cells namesA 79)).alloc (.cells zeroB 81)) = .ok () ((w.alloc (.cells namesA 79)).alloc (.cells (boolsA [b0, b1, b2, b3, b4, b5, b6, b7, b8, b9, b10, b11, b12, b13]) 81)) := by
  have h := store_bools' b0 b1 b2 b3 b4 b5 b6 b7 b8 b9 b10 b11 b12 b13 (w.alloc (.cells namesA 79))
  rwa [World.size_alloc] at h
def HMid (x : Int) (w w1 : World) (q : Value) (wx : World) : Prop := q = .pointer (some ⟨w1.heap.size + 1, 0, none⟩) ∧ (∀ k n, nmB[k]? = some n → wx.cell? ⟨w1.heap.size, k, none⟩ = some (str n)) ∧ (∀ k b, (tbl x)[k]? = some b → wx.cell? ⟨w1.heap.size + 1, k, none⟩ = some (.bool b)) ∧ Below w.heap.size w wx
theorem mid_of {x : Int} {bl : List Bool} {w w1 : World} (hb : Below w.heap.size w w1) (h : bl = tbl x) :
    HMid x w w1 (.pointer (some ⟨w1.heap.size + 1, 0, none⟩)) ((w1.alloc (.cells namesA 79)).alloc (.cells (boolsA bl) 81)) := by
  subst h
  have b1 := (Blk.new w1 79 namesA).alloc (.cells (boolsA (tbl x)) 81)
  have b2 := Blk.new (w1.alloc (.cells namesA 79)) 81 (boolsA (tbl x))
  rw [World.size_alloc] at b2
  refine ⟨rfl, fun k n hn => (b1.cell k).trans (namesA_at hn), fun k b hk => (b2.cell k).trans (boolsA_at hk), ?_⟩
  exact (hb.alloc hb.size _).alloc (by rw [World.size_alloc]; have := hb.size; omega) _
def LRel (s : List UInt8) (x : Int) (i : Value) : Prop := ∃ k : Nat, i = .int .i64 k ∧ k ≤ 14 ∧ hasP s x = look s x k
def H2 (p : Bool × Bool) (w : World) (e : Ending) (w' : World) : Prop := e = .returned (.tuple #[.bool p.1, .bool p.2]) ∧ Below w.heap.size w w'
theorem classes (x : Int) : ((x ≤ (-1)) ∨ (32 ≤ x ∧ x ≤ 32) ∨ (127 ≤ x)) ∨ ((0 ≤ x ∧ x ≤ 8) ∨ (14 ≤ x ∧ x ≤ 31)) ∨ ((9 ≤ x ∧ x ≤ 9)) ∨ ((10 ≤ x ∧ x ≤ 13)) ∨ ((33 ≤ x ∧ x ≤ 47) ∨ (58 ≤ x ∧ x ≤ 64) ∨ (91 ≤ x ∧ x ≤ 96) ∨ (123 ≤ x ∧ x ≤ 126)) ∨ ((48 ≤ x ∧ x ≤ 57)) ∨ ((65 ≤ x ∧ x ≤ 70)) ∨ ((71 ≤ x ∧ x ≤ 90)) ∨ ((97 ≤ x ∧ x ≤ 122)) := by omega
set_option maxRecDepth 100000 in
set_option maxHeartbeats 16000000 in
theorem has_any (s : List UInt8) (x : Int) (w : World) : Calls Tryd.prog 37 #[str s, .int .i64 x] w (H2 (hasP s x) w) := by
  have HN := hide names_any
  have hz1 := zero_names.1
  have hz2 := zero_bools.1
  go_enter Tryd.func37, Tryd.ntmps37
  go_upto_region 5 with (first | (go_at_call 49; refine (within_any _ _ _ _).mono ?_; rintro e wq ⟨rfl, hq⟩; obtain rfl : _ = wq := hq.symm) | (go_at_call 50; refine (unhide HN _).mono ?_; rintro e w1 ⟨rfl, hb⟩; have HB := hide hb; clear hb; have h3 := store_names w1; have h4 := store_names' w1))
  clear h3 h4 hz1
  go_cut [6, 7, 8, 10] from 12 to 91 (fun _ _ _ q wx => HMid x w w1 q wx)
  case first =>
    have hb1 := build_bools
    rcases classes x with h | h | h | h | h | h | h | h | h
    · have f0 : wi x 48 57 = false := wi_f (by omega)
      have f1 : wi x 65 90 = false := wi_f (by omega)
      have f2 : wi x 97 122 = false := wi_f (by omega)
      have f4 : wi x 0 31 = false := wi_f (by omega)
      have f5 : wi x 33 126 = false := wi_f (by omega)
      have f7 : wi x 9 13 = false := wi_f (by omega)
      have f8 : wi x 65 70 = false := wi_f (by omega)
      have f9 : wi x 97 102 = false := wi_f (by omega)
      have g0 : (x == 9) = false := by rw [beq_eq_false_iff_ne]; omega
      have g3 : (x == 95) = false := by rw [beq_eq_false_iff_ne]; omega
      have HT := hide (show ([false, false, wi x 0 127, (x == 32), (x == 127), false, false, false, wi x 32 126, false, (x == 32), false, false, false] : List Bool) = tbl x by simp only [tbl, f0, f1, f2, f4, f5, f7, f8, f9, g0, g3, Bool.false_or, Bool.true_or, Bool.or_false, Bool.or_true, Bool.true_and, Bool.false_and, Bool.and_true, Bool.and_false, Bool.not_false, Bool.not_true])
      clear h
      have h5 := store_bools2 false false (wi x 0 127) (x == 32) (x == 127) false false false (wi x 32 126) false (x == 32) false false false w1
      have h6 := store_bools3 false false (wi x 0 127) (x == 32) (x == 127) false false false (wi x 32 126) false (x == 32) false false false w1
      go_wp2_with (go_at_call 49; refine (within_any _ _ _ _).mono ?_; rintro e wq ⟨rfl, hq⟩; obtain rfl : _ = wq := hq.symm)
      go_meet
      exact mid_of (unhide HB) (unhide HT)
    · have f0 : wi x 48 57 = false := wi_f (by omega)
      have f1 : wi x 65 90 = false := wi_f (by omega)
      have f2 : wi x 97 122 = false := wi_f (by omega)
      have f3 : wi x 0 127 = true := wi_t (by omega) (by omega)
      have f4 : wi x 0 31 = true := wi_t (by omega) (by omega)
      have f5 : wi x 33 126 = false := wi_f (by omega)
      have f6 : wi x 32 126 = false := wi_f (by omega)
      have f7 : wi x 9 13 = false := wi_f (by omega)
      have f8 : wi x 65 70 = false := wi_f (by omega)
      have f9 : wi x 97 102 = false := wi_f (by omega)
      have g0 : (x == 9) = false := by rw [beq_eq_false_iff_ne]; omega
      have g1 : (x == 32) = false := by rw [beq_eq_false_iff_ne]; omega
      have g2 : (x == 127) = false := by rw [beq_eq_false_iff_ne]; omega
      have g3 : (x == 95) = false := by rw [beq_eq_false_iff_ne]; omega
      have HT := hide (show ([false, false, true, false, true, false, false, false, false, false, false, false, false, false] : List Bool) = tbl x by simp only [tbl, f0, f1, f2, f3, f4, f5, f6, f7, f8, f9, g0, g1, g2, g3, Bool.false_or, Bool.true_or, Bool.or_false, Bool.or_true, Bool.true_and, Bool.false_and, Bool.and_true, Bool.and_false, Bool.not_false, Bool.not_true])
      clear h
      have h5 := store_bools2 false false true false true false false false false false false false false false w1
      have h6 := store_bools3 false false true false true false false false false false false false false false w1
      go_wp2_with (go_at_call 49; refine (within_any _ _ _ _).mono ?_; rintro e wq ⟨rfl, hq⟩; obtain rfl : _ = wq := hq.symm)
      go_meet
      exact mid_of (unhide HB) (unhide HT)
    · have f0 : wi x 48 57 = false := wi_f (by omega)
      have f1 : wi x 65 90 = false := wi_f (by omega)
      have f2 : wi x 97 122 = false := wi_f (by omega)
      have f3 : wi x 0 127 = true := wi_t (by omega) (by omega)
      have f4 : wi x 0 31 = true := wi_t (by omega) (by omega)
      have f5 : wi x 33 126 = false := wi_f (by omega)
      have f6 : wi x 32 126 = false := wi_f (by omega)
      have f7 : wi x 9 13 = true := wi_t (by omega) (by omega)
      have f8 : wi x 65 70 = false := wi_f (by omega)
      have f9 : wi x 97 102 = false := wi_f (by omega)
      have g0 : (x == 9) = true := by rw [beq_iff_eq]; omega
      have g1 : (x == 32) = false := by rw [beq_eq_false_iff_ne]; omega
      have g2 : (x == 127) = false := by rw [beq_eq_false_iff_ne]; omega
      have g3 : (x == 95) = false := by rw [beq_eq_false_iff_ne]; omega
      have HT := hide (show ([false, false, true, true, true, false, false, false, false, false, true, false, false, false] : List Bool) = tbl x by simp only [tbl, f0, f1, f2, f3, f4, f5, f6, f7, f8, f9, g0, g1, g2, g3, Bool.false_or, Bool.true_or, Bool.or_false, Bool.or_true, Bool.true_and, Bool.false_and, Bool.and_true, Bool.and_false, Bool.not_false, Bool.not_true])
      clear h
      have h5 := store_bools2 false false true true true false false false false false true false false false w1
      have h6 := store_bools3 false false true true true false false false false false true false false false w1
      go_wp2_with (go_at_call 49; refine (within_any _ _ _ _).mono ?_; rintro e wq ⟨rfl, hq⟩; obtain rfl : _ = wq := hq.symm)
      go_meet
      exact mid_of (unhide HB) (unhide HT)
    · have f0 : wi x 48 57 = false := wi_f (by omega)
      have f1 : wi x 65 90 = false := wi_f (by omega)
      have f2 : wi x 97 122 = false := wi_f (by omega)
      have f3 : wi x 0 127 = true := wi_t (by omega) (by omega)
      have f4 : wi x 0 31 = true := wi_t (by omega) (by omega)
      have f5 : wi x 33 126 = false := wi_f (by omega)
      have f6 : wi x 32 126 = false := wi_f (by omega)
      have f7 : wi x 9 13 = true := wi_t (by omega) (by omega)
      have f8 : wi x 65 70 = false := wi_f (by omega)
      have f9 : wi x 97 102 = false := wi_f (by omega)
      have g0 : (x == 9) = false := by rw [beq_eq_false_iff_ne]; omega
      have g1 : (x == 32) = false := by rw [beq_eq_false_iff_ne]; omega
      have g2 : (x == 127) = false := by rw [beq_eq_false_iff_ne]; omega
      have g3 : (x == 95) = false := by rw [beq_eq_false_iff_ne]; omega
      have HT := hide (show ([false, false, true, false, true, false, false, false, false, false, true, false, false, false] : List Bool) = tbl x by simp only [tbl, f0, f1, f2, f3, f4, f5, f6, f7, f8, f9, g0, g1, g2, g3, Bool.false_or, Bool.true_or, Bool.or_false, Bool.or_true, Bool.true_and, Bool.false_and, Bool.and_true, Bool.and_false, Bool.not_false, Bool.not_true])
      clear h
      have h5 := store_bools2 false false true false true false false false false false true false false false w1
      have h6 := store_bools3 false false true false true false false false false false true false false false w1
      go_wp2_with (go_at_call 49; refine (within_any _ _ _ _).mono ?_; rintro e wq ⟨rfl, hq⟩; obtain rfl : _ = wq := hq.symm)
      go_meet
      exact mid_of (unhide HB) (unhide HT)
    · have f0 : wi x 48 57 = false := wi_f (by omega)
      have f1 : wi x 65 90 = false := wi_f (by omega)
      have f2 : wi x 97 122 = false := wi_f (by omega)
      have f3 : wi x 0 127 = true := wi_t (by omega) (by omega)
      have f4 : wi x 0 31 = false := wi_f (by omega)
      have f5 : wi x 33 126 = true := wi_t (by omega) (by omega)
      have f6 : wi x 32 126 = true := wi_t (by omega) (by omega)
      have f7 : wi x 9 13 = false := wi_f (by omega)
      have f8 : wi x 65 70 = false := wi_f (by omega)
      have f9 : wi x 97 102 = false := wi_f (by omega)
      have g0 : (x == 9) = false := by rw [beq_eq_false_iff_ne]; omega
      have g1 : (x == 32) = false := by rw [beq_eq_false_iff_ne]; omega
      have g2 : (x == 127) = false := by rw [beq_eq_false_iff_ne]; omega
      have HT := hide (show ([false, false, true, false, false, false, true, false, true, true, false, false, (x == 95), false] : List Bool) = tbl x by simp only [tbl, f0, f1, f2, f3, f4, f5, f6, f7, f8, f9, g0, g1, g2, Bool.false_or, Bool.true_or, Bool.or_false, Bool.or_true, Bool.true_and, Bool.false_and, Bool.and_true, Bool.and_false, Bool.not_false, Bool.not_true])
      clear h
      have h5 := store_bools2 false false true false false false true false true true false false (x == 95) false w1
      have h6 := store_bools3 false false true false false false true false true true false false (x == 95) false w1
      go_wp2_with (go_at_call 49; refine (within_any _ _ _ _).mono ?_; rintro e wq ⟨rfl, hq⟩; obtain rfl : _ = wq := hq.symm)
      go_meet
      exact mid_of (unhide HB) (unhide HT)
    · have f0 : wi x 48 57 = true := wi_t (by omega) (by omega)
      have f1 : wi x 65 90 = false := wi_f (by omega)
      have f2 : wi x 97 122 = false := wi_f (by omega)
      have f3 : wi x 0 127 = true := wi_t (by omega) (by omega)
      have f4 : wi x 0 31 = false := wi_f (by omega)
      have f5 : wi x 33 126 = true := wi_t (by omega) (by omega)
      have f6 : wi x 32 126 = true := wi_t (by omega) (by omega)
      have f7 : wi x 9 13 = false := wi_f (by omega)
      have f8 : wi x 65 70 = false := wi_f (by omega)
      have f9 : wi x 97 102 = false := wi_f (by omega)
      have g0 : (x == 9) = false := by rw [beq_eq_false_iff_ne]; omega
      have g1 : (x == 32) = false := by rw [beq_eq_false_iff_ne]; omega
      have g2 : (x == 127) = false := by rw [beq_eq_false_iff_ne]; omega
      have g3 : (x == 95) = false := by rw [beq_eq_false_iff_ne]; omega
      have HT := hide (show ([true, false, true, false, false, true, true, false, true, false, false, false, true, true] : List Bool) = tbl x by simp only [tbl, f0, f1, f2, f3, f4, f5, f6, f7, f8, f9, g0, g1, g2, g3, Bool.false_or, Bool.true_or, Bool.or_false, Bool.or_true, Bool.true_and, Bool.false_and, Bool.and_true, Bool.and_false, Bool.not_false, Bool.not_true])
      clear h
      have h5 := store_bools2 true false true false false true true false true false false false true true w1
      have h6 := store_bools3 true false true false false true true false true false false false true true w1
      go_wp2_with (go_at_call 49; refine (within_any _ _ _ _).mono ?_; rintro e wq ⟨rfl, hq⟩; obtain rfl : _ = wq := hq.symm)
      go_meet
      exact mid_of (unhide HB) (unhide HT)
    · have f0 : wi x 48 57 = false := wi_f (by omega)
      have f1 : wi x 65 90 = true := wi_t (by omega) (by omega)
      have f2 : wi x 97 122 = false := wi_f (by omega)
      have f3 : wi x 0 127 = true := wi_t (by omega) (by omega)
      have f4 : wi x 0 31 = false := wi_f (by omega)
      have f5 : wi x 33 126 = true := wi_t (by omega) (by omega)
      have f6 : wi x 32 126 = true := wi_t (by omega) (by omega)
      have f7 : wi x 9 13 = false := wi_f (by omega)
      have f8 : wi x 65 70 = true := wi_t (by omega) (by omega)
      have f9 : wi x 97 102 = false := wi_f (by omega)
      have g0 : (x == 9) = false := by rw [beq_eq_false_iff_ne]; omega
      have g1 : (x == 32) = false := by rw [beq_eq_false_iff_ne]; omega
      have g2 : (x == 127) = false := by rw [beq_eq_false_iff_ne]; omega
      have g3 : (x == 95) = false := by rw [beq_eq_false_iff_ne]; omega
      have HT := hide (show ([true, true, true, false, false, false, true, false, true, false, false, true, true, true] : List Bool) = tbl x by simp only [tbl, f0, f1, f2, f3, f4, f5, f6, f7, f8, f9, g0, g1, g2, g3, Bool.false_or, Bool.true_or, Bool.or_false, Bool.or_true, Bool.true_and, Bool.false_and, Bool.and_true, Bool.and_false, Bool.not_false, Bool.not_true])
      clear h
      have h5 := store_bools2 true true true false false false true false true false false true true true w1
      have h6 := store_bools3 true true true false false false true false true false false true true true w1
      go_wp2_with (go_at_call 49; refine (within_any _ _ _ _).mono ?_; rintro e wq ⟨rfl, hq⟩; obtain rfl : _ = wq := hq.symm)
      go_meet
      exact mid_of (unhide HB) (unhide HT)
    · have f0 : wi x 48 57 = false := wi_f (by omega)
      have f1 : wi x 65 90 = true := wi_t (by omega) (by omega)
      have f2 : wi x 97 122 = false := wi_f (by omega)
      have f3 : wi x 0 127 = true := wi_t (by omega) (by omega)
      have f4 : wi x 0 31 = false := wi_f (by omega)
      have f5 : wi x 33 126 = true := wi_t (by omega) (by omega)
      have f6 : wi x 32 126 = true := wi_t (by omega) (by omega)
      have f7 : wi x 9 13 = false := wi_f (by omega)
      have f8 : wi x 65 70 = false := wi_f (by omega)
      have f9 : wi x 97 102 = false := wi_f (by omega)
      have g0 : (x == 9) = false := by rw [beq_eq_false_iff_ne]; omega
      have g1 : (x == 32) = false := by rw [beq_eq_false_iff_ne]; omega
      have g2 : (x == 127) = false := by rw [beq_eq_false_iff_ne]; omega
      have g3 : (x == 95) = false := by rw [beq_eq_false_iff_ne]; omega
      have HT := hide (show ([true, true, true, false, false, false, true, false, true, false, false, true, true, false] : List Bool) = tbl x by simp only [tbl, f0, f1, f2, f3, f4, f5, f6, f7, f8, f9, g0, g1, g2, g3, Bool.false_or, Bool.true_or, Bool.or_false, Bool.or_true, Bool.true_and, Bool.false_and, Bool.and_true, Bool.and_false, Bool.not_false, Bool.not_true])
      clear h
      have h5 := store_bools2 true true true false false false true false true false false true true false w1
      have h6 := store_bools3 true true true false false false true false true false false true true false w1
      go_wp2_with (go_at_call 49; refine (within_any _ _ _ _).mono ?_; rintro e wq ⟨rfl, hq⟩; obtain rfl : _ = wq := hq.symm)
      go_meet
      exact mid_of (unhide HB) (unhide HT)
    · have f0 : wi x 48 57 = false := wi_f (by omega)
      have f1 : wi x 65 90 = false := wi_f (by omega)
      have f2 : wi x 97 122 = true := wi_t (by omega) (by omega)
      have f3 : wi x 0 127 = true := wi_t (by omega) (by omega)
      have f4 : wi x 0 31 = false := wi_f (by omega)
      have f5 : wi x 33 126 = true := wi_t (by omega) (by omega)
      have f6 : wi x 32 126 = true := wi_t (by omega) (by omega)
      have f7 : wi x 9 13 = false := wi_f (by omega)
      have f8 : wi x 65 70 = false := wi_f (by omega)
      have g0 : (x == 9) = false := by rw [beq_eq_false_iff_ne]; omega
      have g1 : (x == 32) = false := by rw [beq_eq_false_iff_ne]; omega
      have g2 : (x == 127) = false := by rw [beq_eq_false_iff_ne]; omega
      have g3 : (x == 95) = false := by rw [beq_eq_false_iff_ne]; omega
      have HT := hide (show ([true, true, true, false, false, false, true, true, true, false, false, false, true, wi x 97 102] : List Bool) = tbl x by simp only [tbl, f0, f1, f2, f3, f4, f5, f6, f7, f8, g0, g1, g2, g3, Bool.false_or, Bool.true_or, Bool.or_false, Bool.or_true, Bool.true_and, Bool.false_and, Bool.and_true, Bool.and_false, Bool.not_false, Bool.not_true])
      clear h
      have h5 := store_bools2 true true true false false false true true true false false false true (wi x 97 102) w1
      have h6 := store_bools3 true true true false false false true true true false false false true (wi x 97 102) w1
      go_wp2_with (go_at_call 49; refine (within_any _ _ _ _).mono ?_; rintro e wq ⟨rfl, hq⟩; obtain rfl : _ = wq := hq.symm)
      go_meet
      exact mid_of (unhide HB) (unhide HT)
  case rest =>
    obtain ⟨rfl, hg, hh, hb⟩ := hcut
    have HG := hide hg
    have HH := hide hh
    have HB := hide hb
    clear hg hh hb
    have H0 := hide (show hasP s x = look s x 0 from rfl)
    go_wp2_with fail
    go_loop [11] (fun i => LRel s x i) (fun i => 14 - (intOf i).toNat)
    case atStart => exact ⟨0, rfl, by omega, unhide H0⟩
    case round =>
      obtain ⟨k, rfl, hk, hl⟩ := hrel
      go_hideQ
      have HL := hide hl
      clear hl
      by_cases hlt : k < 14
      · obtain ⟨n, hn⟩ : ∃ n, nmB[k]? = some n := ⟨_, List.getElem?_eq_getElem (by rw [nmB_len]; exact hlt)⟩
        obtain ⟨v, hv⟩ : ∃ v, (tbl x)[k]? = some v := ⟨_, List.getElem?_eq_getElem (by rw [tbl_len]; exact hlt)⟩
        have c1 := (unhide HG) k n hn
        have c2 := (unhide HH) k v hv
        have hki : (k : Int) < 14 := by omega
        have HNK := hide hn
        have HVK := hide hv
        clear hn hv
        by_cases he : n = s
        · have hq1 : (n == s) = true := by rw [beq_iff_eq]; exact he
          have HE := hide he
          clear he
          go_wp2_with fail
          go_ret2
          refine ⟨?_, unhide HB⟩
          have h := look_hit (x := x) (unhide HNK) (unhide HE)
          rw [unhide HL, h, show (tbl x).getD k false = v by rw [List.getD, unhide HVK]; rfl]
          rfl
        · have hq1 : (n == s) = false := by rw [beq_eq_false_iff_ne]; exact he
          have HE := hide he
          clear he
          go_wp2_with fail
          have hR : LRel s x (.int .i64 ((k : Int) + 1)) := ⟨k + 1, by go_num, by omega, by rw [unhide HL]; exact look_miss (unhide HNK) (unhide HE)⟩
          exact ⟨⟨_, _, _, hR, rfl, rfl, rfl⟩, by simp [intOf]; omega⟩
      · have hki : (14 : Int) ≤ (k : Int) := by omega
        obtain rfl : k = 14 := by omega
        go_wp2_with fail
        go_ret2
        refine ⟨?_, unhide HB⟩
        rw [unhide HL, look_end]
        rfl
end Go.Proofs.YtdeaaidbmneplaaDoor.Cl
