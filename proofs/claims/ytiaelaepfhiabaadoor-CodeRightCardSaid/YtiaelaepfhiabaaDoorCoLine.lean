/-
  code.Line, walked. Conditions: the two tables; the instruction's numbers are ints.
-/
import Derived.Test.YtiaelaepfhiabaaDoorCoText
set_option linter.unusedVariables false
set_option linter.unusedSimpArgs false
namespace Go.Proofs.YtiaelaepfhiabaaDoor.Co
open Go.RowKit Go.Proofs.YtiaelaepfhiabaaDoor.Mem Go.Proofs.YtiaelaepfhiabaaDoor.Rs
attribute [local go_sem] run_not_true run_not_false

def cat (x y : List UInt8) : List UInt8 := x ++ y
def Small (x y : List UInt8) : Prop := x.length + y.length ≤ 9223372036854775807
theorem s_add (x y : List UInt8) (w : World) (h : Small x y) : Sem.run Tryd.prog (Op.stringOp .add ⟨x.toArray⟩ ⟨y.toArray⟩) w = .ok (.string ⟨(cat x y).toArray⟩) w := by
  rw [run_string_add_sum w _ _ (by have h2 : x.length + y.length ≤ 9223372036854775807 := h; simpa [ByteArray.size] using h2), ByteArray.mk_append_mk]
  simp [cat]
theorem cat_len (x y : List UInt8) : (cat x y).length = x.length + y.length := by simp [cat]
attribute [local go_sem high] s_add
theorem build5 (a b c d e : Int) (w : World) : Sem.run Tryd.prog (Instr.build 39 #[(0, .int .i64 a), (1, .int .i64 b), (2, .int .i64 c), (3, .int .i64 d), (4, .int .i64 e)]) w = .ok (.agg #[.int .i64 a, .int .i64 b, .int .i64 c, .int .i64 d, .int .i64 e]) w := run_build w 39 _ _ (by kernel_rfl)
theorem index5_0 (a b c d e : Int) (w : World) : Sem.run Tryd.prog (Instr.index 39 (.agg #[.int .i64 a, .int .i64 b, .int .i64 c, .int .i64 d, .int .i64 e]) (.int .i64 0)) w = .ok (.int .i64 a) w := by kernel_rfl
theorem index5_1 (a b c d e : Int) (w : World) : Sem.run Tryd.prog (Instr.index 39 (.agg #[.int .i64 a, .int .i64 b, .int .i64 c, .int .i64 d, .int .i64 e]) (.int .i64 1)) w = .ok (.int .i64 b) w := by kernel_rfl
theorem index5_2 (a b c d e : Int) (w : World) : Sem.run Tryd.prog (Instr.index 39 (.agg #[.int .i64 a, .int .i64 b, .int .i64 c, .int .i64 d, .int .i64 e]) (.int .i64 2)) w = .ok (.int .i64 c) w := by kernel_rfl
theorem index5_3 (a b c d e : Int) (w : World) : Sem.run Tryd.prog (Instr.index 39 (.agg #[.int .i64 a, .int .i64 b, .int .i64 c, .int .i64 d, .int .i64 e]) (.int .i64 3)) w = .ok (.int .i64 d) w := by kernel_rfl
theorem index5_4 (a b c d e : Int) (w : World) : Sem.run Tryd.prog (Instr.index 39 (.agg #[.int .i64 a, .int .i64 b, .int .i64 c, .int .i64 d, .int .i64 e]) (.int .i64 4)) w = .ok (.int .i64 e) w := by kernel_rfl
attribute [local go_sem] build5 index5_0 index5_1 index5_2 index5_3 index5_4
/-- the five numbers -/
def fld (i : In) : Nat → Int
  | 0 => i.x
  | 1 => i.y
  | 2 => i.z
  | 3 => i.nd
  | _ => i.ph
def lineL (i : In) : Nat → List UInt8
  | 0 => nameL i.op
  | k + 1 => cat (lineL i k) (cat [32] (Lib.itoa (fld i k)))
def Okn (i : In) : Prop := ∀ k, -9223372036854775808 ≤ fld i k ∧ fld i k ≤ 9223372036854775807
theorem name_len (op : Int) : (nameL op).length ≤ 20 := by
  unfold nameL
  split
  · rename_i h
    simp [withinB] at h
    obtain ⟨k, rfl⟩ : ∃ k : Nat, op = k := ⟨op.toNat, by omega⟩
    have hk : k < 20 := by omega
    have : ∀ k : Fin 20, (wordL k).length ≤ 20 := by decide
    exact this ⟨k, hk⟩
  · simp
theorem line_len {i : In} (h : Okn i) : ∀ k, (lineL i k).length ≤ 20 + 21 * k
  | 0 => name_len _
  | k + 1 => by
    have h1 := line_len h k
    have h2 := itoa_len (h k).1 (h k).2
    simp only [lineL, cat_len, List.length_singleton]
    omega
set_option maxHeartbeats 2000000 in
theorem line_round (i : In) (k : Nat) (hok : Okn i) : Small [32] (Lib.itoa (fld i k)) ∧ (k ≤ 5 → Small (lineL i k) (cat [32] (Lib.itoa (fld i k)))) := by
  have h1 := line_len hok k
  have h2 := itoa_len (hok k).1 (hok k).2
  unfold Small
  rw [cat_len, List.length_singleton]
  exact ⟨by omega, fun h => by omega⟩
set_option maxRecDepth 100000 in
set_option maxHeartbeats 4000000 in
/-- **Line**. -/
theorem line_any (i : In) (w : World) (hok : Okn i) (hT : Tb w) : Calls Tryd.prog 12 #[.agg #[.int .i64 i.op, .int .i64 i.x, .int .i64 i.y, .int .i64 i.z, .int .i64 i.nd, .int .i64 i.ph]] w fun e w' => e = .returned (.string ⟨(lineL i 5).toArray⟩) ∧ Below w.heap.size w w' := by
  have HT := hide hT
  have HO := hide hok
  clear hT hok
  have hx : ∀ j, j < 6 → ∀ W, Below (w.alloc (.cells #[.int .i64 i.op, .int .i64 i.x, .int .i64 i.y, .int .i64 i.z, .int .i64 i.nd, .int .i64 i.ph] 37)).heap.size (w.alloc (.cells #[.int .i64 i.op, .int .i64 i.x, .int .i64 i.y, .int .i64 i.z, .int .i64 i.nd, .int .i64 i.ph] 37)) W → W.cell? ⟨w.heap.size, j, none⟩ = (#[.int .i64 i.op, .int .i64 i.x, .int .i64 i.y, .int .i64 i.z, .int .i64 i.nd, .int .i64 i.ph] : Array Value)[j]? := fun j hj W hb => ((Blk.new w 37 #[.int .i64 i.op, .int .i64 i.x, .int .i64 i.y, .int .i64 i.z, .int .i64 i.nd, .int .i64 i.ph]).below hb (by simp)).cell j
  have HX := hide hx
  clear hx
  go_enter Tryd.func12, Tryd.ntmps12
  go_wp2_with fail
  refine (name_any i.op _ ((unhide HT).below (below_al (Below.refl _ _) (Nat.le_refl _) _))).mono ?_
  rintro e w1 ⟨rfl, hb1⟩
  have x1 := unhide HX 1 (by omega) _ hb1
  have x2 := unhide HX 2 (by omega) _ hb1
  have x3 := unhide HX 3 (by omega) _ hb1
  have x4 := unhide HX 4 (by omega) _ hb1
  have x5 := unhide HX 5 (by omega) _ hb1
  simp at x1 x2 x3 x4 x5
  have HB1 := hide ((below_al (Below.refl w.heap.size w) (Nat.le_refl _) _).trans (hb1.mono (by simp)))
  clear hb1
  go_wp2_with fail
  go_loopw [3, 20] (fun v c wr => ∃ k : Nat, c = .int .i64 (k : Int) ∧ k ≤ 5 ∧ v = .string ⟨(lineL i k).toArray⟩ ∧ Below w.heap.size w wr) (fun _ c _ => 5 - (intOf c).toNat)
  case atStart => exact ⟨0, rfl, by omega, rfl, unhide HB1⟩
  case round =>
    obtain ⟨k, rfl, hk, rfl, hbe⟩ := hrel
    have HB := hide hbe
    clear hbe x1 x2 x3 x4 x5
    have L1 := (line_round i k (unhide HO)).1
    have L2 := (line_round i k (unhide HO)).2 hk
    have HIT := hide (itoa_any (fld i k) wr (unhide HO k).1 (unhide HO k).2 ((unhide HT).below (unhide HB)))
    by_cases h5 : k = 5
    · subst h5
      clear L1 L2
      go_wp2_with fail
      go_ret
      exact ⟨rfl, unhide HB⟩
    · have hs : lineL i (k + 1) = cat (lineL i k) (cat [32] (Lib.itoa (fld i k))) := rfl
      have HS := hide hs
      clear hs
      have hc : k = 0 ∨ k = 1 ∨ k = 2 ∨ k = 3 ∨ k = 4 := by omega
      clear hk h5
      generalize lineL i k = ll at *
      rcases hc with rfl | rfl | rfl | rfl | rfl
      all_goals
        simp only [fld] at L1 L2 HIT HS
        go_wp2_with fail
        refine (unhide HIT).mono ?_
        rintro e w2 ⟨rfl, hb2⟩
        have HB2 := hide ((unhide HB).trans (hb2.mono (unhide HB).size))
        clear hb2
        go_wp2_with fail
        first
          | exact ⟨⟨1, rfl, by omega, congrArg (fun t : List UInt8 => Value.string ⟨t.toArray⟩) (unhide HS).symm, unhide HB2⟩, by simp [intOf]⟩
          | exact ⟨⟨2, rfl, by omega, congrArg (fun t : List UInt8 => Value.string ⟨t.toArray⟩) (unhide HS).symm, unhide HB2⟩, by simp [intOf]⟩
          | exact ⟨⟨3, rfl, by omega, congrArg (fun t : List UInt8 => Value.string ⟨t.toArray⟩) (unhide HS).symm, unhide HB2⟩, by simp [intOf]⟩
          | exact ⟨⟨4, rfl, by omega, congrArg (fun t : List UInt8 => Value.string ⟨t.toArray⟩) (unhide HS).symm, unhide HB2⟩, by simp [intOf]⟩
          | exact ⟨⟨5, rfl, by omega, congrArg (fun t : List UInt8 => Value.string ⟨t.toArray⟩) (unhide HS).symm, unhide HB2⟩, by simp [intOf]⟩
end Go.Proofs.YtiaelaepfhiabaaDoor.Co
