/-
  The law's anchor, walked. Condition: the two tables.
-/
import Derived.Test.YtiaelaepfhiabaaDoorCoRight
import Derived.Test.YtiaelaepfhiabaaDoorCoLine
set_option linter.unusedVariables false
set_option linter.unusedSimpArgs false
namespace Go.Proofs.YtiaelaepfhiabaaDoor.Co
open Go.RowKit Go.Proofs.YtiaelaepfhiabaaDoor.Mem Go.Proofs.YtiaelaepfhiabaaDoor.Rs
attribute [local go_sem] run_not_true run_not_false

abbrev iM : In := ⟨19, 0, 0, 0, 0, 0⟩
abbrev iC : In := ⟨16, 0, 0, 0, 0, 0⟩
theorem good_M : Good [iM] := by
  have h : ∀ a m, Rb [iM] a m → a = 0 ∧ m = 0 := by
    intro a m hr
    induction hr with
    | zero => exact ⟨rfl, rfl⟩
    | step _ _ i hi hs ih =>
      obtain ⟨rfl, rfl⟩ := ih
      simp at hi
      subst hi
      simp [stepsP] at hs
  refine ⟨fun a m n h1 h2 => (h a m h1).2.trans (h a n h2).2.symm, fun a m i h1 hi => ?_⟩
  obtain ⟨rfl, rfl⟩ := h a m h1
  simp at hi
  subst hi
  decide
theorem right_M : RightP [iM] [] [] 0 := ⟨by decide, by decide, by decide, good_M⟩
theorem wrong_C : ¬ RightP [iC, iM] [] [] 0 := fun h => by
  have := h.2.2.2.2 0 0 iC .zero rfl
  revert this
  decide
theorem dec1 (u : Nat) (h : u < 10) : Lib.decDigits u = [UInt8.ofNat (48 + u)] := by unfold Lib.decDigits; rw [dif_pos h]
theorem line_J : lineL ⟨6, 7, 0, 0, 3, 0⟩ 5 = [106, 117, 109, 112, 32, 55, 32, 48, 32, 48, 32, 51, 32, 48] := by
  have i7 : Lib.itoa 7 = [55] := by unfold Lib.itoa; rw [if_neg (by omega), dec1 _ (by decide)]; decide
  have i0 : Lib.itoa 0 = [48] := by unfold Lib.itoa; rw [if_neg (by omega), dec1 _ (by decide)]; decide
  have i3 : Lib.itoa 3 = [51] := by unfold Lib.itoa; rw [if_neg (by omega), dec1 _ (by decide)]; decide
  simp only [lineL, fld, i7, i0, i3]
  decide
theorem build_i1 (v : Int) (w : World) : Sem.run Tryd.prog (Instr.build 37 #[(0, .int .i64 v)]) w = .ok (.agg #[.int .i64 v, .int .i64 0, .int .i64 0, .int .i64 0, .int .i64 0, .int .i64 0]) w := run_build w 37 _ _ (by kernel_rfl)
theorem build_i3 (v x n : Int) (w : World) : Sem.run Tryd.prog (Instr.build 37 #[(0, .int .i64 v), (1, .int .i64 x), (4, .int .i64 n)]) w = .ok (.agg #[.int .i64 v, .int .i64 x, .int .i64 0, .int .i64 0, .int .i64 n, .int .i64 0]) w := run_build w 37 _ _ (by kernel_rfl)
theorem build_p (A : Option Addr) (n c : Nat) (w : World) : Sem.run Tryd.prog (Instr.build 26 #[(0, .slice A n c)]) w = .ok (.agg #[.slice A n c, .slice none 0 0, .slice none 0 0, .int .i64 0]) w := run_build w 26 _ _ (by kernel_rfl)
attribute [local go_sem] build_i1 build_i3 build_p
theorem pv_M {W : World} {g B : Nat} (hB : g < B) (h : Blk W g 37 #[.int .i64 19, .int .i64 0, .int .i64 0, .int .i64 0, .int .i64 0, .int .i64 0]) : Pv W B [iM] [] [] (some ⟨g, 0, none⟩) none none := by
  refine ⟨fun _ => ⟨g, 0, rfl, hB, fun k i hi => ?_⟩, fun h => absurd h (by simp), fun h => absurd h (by simp), by simp, by simp⟩
  match k, hi with
  | 0, hi =>
    simp at hi
    subst hi
    exact ⟨h.cell 0, h.cell 1, h.cell 2, h.cell 3, h.cell 4, h.cell 5⟩
theorem pv_C {W : World} {g B : Nat} (hB : g < B) (h : Blk W g 37 #[.int .i64 16, .int .i64 0, .int .i64 0, .int .i64 0, .int .i64 0, .int .i64 0, .int .i64 19, .int .i64 0, .int .i64 0, .int .i64 0, .int .i64 0, .int .i64 0]) : Pv W B [iC, iM] [] [] (some ⟨g, 0, none⟩) none none := by
  refine ⟨fun _ => ⟨g, 0, rfl, hB, fun k i hi => ?_⟩, fun h => absurd h (by simp), fun h => absurd h (by simp), by simp, by simp⟩
  match k, hi with
  | 0, hi =>
    simp at hi
    subst hi
    exact ⟨h.cell 0, h.cell 1, h.cell 2, h.cell 3, h.cell 4, h.cell 5⟩
  | 1, hi =>
    simp at hi
    subst hi
    exact ⟨h.cell 6, h.cell 7, h.cell 8, h.cell 9, h.cell 10, h.cell 11⟩
set_option maxRecDepth 100000 in
set_option maxHeartbeats 4000000 in
/-- **the anchor**. -/
theorem anchor_any (w : World) (hT : Tb w) : Calls Tryd.prog 6 #[] w fun e w' => e = .returned (.bool true) ∧ Below w.heap.size w w' := by
  have HT := hide hT
  clear hT
  have m1 := (((Blk.new w 37 #[.int .i64 19, .int .i64 0, .int .i64 0, .int .i64 0, .int .i64 0, .int .i64 0]).alloc (.cells #[.slice (some ⟨w.heap.size, 0, none⟩) 1 1, .slice none 0 0, .slice none 0 0, .int .i64 0] 26)).alloc (.cells #[.int .i64 16, .int .i64 0, .int .i64 0, .int .i64 0, .int .i64 0, .int .i64 0, .int .i64 19, .int .i64 0, .int .i64 0, .int .i64 0, .int .i64 0, .int .i64 0] 37)).alloc (.cells #[.slice (some ⟨w.heap.size + 2, 0, none⟩) 2 2, .slice none 0 0, .slice none 0 0, .int .i64 0] 26)
  have m2 := (Blk.new ((w.alloc (.cells #[.int .i64 19, .int .i64 0, .int .i64 0, .int .i64 0, .int .i64 0, .int .i64 0] 37)).alloc (.cells #[.slice (some ⟨w.heap.size, 0, none⟩) 1 1, .slice none 0 0, .slice none 0 0, .int .i64 0] 26)) 37 #[.int .i64 16, .int .i64 0, .int .i64 0, .int .i64 0, .int .i64 0, .int .i64 0, .int .i64 19, .int .i64 0, .int .i64 0, .int .i64 0, .int .i64 0, .int .i64 0]).alloc (.cells #[.slice (some ⟨w.heap.size + 2, 0, none⟩) 2 2, .slice none 0 0, .slice none 0 0, .int .i64 0] 26)
  have m3 := Blk.new (((w.alloc (.cells #[.int .i64 19, .int .i64 0, .int .i64 0, .int .i64 0, .int .i64 0, .int .i64 0] 37)).alloc (.cells #[.slice (some ⟨w.heap.size, 0, none⟩) 1 1, .slice none 0 0, .slice none 0 0, .int .i64 0] 26)).alloc (.cells #[.int .i64 16, .int .i64 0, .int .i64 0, .int .i64 0, .int .i64 0, .int .i64 0, .int .i64 19, .int .i64 0, .int .i64 0, .int .i64 0, .int .i64 0, .int .i64 0] 37)) 26 #[.slice (some ⟨w.heap.size + 2, 0, none⟩) 2 2, .slice none 0 0, .slice none 0 0, .int .i64 0]
  simp only [World.size_alloc] at m1 m2 m3
  have b0 := below_al (below_al (below_al (below_al (Below.refl w.heap.size w) (Nat.le_refl _) (.cells #[.int .i64 19, .int .i64 0, .int .i64 0, .int .i64 0, .int .i64 0, .int .i64 0] 37)) (by simp) (.cells #[.slice (some ⟨w.heap.size, 0, none⟩) 1 1, .slice none 0 0, .slice none 0 0, .int .i64 0] 26)) (by simp; omega) (.cells #[.int .i64 16, .int .i64 0, .int .i64 0, .int .i64 0, .int .i64 0, .int .i64 0, .int .i64 19, .int .i64 0, .int .i64 0, .int .i64 0, .int .i64 0, .int .i64 0] 37)) (by simp; omega) (.cells #[.slice (some ⟨w.heap.size + 2, 0, none⟩) 2 2, .slice none 0 0, .slice none 0 0, .int .i64 0] 26)
  have M1 := hide m1
  have M2 := hide m2
  have M3 := hide m3
  have HB0 := hide b0
  clear m1 m2 m3 b0
  go_enter Tryd.func6, Tryd.ntmps6
  go_wp2_with fail
  refine (cright_any [iM] [] [] none none (some ⟨w.heap.size, 0, none⟩) 1 0 0 0 _ (by simp) (pv_M (by simp; omega) (unhide M1))).mono ?_
  rintro e w1 ⟨q, rfl, hq, hb1⟩
  obtain rfl : q = true := hq.2 right_M
  have k3 := (unhide M3).below hb1 (by simp)
  have HK2 := hide ((unhide M2).below hb1 (by simp))
  have HB1 := hide ((unhide HB0).trans (hb1.mono (by simp; omega)))
  have x0 := k3.cell 0
  have x1 := k3.cell 1
  have x2 := k3.cell 2
  have x3 := k3.cell 3
  clear hq hb1 k3
  go_wp2_with fail
  refine (cright_any [iC, iM] [] [] none none (some ⟨w.heap.size + 2, 0, none⟩) 2 0 0 0 w1 (by simp) (pv_C ((unhide HK2).lt) (unhide HK2))).mono ?_
  rintro e w2 ⟨q, rfl, hq, hb2⟩
  obtain rfl : q = false := by
    cases q
    · rfl
    · exact absurd (hq.1 rfl) wrong_C
  have HB2 := hide ((unhide HB1).trans (hb2.mono (unhide HB1).size))
  clear hq hb2 x0 x1 x2 x3
  go_wp2_with fail
  refine (line_any ⟨6, 7, 0, 0, 3, 0⟩ w2 (fun k => by match k with | 0 => exact ⟨by decide, by decide⟩ | 1 => exact ⟨by decide, by decide⟩ | 2 => exact ⟨by decide, by decide⟩ | 3 => exact ⟨by decide, by decide⟩ | _ + 4 => exact ⟨show (-9223372036854775808 : Int) ≤ 0 by decide, show (0 : Int) ≤ 9223372036854775807 by decide⟩) ((unhide HT).below (unhide HB2))).mono ?_
  rintro e w3 ⟨rfl, hb3⟩
  rw [line_J]
  have HB3 := hide ((unhide HB2).trans (hb3.mono (unhide HB2).size))
  clear hb3
  go_wp2_with fail
  go_ret
  exact ⟨rfl, unhide HB3⟩
end Go.Proofs.YtiaelaepfhiabaaDoor.Co
