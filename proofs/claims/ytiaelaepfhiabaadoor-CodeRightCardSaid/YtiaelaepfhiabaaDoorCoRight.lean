/-
  code.Right, walked. Conditions: at most 1000 instructions; the program lies in memory.
-/
import Derived.Test.YtiaelaepfhiabaaDoorCoFormed
import Derived.Test.YtiaelaepfhiabaaDoorCoBal
set_option linter.unusedVariables false
set_option linter.unusedSimpArgs false
namespace Go.Proofs.YtiaelaepfhiabaaDoor.Co
open Go.RowKit Go.Proofs.YtiaelaepfhiabaaDoor.Mem Go.Proofs.YtiaelaepfhiabaaDoor.Rs
attribute [local go_sem] run_not_true run_not_false

theorem end_iff {l : List In} (h : endedB l = true) : 0 < l.length ∧ ∀ a i, l[a]? = some i → (i.op = 19 ↔ a + 1 = l.length) := by
  simp only [endedB, Bool.and_eq_true, decide_eq_true_eq] at h
  obtain ⟨h0, h1⟩ := h
  unfold endIx at h0 h1
  cases hf : l.findIdx? (fun i => i.op == 19) with
  | none => rw [hf] at h0; simp at h0
  | some k =>
    rw [hf] at h0 h1
    dsimp only at h0 h1
    obtain ⟨hk, hp, hn⟩ := List.findIdx?_eq_some_iff_getElem.1 hf
    refine ⟨by omega, fun a i hi => ?_⟩
    obtain ⟨ha, rfl⟩ := List.getElem?_eq_some_iff.1 hi
    constructor
    · intro h19
      rcases Nat.lt_or_ge a k with h2 | h2
      · exact absurd (hn a h2) (by simp [h19])
      · omega
    · intro he
      obtain rfl : a = k := by omega
      simpa using hp
theorem wf_of {l : List In} {ns nk : Nat} {g : Int} (he : endedB l = true) (hf : formedB l ns nk g = true) : Wf l := by
  obtain ⟨h0, hend⟩ := end_iff he
  intro a i m hi s hs
  have ha := (List.getElem?_eq_some_iff.1 hi).1
  unfold formedB at hf
  rw [List.all_eq_true] at hf
  have hF := hf a (List.mem_range.2 ha)
  rw [getD_at hi] at hF
  simp only [formB, Bool.and_eq_true] at hF
  obtain ⟨⟨⟨h1, -⟩, -⟩, hfit⟩ := hF
  have hnext : i.op ≠ 19 → ((a : Int) + 1) < l.length := fun hne => by
    have : ¬ a + 1 = l.length := fun e => hne ((hend a i hi).2 e)
    omega
  unfold stepsP at hs
  unfold fitsB at hfit
  by_cases h4 : i.op = 4
  · simp [h4, wayB, aheadB] at hs hfit
    have := hnext (by omega)
    rcases hs with rfl | rfl <;> dsimp only <;> omega
  by_cases h5 : i.op = 5
  · have := hnext (by omega)
    by_cases hx : i.x = -1
    · simp [h5, hx] at hs
      subst hs; dsimp only; omega
    · simp [h5, hx, wayB, aheadB] at hs hfit
      rcases hs with rfl | rfl <;> dsimp only <;> omega
  by_cases h8 : i.op = 8
  · have := hnext (by omega)
    simp [h8, wayB, aheadB] at hs hfit
    rcases hs with rfl | rfl | rfl <;> dsimp only <;> omega
  by_cases h6 : i.op = 6
  · simp [h6, aheadB] at hs hfit
    subst hs; dsimp only; omega
  by_cases h10 : i.op = 10
  · simp [h10, aroundB, withinB] at hs hfit
    subst hs; dsimp only; omega
  by_cases h13 : i.op = 13
  · have := hnext (by omega)
    by_cases hx : i.x = -1
    · simp [h13, hx] at hs
      subst hs; dsimp only; omega
    · simp [h13, hx, aheadB] at hs hfit
      rcases hs with rfl | rfl <;> dsimp only <;> omega
  by_cases h16 : i.op = 16 ∨ i.op = 17
  · have := hnext (by omega)
    simp [h4, h5, h8, h6, h10, h13, h16] at hs
    subst hs; dsimp only; omega
  by_cases h18 : i.op = 18 ∨ i.op = 19
  · simp [h4, h5, h8, h6, h10, h13, h16, h18] at hs
  · have := hnext (fun e => h18 (.inr e))
    simp [h4, h5, h8, h6, h10, h13, h16, h18] at hs
    subst hs; dsimp only; omega

def RightP (l : List In) (ss : List (List R)) (kk : List Cn) (g : Int) : Prop := namedB g ss kk = true ∧ endedB l = true ∧ formedB l ss.length kk.length g = true ∧ Good l
/-- A PROGRAM LIES IN MEMORY -/
structure Pv (w : World) (B : Nat) (l : List In) (ss : List (List R)) (kk : List Cn) (A As Al : Option Addr) : Prop where
  ins : Ins w B A l
  sts : Sts w B As ss
  cns : Cns w B Al kk
  hs : (ss.length : Int) ≤ 9000000000000000000
  hk : (kk.length : Int) ≤ 9000000000000000000
theorem Pv.below {w w' : World} {B : Nat} {l : List In} {ss : List (List R)} {kk : List Cn} {A As Al : Option Addr} (h : Pv w B l ss kk A As Al) (hb : Below B w w') : Pv w' B l ss kk A As Al := ⟨h.ins.below hb, h.sts.below hb, h.cns.below hb, h.hs, h.hk⟩
theorem Pv.more {w : World} {B B' : Nat} {l : List In} {ss : List (List R)} {kk : List Cn} {A As Al : Option Addr} (h : Pv w B l ss kk A As Al) (hB : B ≤ B') : Pv w B' l ss kk A As Al := ⟨h.ins.more hB, h.sts.more hB, h.cns.more hB, h.hs, h.hk⟩
set_option maxHeartbeats 4000000 in
/-- **Right**. -/
theorem cright_any (l : List In) (ss : List (List R)) (kk : List Cn) (As Al A : Option Addr) (c cs ck : Nat) (g : Int) (w : World) (hl : l.length ≤ 1000) (h : Pv w w.heap.size l ss kk A As Al) :
    Calls Tryd.prog 7 #[.agg #[.slice A l.length c, .slice As ss.length cs, .slice Al kk.length ck, .int .i64 g]] w fun e w' => ∃ q, e = .returned (.bool q) ∧ (q = true ↔ RightP l ss kk g) ∧ Below w.heap.size w w' := by
  have b0 : Below w.heap.size w (w.alloc (.cells #[.slice A l.length c, .slice As ss.length cs, .slice Al kk.length ck, .int .i64 g] 26)) := below_al (Below.refl _ _) (Nat.le_refl _) _
  have HP := hide ((h.below b0).more b0.size)
  have HB0 := hide b0
  have HL := hide hl
  clear h b0 hl
  go_enter Tryd.func7, Tryd.ntmps7
  go_wp2_with fail
  refine (named_any ss kk (.slice A l.length c) As Al cs ck g _ (unhide HP).hs (unhide HP).hk (unhide HP).sts (unhide HP).cns).mono ?_
  rintro e w1 ⟨rfl, hb1⟩
  have HB1 := hide hb1
  obtain ⟨x0, x1, x2, x3⟩ := box4 hb1
  clear hb1
  cases q1 : namedB g ss kk
  · have Q1 := hide q1
    clear q1
    go_wp2_with fail
    go_ret
    exact ⟨false, rfl, ⟨fun h => (by cases h), fun h => by have h2 := h.1; rw [unhide Q1] at h2; cases h2⟩, (unhide HB0).trans ((unhide HB1).mono (unhide HB0).size)⟩
  · have Q1 := hide q1
    clear q1
    go_wp2_with fail
    refine (ended_any l (.slice As ss.length cs) (.slice Al kk.length ck) (.int .i64 g) A c w1 (by have := unhide HL; omega) (((unhide HP).below (unhide HB1)).more (unhide HB1).size).ins).mono ?_
    rintro e w2 ⟨rfl, hb2⟩
    have HB2 := hide ((unhide HB1).trans (hb2.mono (unhide HB1).size))
    clear hb2 x0 x1 x2 x3
    obtain ⟨x0, x1, x2, x3⟩ := box4 (unhide HB2)
    cases q2 : endedB l
    · have Q2 := hide q2
      clear q2
      go_wp2_with fail
      go_ret
      exact ⟨false, rfl, ⟨fun h => (by cases h), fun h => by have h2 := h.2.1; rw [unhide Q2] at h2; cases h2⟩, (unhide HB0).trans ((unhide HB2).mono (unhide HB0).size)⟩
    · have Q2 := hide q2
      clear q2
      go_wp2_with fail
      refine (formed_any l As Al A c ss.length cs kk.length ck g w2 (by have := unhide HL; omega) (unhide HP).hs (unhide HP).hk (((unhide HP).below (unhide HB2)).more (unhide HB2).size).ins).mono ?_
      rintro e w3 ⟨rfl, hb3⟩
      have HB3 := hide ((unhide HB2).trans (hb3.mono (unhide HB2).size))
      clear hb3 x0 x1 x2 x3
      obtain ⟨x0, x1, x2, x3⟩ := box4 (unhide HB3)
      cases q3 : formedB l ss.length kk.length g
      · have Q3 := hide q3
        clear q3
        go_wp2_with fail
        go_ret
        exact ⟨false, rfl, ⟨fun h => (by cases h), fun h => by have h2 := h.2.2.1; rw [unhide Q3] at h2; cases h2⟩, (unhide HB0).trans ((unhide HB3).mono (unhide HB0).size)⟩
      · have Q3 := hide q3
        clear q3
        go_wp2_with fail
        refine (balanced_any l As Al A c ss.length cs kk.length ck g w3 (unhide HL) (end_iff (unhide Q2)).1 (wf_of (unhide Q2) (unhide Q3)) (((unhide HP).below (unhide HB3)).more (unhide HB3).size).ins).mono ?_
        rintro e w4 ⟨q, rfl, hq, hb4⟩
        have HB4 := hide ((unhide HB3).trans (hb4.mono (unhide HB3).size))
        have HQ := hide hq
        clear hb4 hq x0 x1 x2 x3
        go_wp2_with fail
        go_ret
        exact ⟨q, rfl, ⟨fun h => ⟨unhide Q1, unhide Q2, unhide Q3, (unhide HQ).1 h⟩, fun h => (unhide HQ).2 h.2.2.2⟩, (unhide HB0).trans ((unhide HB4).mono (unhide HB0).size)⟩
end Go.Proofs.YtiaelaepfhiabaaDoor.Co
