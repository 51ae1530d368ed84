/-
  clewref11's named, walked, an Op a theorem (10). Condition: the instructions lie in memory, the place is one of theirs.
-/
import Derived.Test.YtiaelaepfhiabaaDoorCoRNamed1
import Derived.StillTailTactics
set_option linter.unusedVariables false
set_option linter.unusedSimpArgs false
namespace Go.Proofs.YtiaelaepfhiabaaDoor.Co
open Go.RowKit Go.Proofs.YtiaelaepfhiabaaDoor.Mem Go.Proofs.YtiaelaepfhiabaaDoor.Rs
attribute [local go_sem] run_not_true run_not_false
section
variable (l : List In) (As Al : Option Addr) (A : Option Addr) (c ns cs nk ck : Nat) (g : Int) (a : Nat) (w : World)
set_option maxRecDepth 100000 in
set_option maxHeartbeats 2000000 in
theorem rn_10_z (x y z nd ph : Int) (ez : (z != 0) = true) (ha : l[a]? = some ⟨10, x, y, z, nd, ph⟩) (hl : (l.length : Int) ≤ 9000000000000000000) (hs : (ns : Int) ≤ 9000000000000000000) (hk : (nk : Int) ≤ 9000000000000000000) (h : Ins w w.heap.size A l) :
    Calls Tryd.prog 19 #[.agg #[.slice A l.length c, .slice As ns cs, .slice Al nk ck, .int .i64 g], .int .i64 (a : Int)] w fun e w' => e = .returned (.bool (fitsB l ns nk g a ⟨10, x, y, z, nd, ph⟩)) ∧ Below w.heap.size w w' := by
  have hlt : a < l.length := (List.getElem?_eq_some_iff.1 ha).1
  have HI := hide h
  have HA := hide ha
  obtain ⟨b, off, rfl, hb, hc⟩ := h (by omega)
  obtain ⟨c0, c1, c2, c3, c4, c5⟩ := hc a _ ha
  dsimp only at c0 c1 c2 c3 c4 c5
  have hal1 : ∀ j : Nat, (w.alloc (.cells #[.slice (some ⟨b, off, none⟩) l.length c, .slice As ns cs, .slice Al nk ck, .int .i64 g] 33)).cell? ⟨b, j, none⟩ = w.cell? ⟨b, j, none⟩ := fun j => (World.cell?_alloc_lt w _ ⟨b, j, none⟩ hb)
  have hal2 : ∀ j : Nat, ((w.alloc (.cells #[.slice (some ⟨b, off, none⟩) l.length c, .slice As ns cs, .slice Al nk ck, .int .i64 g] 33)).alloc (.cells #[.int .i64 (10), .int .i64 (x), .int .i64 (y), .int .i64 (z), .int .i64 nd, .int .i64 ph] 48)).cell? ⟨b, j, none⟩ = w.cell? ⟨b, j, none⟩ := fun j => (World.cell?_alloc_lt _ _ ⟨b, j, none⟩ (by simp; omega)).trans (hal1 j)
  have HC := hide hc
  have HAL := hide hal2
  replace c0 := (hal1 _).trans c0
  replace c1 := (hal1 _).trans c1
  replace c2 := (hal1 _).trans c2
  replace c3 := (hal1 _).trans c3
  replace c4 := (hal1 _).trans c4
  replace c5 := (hal1 _).trans c5
  have hws : IntKind.i64.wrap ((ns : Int) - 1) = (ns : Int) - 1 := wrap_id _ (by omega) (by omega)
  have hwk : IntKind.i64.wrap ((nk : Int) - 1) = (nk : Int) - 1 := wrap_id _ (by omega) (by omega)
  have hwa : IntKind.i64.wrap ((a : Int) + 1) = (a : Int) + 1 := wrap_id _ (by omega) (by omega)
  have hwb : IntKind.i64.wrap ((a : Int) - 1) = (a : Int) - 1 := wrap_id _ (by omega) (by omega)
  clear hal1 hal2 hc h ha
  go_enter Tryd.func19, Tryd.ntmps19
  go_wp2_with fail
  all_goals
    go_ret
    exact ⟨by simp_all [fitsB], below_al (below_al (Below.refl _ _) (Nat.le_refl _) _) (by simp) _⟩
set_option maxRecDepth 100000 in
set_option maxHeartbeats 40000000 in
theorem rn_10_m (x y nd ph : Int) (ha : l[a]? = some ⟨10, x, y, 0, nd, ph⟩) (hl : (l.length : Int) ≤ 9000000000000000000) (hs : (ns : Int) ≤ 9000000000000000000) (hk : (nk : Int) ≤ 9000000000000000000) (h : Ins w w.heap.size A l) :
    Calls Tryd.prog 19 #[.agg #[.slice A l.length c, .slice As ns cs, .slice Al nk ck, .int .i64 g], .int .i64 (a : Int)] w fun e w' => e = .returned (.bool (fitsB l ns nk g a ⟨10, x, y, 0, nd, ph⟩)) ∧ Below w.heap.size w w' := by
  have hlt : a < l.length := (List.getElem?_eq_some_iff.1 ha).1
  have HI := hide h
  have HA := hide ha
  obtain ⟨b, off, rfl, hb, hc⟩ := h (by omega)
  obtain ⟨c0, c1, c2, c3, c4, c5⟩ := hc a _ ha
  dsimp only at c0 c1 c2 c3 c4 c5
  have hal1 : ∀ j : Nat, (w.alloc (.cells #[.slice (some ⟨b, off, none⟩) l.length c, .slice As ns cs, .slice Al nk ck, .int .i64 g] 33)).cell? ⟨b, j, none⟩ = w.cell? ⟨b, j, none⟩ := fun j => (World.cell?_alloc_lt w _ ⟨b, j, none⟩ hb)
  have hal2 : ∀ j : Nat, ((w.alloc (.cells #[.slice (some ⟨b, off, none⟩) l.length c, .slice As ns cs, .slice Al nk ck, .int .i64 g] 33)).alloc (.cells #[.int .i64 (10), .int .i64 (x), .int .i64 (y), .int .i64 (0), .int .i64 nd, .int .i64 ph] 48)).cell? ⟨b, j, none⟩ = w.cell? ⟨b, j, none⟩ := fun j => (World.cell?_alloc_lt _ _ ⟨b, j, none⟩ (by simp; omega)).trans (hal1 j)
  have HC := hide hc
  have HAL := hide hal2
  replace c0 := (hal1 _).trans c0
  replace c1 := (hal1 _).trans c1
  replace c2 := (hal1 _).trans c2
  replace c3 := (hal1 _).trans c3
  replace c4 := (hal1 _).trans c4
  replace c5 := (hal1 _).trans c5
  have hws : IntKind.i64.wrap ((ns : Int) - 1) = (ns : Int) - 1 := wrap_id _ (by omega) (by omega)
  have hwk : IntKind.i64.wrap ((nk : Int) - 1) = (nk : Int) - 1 := wrap_id _ (by omega) (by omega)
  have hwa : IntKind.i64.wrap ((a : Int) + 1) = (a : Int) + 1 := wrap_id _ (by omega) (by omega)
  have hwb : IntKind.i64.wrap ((a : Int) - 1) = (a : Int) - 1 := wrap_id _ (by omega) (by omega)
  clear hal1 hal2 hc h ha
  go_enter Tryd.func19, Tryd.ntmps19
  go_wp2_with fail
  obtain ⟨⟨k0, k1, k2, k3⟩, m1, m2, m3⟩ := rboxes (w := w) (v1 := .slice (some ⟨b, off, none⟩) l.length c) (v2 := .slice As ns cs) (v3 := .slice Al nk ck) (v4 := .int .i64 g) (k := 10) (x := x) (y := y) (z := 0) (nd := nd) (ph := ph) (Below.refl _ _)
  have HBX := hide (show Below w.heap.size w ((w.alloc (.cells #[.slice (some ⟨b, off, none⟩) l.length c, .slice As ns cs, .slice Al nk ck, .int .i64 g] 33)).alloc (.cells #[.int .i64 10, .int .i64 x, .int .i64 y, .int .i64 0, .int .i64 nd, .int .i64 ph] 48)) from below_al (below_al (Below.refl _ _) (Nat.le_refl _) _) (by simp) _)
  clear c0 c1 c2 c3 c4 c5 hws hwa hs hk hl
  generalize ((w.alloc (.cells #[.slice (some ⟨b, off, none⟩) l.length c, .slice As ns cs, .slice Al nk ck, .int .i64 g] 33)).alloc (.cells #[.int .i64 10, .int .i64 x, .int .i64 y, .int .i64 0, .int .i64 nd, .int .i64 ph] 48)) = X at *
  cases q1 : withinB x 0 ((nk : Int) - 1)
  · have HR1 := hide (show ∀ W, Calls Tryd.prog 17 #[.int .i64 x, .int .i64 0, .int .i64 ((nk : Int) - 1)] W fun e w' => e = .returned (.bool false) ∧ w' = W from fun W => by have h := rin_any x 0 ((nk : Int) - 1) W; rwa [q1] at h)
    have Q1 := hide q1
    clear q1
    go_quiet (first | (go_at_call 17; with_reducible refine Calls.quiet_of_same (unhide HR1 _)))
    go_wp2_with fail
    go_ret
    exact ⟨by simp [fitsB, unhide Q1], below_drewN (unhide HBX) _⟩
  · have HR1 := hide (show ∀ W, Calls Tryd.prog 17 #[.int .i64 x, .int .i64 0, .int .i64 ((nk : Int) - 1)] W fun e w' => e = .returned (.bool true) ∧ w' = W from fun W => by have h := rin_any x 0 ((nk : Int) - 1) W; rwa [q1] at h)
    cases q2 : withinB y 0 ((a : Int) - 1)
    · have HR2 := hide (show ∀ W, Calls Tryd.prog 17 #[.int .i64 y, .int .i64 0, .int .i64 ((a : Int) - 1)] W fun e w' => e = .returned (.bool false) ∧ w' = W from fun W => by have h := rin_any y 0 ((a : Int) - 1) W; rwa [q2] at h)
      have Q1 := hide q1
      have Q2 := hide q2
      clear q1 q2
      go_quiet (first | (go_at_call 17; with_reducible refine Calls.quiet_of_same (unhide HR1 _)) | (go_at_call 17; with_reducible refine Calls.quiet_of_same (unhide HR2 _)))
      go_wp2_with fail
      go_ret
      exact ⟨by simp [fitsB, aroundB, unhide Q1, unhide Q2], below_drewN (unhide HBX) _⟩
    · obtain ⟨t, rfl, hta⟩ : ∃ t : Nat, y = (t : Int) ∧ t < a := by
        simp [withinB] at q2
        exact ⟨y.toNat, by omega, by omega⟩
      have HR2 := hide (show ∀ W, Calls Tryd.prog 17 #[.int .i64 (t : Int), .int .i64 0, .int .i64 ((a : Int) - 1)] W fun e w' => e = .returned (.bool true) ∧ w' = W from fun W => by have h := rin_any (t : Int) 0 ((a : Int) - 1) W; rwa [q2] at h)
      obtain ⟨⟨jo, jx, jy, jz, jn, jp⟩, hj⟩ : ∃ j, l[t]? = some j := ⟨l[t]'(by omega), List.getElem?_eq_getElem _⟩
      obtain ⟨d0, d1, d2, -, -, -⟩ := (unhide HC) t _ hj
      dsimp only at d0 d1 d2
      replace d0 := (unhide HAL _).trans d0
      replace d1 := (unhide HAL _).trans d1
      replace d2 := (unhide HAL _).trans d2
      have g1 : (t : Int) < (l.length : Int) := by omega
      have g2 : t < l.length := by omega
      clear hlt
      have HE := hide (show aroundB l a (t : Int) = ((jo == 8) && (jx == x) && decide ((a : Int) < jy)) by
        unfold aroundB
        rw [q2, show ((t : Int)).toNat = t from rfl, getD_at hj, getD_at (unhide HA)]
        rfl)
      have e8 : ((jo == 8) = true) ∨ ((jo == 8) = false) := by cases (jo == 8) <;> simp
      have ex : ((jx == x) = true) ∨ ((jx == x) = false) := by cases (jx == x) <;> simp
      have ey : (decide ((a : Int) < jy) = true) ∨ (decide ((a : Int) < jy) = false) := by cases decide ((a : Int) < jy) <;> simp
      have Qq1 := hide q1
      have Qq2 := hide q2
      clear hj hta q1 q2
      rcases e8 with e8 | e8
      · rcases ex with ex | ex
        · rcases ey with ey | ey
          all_goals
            have HF := hide (unhide HE)
            rw [e8, ex, ey] at HF
            go_quiet (first | (go_at_call 17; with_reducible refine Calls.quiet_of_same (unhide HR1 _)) | (go_at_call 17; with_reducible refine Calls.quiet_of_same (unhide HR2 _)))
            go_wp2_with fail
            go_ret
            exact ⟨by simp [fitsB, unhide Qq1, unhide HF], below_drewN (unhide HBX) _⟩
        · clear ey
          have HF := hide (unhide HE)
          rw [e8, ex] at HF
          go_quiet (first | (go_at_call 17; with_reducible refine Calls.quiet_of_same (unhide HR1 _)) | (go_at_call 17; with_reducible refine Calls.quiet_of_same (unhide HR2 _)))
          go_wp2_with fail
          go_ret
          exact ⟨by simp [fitsB, unhide Qq1, unhide HF], below_drewN (unhide HBX) _⟩
      · clear ex ey
        have HF := hide (unhide HE)
        rw [e8] at HF
        go_quiet (first | (go_at_call 17; with_reducible refine Calls.quiet_of_same (unhide HR1 _)) | (go_at_call 17; with_reducible refine Calls.quiet_of_same (unhide HR2 _)))
        go_wp2_with fail
        go_ret
        exact ⟨by simp [fitsB, unhide Qq1, unhide HF], below_drewN (unhide HBX) _⟩
end
end Go.Proofs.YtiaelaepfhiabaaDoor.Co
