/-
  code.fits, walked, an Op a theorem (11, 12, 13, 14, rest). Condition: the instructions lie in memory, the place is one of theirs.
-/
import Derived.Test.YtiaelaepfhiabaaDoorCoFits1
set_option linter.unusedVariables false
set_option linter.unusedSimpArgs false
namespace Go.Proofs.YtiaelaepfhiabaaDoor.Co
open Go.RowKit Go.Proofs.YtiaelaepfhiabaaDoor.Mem Go.Proofs.YtiaelaepfhiabaaDoor.Rs
attribute [local go_sem] run_not_true run_not_false
section
variable (l : List In) (As Al : Option Addr) (A : Option Addr) (c ns cs nk ck : Nat) (g : Int) (a : Nat) (w : World)
set_option maxRecDepth 100000 in
set_option maxHeartbeats 2000000 in
theorem fits_11 (x y z nd ph : Int) (ha : l[a]? = some ⟨11, x, y, z, nd, ph⟩) (hl : (l.length : Int) ≤ 9000000000000000000) (hs : (ns : Int) ≤ 9000000000000000000) (hk : (nk : Int) ≤ 9000000000000000000) (h : Ins w w.heap.size A l) :
    Calls Tryd.prog 31 #[.agg #[.slice A l.length c, .slice As ns cs, .slice Al nk ck, .int .i64 g], .int .i64 (a : Int)] w fun e w' => e = .returned (.bool (fitsB l ns nk g a ⟨11, x, y, z, nd, ph⟩)) ∧ Below w.heap.size w w' := by
  have hlt : a < l.length := (List.getElem?_eq_some_iff.1 ha).1
  have HI := hide h
  have HA := hide ha
  obtain ⟨b, off, rfl, hb, hc⟩ := h (by omega)
  obtain ⟨c0, c1, c2, c3, c4, c5⟩ := hc a _ ha
  dsimp only at c0 c1 c2 c3 c4 c5
  have hal1 : ∀ j : Nat, (w.alloc (.cells #[.slice (some ⟨b, off, none⟩) l.length c, .slice As ns cs, .slice Al nk ck, .int .i64 g] 26)).cell? ⟨b, j, none⟩ = w.cell? ⟨b, j, none⟩ := fun j => (World.cell?_alloc_lt w _ ⟨b, j, none⟩ hb)
  replace c0 := (hal1 _).trans c0
  replace c1 := (hal1 _).trans c1
  replace c2 := (hal1 _).trans c2
  replace c3 := (hal1 _).trans c3
  replace c4 := (hal1 _).trans c4
  replace c5 := (hal1 _).trans c5
  have hws : IntKind.i64.wrap ((ns : Int) - 1) = (ns : Int) - 1 := wrap_id _ (by omega) (by omega)
  have hwk : IntKind.i64.wrap ((nk : Int) - 1) = (nk : Int) - 1 := wrap_id _ (by omega) (by omega)
  have hwa : IntKind.i64.wrap ((a : Int) + 1) = (a : Int) + 1 := wrap_id _ (by omega) (by omega)
  have BW : Below w.heap.size w ((w.alloc (.cells #[.slice (some ⟨b, off, none⟩) l.length c, .slice As ns cs, .slice Al nk ck, .int .i64 g] 26)).alloc (.cells #[.int .i64 (11), .int .i64 x, .int .i64 y, .int .i64 z, .int .i64 nd, .int .i64 ph] 37)) := below_al (below_al (Below.refl _ _) (Nat.le_refl _) _) (by simp) _
  have HB := hide BW
  clear hal1 hc h ha BW
  go_enter Tryd.func31, Tryd.ntmps31
  go_wp2_with fail
  refine (group_any _ (.slice As ns cs) (.slice Al nk ck) g x _).mono ?_
  rintro e v1 ⟨rfl, hv1⟩
  have HV1 := hide hv1
  obtain ⟨⟨k0, k1, k2, k3⟩, m1, m2, m3⟩ := boxes (unhide HV1)
  clear hv1
  cases q1 : withinB x 1 g
  · have Qq1 := hide q1
    clear q1
    go_wp2_with fail
    all_goals
      go_ret
      exact ⟨by simp_all [fitsB, unhide Qq1] <;> omega, (below_al (below_al (Below.refl _ _) (Nat.le_refl _) _) (by simp) _).trans ((unhide HV1).mono (by simp; omega))⟩
  · have Qq1 := hide q1
    clear q1
    go_wp2_with fail
    all_goals
      go_ret
      exact ⟨by simp_all [fitsB, unhide Qq1] <;> omega, (below_al (below_al (Below.refl _ _) (Nat.le_refl _) _) (by simp) _).trans ((unhide HV1).mono (by simp; omega))⟩
set_option maxRecDepth 100000 in
set_option maxHeartbeats 2000000 in
theorem fits_12 (x y z nd ph : Int) (ha : l[a]? = some ⟨12, x, y, z, nd, ph⟩) (hl : (l.length : Int) ≤ 9000000000000000000) (hs : (ns : Int) ≤ 9000000000000000000) (hk : (nk : Int) ≤ 9000000000000000000) (h : Ins w w.heap.size A l) :
    Calls Tryd.prog 31 #[.agg #[.slice A l.length c, .slice As ns cs, .slice Al nk ck, .int .i64 g], .int .i64 (a : Int)] w fun e w' => e = .returned (.bool (fitsB l ns nk g a ⟨12, x, y, z, nd, ph⟩)) ∧ Below w.heap.size w w' := by
  have hlt : a < l.length := (List.getElem?_eq_some_iff.1 ha).1
  have HI := hide h
  have HA := hide ha
  obtain ⟨b, off, rfl, hb, hc⟩ := h (by omega)
  obtain ⟨c0, c1, c2, c3, c4, c5⟩ := hc a _ ha
  dsimp only at c0 c1 c2 c3 c4 c5
  have hal1 : ∀ j : Nat, (w.alloc (.cells #[.slice (some ⟨b, off, none⟩) l.length c, .slice As ns cs, .slice Al nk ck, .int .i64 g] 26)).cell? ⟨b, j, none⟩ = w.cell? ⟨b, j, none⟩ := fun j => (World.cell?_alloc_lt w _ ⟨b, j, none⟩ hb)
  replace c0 := (hal1 _).trans c0
  replace c1 := (hal1 _).trans c1
  replace c2 := (hal1 _).trans c2
  replace c3 := (hal1 _).trans c3
  replace c4 := (hal1 _).trans c4
  replace c5 := (hal1 _).trans c5
  have hws : IntKind.i64.wrap ((ns : Int) - 1) = (ns : Int) - 1 := wrap_id _ (by omega) (by omega)
  have hwk : IntKind.i64.wrap ((nk : Int) - 1) = (nk : Int) - 1 := wrap_id _ (by omega) (by omega)
  have hwa : IntKind.i64.wrap ((a : Int) + 1) = (a : Int) + 1 := wrap_id _ (by omega) (by omega)
  have BW : Below w.heap.size w ((w.alloc (.cells #[.slice (some ⟨b, off, none⟩) l.length c, .slice As ns cs, .slice Al nk ck, .int .i64 g] 26)).alloc (.cells #[.int .i64 (12), .int .i64 x, .int .i64 y, .int .i64 z, .int .i64 nd, .int .i64 ph] 37)) := below_al (below_al (Below.refl _ _) (Nat.le_refl _) _) (by simp) _
  have HB := hide BW
  clear hal1 hc h ha BW
  go_enter Tryd.func31, Tryd.ntmps31
  go_wp2_with fail
  refine (group_any _ (.slice As ns cs) (.slice Al nk ck) g x _).mono ?_
  rintro e v1 ⟨rfl, hv1⟩
  have HV1 := hide hv1
  obtain ⟨⟨k0, k1, k2, k3⟩, m1, m2, m3⟩ := boxes (unhide HV1)
  clear hv1
  cases q1 : withinB x 1 g
  · have Qq1 := hide q1
    clear q1
    go_wp2_with fail
    all_goals
      go_ret
      exact ⟨by simp_all [fitsB, unhide Qq1] <;> omega, (below_al (below_al (Below.refl _ _) (Nat.le_refl _) _) (by simp) _).trans ((unhide HV1).mono (by simp; omega))⟩
  · have Qq1 := hide q1
    clear q1
    go_wp2_with fail
    all_goals
      go_ret
      exact ⟨by simp_all [fitsB, unhide Qq1] <;> omega, (below_al (below_al (Below.refl _ _) (Nat.le_refl _) _) (by simp) _).trans ((unhide HV1).mono (by simp; omega))⟩
set_option maxRecDepth 100000 in
set_option maxHeartbeats 2000000 in
theorem fits_13a (y z nd ph : Int) (ha : l[a]? = some ⟨13, -1, y, z, nd, ph⟩) (hl : (l.length : Int) ≤ 9000000000000000000) (hs : (ns : Int) ≤ 9000000000000000000) (hk : (nk : Int) ≤ 9000000000000000000) (h : Ins w w.heap.size A l) :
    Calls Tryd.prog 31 #[.agg #[.slice A l.length c, .slice As ns cs, .slice Al nk ck, .int .i64 g], .int .i64 (a : Int)] w fun e w' => e = .returned (.bool (fitsB l ns nk g a ⟨13, -1, y, z, nd, ph⟩)) ∧ Below w.heap.size w w' := by
  have hlt : a < l.length := (List.getElem?_eq_some_iff.1 ha).1
  have HI := hide h
  have HA := hide ha
  obtain ⟨b, off, rfl, hb, hc⟩ := h (by omega)
  obtain ⟨c0, c1, c2, c3, c4, c5⟩ := hc a _ ha
  dsimp only at c0 c1 c2 c3 c4 c5
  have hal1 : ∀ j : Nat, (w.alloc (.cells #[.slice (some ⟨b, off, none⟩) l.length c, .slice As ns cs, .slice Al nk ck, .int .i64 g] 26)).cell? ⟨b, j, none⟩ = w.cell? ⟨b, j, none⟩ := fun j => (World.cell?_alloc_lt w _ ⟨b, j, none⟩ hb)
  replace c0 := (hal1 _).trans c0
  replace c1 := (hal1 _).trans c1
  replace c2 := (hal1 _).trans c2
  replace c3 := (hal1 _).trans c3
  replace c4 := (hal1 _).trans c4
  replace c5 := (hal1 _).trans c5
  have hws : IntKind.i64.wrap ((ns : Int) - 1) = (ns : Int) - 1 := wrap_id _ (by omega) (by omega)
  have hwk : IntKind.i64.wrap ((nk : Int) - 1) = (nk : Int) - 1 := wrap_id _ (by omega) (by omega)
  have hwa : IntKind.i64.wrap ((a : Int) + 1) = (a : Int) + 1 := wrap_id _ (by omega) (by omega)
  have BW : Below w.heap.size w ((w.alloc (.cells #[.slice (some ⟨b, off, none⟩) l.length c, .slice As ns cs, .slice Al nk ck, .int .i64 g] 26)).alloc (.cells #[.int .i64 (13), .int .i64 (-1), .int .i64 y, .int .i64 z, .int .i64 nd, .int .i64 ph] 37)) := below_al (below_al (Below.refl _ _) (Nat.le_refl _) _) (by simp) _
  have HB := hide BW
  clear hal1 hc h ha BW
  go_enter Tryd.func31, Tryd.ntmps31
  go_wp2_with fail
  all_goals
    go_ret
    exact ⟨by simp_all [fitsB] <;> omega, below_al (below_al (Below.refl _ _) (Nat.le_refl _) _) (by simp) _⟩
set_option maxRecDepth 100000 in
set_option maxHeartbeats 2000000 in
theorem fits_13b (x y z nd ph : Int) (ex : (x == -1) = false) (ha : l[a]? = some ⟨13, x, y, z, nd, ph⟩) (hl : (l.length : Int) ≤ 9000000000000000000) (hs : (ns : Int) ≤ 9000000000000000000) (hk : (nk : Int) ≤ 9000000000000000000) (h : Ins w w.heap.size A l) :
    Calls Tryd.prog 31 #[.agg #[.slice A l.length c, .slice As ns cs, .slice Al nk ck, .int .i64 g], .int .i64 (a : Int)] w fun e w' => e = .returned (.bool (fitsB l ns nk g a ⟨13, x, y, z, nd, ph⟩)) ∧ Below w.heap.size w w' := by
  have hlt : a < l.length := (List.getElem?_eq_some_iff.1 ha).1
  have HI := hide h
  have HA := hide ha
  obtain ⟨b, off, rfl, hb, hc⟩ := h (by omega)
  obtain ⟨c0, c1, c2, c3, c4, c5⟩ := hc a _ ha
  dsimp only at c0 c1 c2 c3 c4 c5
  have hal1 : ∀ j : Nat, (w.alloc (.cells #[.slice (some ⟨b, off, none⟩) l.length c, .slice As ns cs, .slice Al nk ck, .int .i64 g] 26)).cell? ⟨b, j, none⟩ = w.cell? ⟨b, j, none⟩ := fun j => (World.cell?_alloc_lt w _ ⟨b, j, none⟩ hb)
  replace c0 := (hal1 _).trans c0
  replace c1 := (hal1 _).trans c1
  replace c2 := (hal1 _).trans c2
  replace c3 := (hal1 _).trans c3
  replace c4 := (hal1 _).trans c4
  replace c5 := (hal1 _).trans c5
  have hws : IntKind.i64.wrap ((ns : Int) - 1) = (ns : Int) - 1 := wrap_id _ (by omega) (by omega)
  have hwk : IntKind.i64.wrap ((nk : Int) - 1) = (nk : Int) - 1 := wrap_id _ (by omega) (by omega)
  have hwa : IntKind.i64.wrap ((a : Int) + 1) = (a : Int) + 1 := wrap_id _ (by omega) (by omega)
  have BW : Below w.heap.size w ((w.alloc (.cells #[.slice (some ⟨b, off, none⟩) l.length c, .slice As ns cs, .slice Al nk ck, .int .i64 g] 26)).alloc (.cells #[.int .i64 (13), .int .i64 x, .int .i64 y, .int .i64 z, .int .i64 nd, .int .i64 ph] 37)) := below_al (below_al (Below.refl _ _) (Nat.le_refl _) _) (by simp) _
  have HB := hide BW
  clear hal1 hc h ha BW
  go_enter Tryd.func31, Tryd.ntmps31
  go_wp2_with fail
  refine (aheadL_any l (.slice As ns cs) (.slice Al nk ck) _ c g a (x) _).mono ?_
  rintro e v1 ⟨rfl, hv1⟩
  have HV1 := hide hv1
  obtain ⟨⟨k0, k1, k2, k3⟩, m1, m2, m3⟩ := boxes (unhide HV1)
  clear hv1
  cases q1 : aheadB l a (x)
  · have Qq1 := hide q1
    clear q1
    go_wp2_with fail
    all_goals
      go_ret
      exact ⟨by simp_all [fitsB, ex, unhide Qq1] <;> omega, (below_al (below_al (Below.refl _ _) (Nat.le_refl _) _) (by simp) _).trans ((unhide HV1).mono (by simp; omega))⟩
  · have Qq1 := hide q1
    clear q1
    go_wp2_with fail
    all_goals
      go_ret
      exact ⟨by simp_all [fitsB, ex, unhide Qq1] <;> omega, (below_al (below_al (Below.refl _ _) (Nat.le_refl _) _) (by simp) _).trans ((unhide HV1).mono (by simp; omega))⟩
set_option maxRecDepth 100000 in
set_option maxHeartbeats 2000000 in
theorem fits_14 (x y z nd ph : Int) (ha : l[a]? = some ⟨14, x, y, z, nd, ph⟩) (hl : (l.length : Int) ≤ 9000000000000000000) (hs : (ns : Int) ≤ 9000000000000000000) (hk : (nk : Int) ≤ 9000000000000000000) (h : Ins w w.heap.size A l) :
    Calls Tryd.prog 31 #[.agg #[.slice A l.length c, .slice As ns cs, .slice Al nk ck, .int .i64 g], .int .i64 (a : Int)] w fun e w' => e = .returned (.bool (fitsB l ns nk g a ⟨14, x, y, z, nd, ph⟩)) ∧ Below w.heap.size w w' := by
  have hlt : a < l.length := (List.getElem?_eq_some_iff.1 ha).1
  have HI := hide h
  have HA := hide ha
  obtain ⟨b, off, rfl, hb, hc⟩ := h (by omega)
  obtain ⟨c0, c1, c2, c3, c4, c5⟩ := hc a _ ha
  dsimp only at c0 c1 c2 c3 c4 c5
  have hal1 : ∀ j : Nat, (w.alloc (.cells #[.slice (some ⟨b, off, none⟩) l.length c, .slice As ns cs, .slice Al nk ck, .int .i64 g] 26)).cell? ⟨b, j, none⟩ = w.cell? ⟨b, j, none⟩ := fun j => (World.cell?_alloc_lt w _ ⟨b, j, none⟩ hb)
  replace c0 := (hal1 _).trans c0
  replace c1 := (hal1 _).trans c1
  replace c2 := (hal1 _).trans c2
  replace c3 := (hal1 _).trans c3
  replace c4 := (hal1 _).trans c4
  replace c5 := (hal1 _).trans c5
  have hws : IntKind.i64.wrap ((ns : Int) - 1) = (ns : Int) - 1 := wrap_id _ (by omega) (by omega)
  have hwk : IntKind.i64.wrap ((nk : Int) - 1) = (nk : Int) - 1 := wrap_id _ (by omega) (by omega)
  have hwa : IntKind.i64.wrap ((a : Int) + 1) = (a : Int) + 1 := wrap_id _ (by omega) (by omega)
  have BW : Below w.heap.size w ((w.alloc (.cells #[.slice (some ⟨b, off, none⟩) l.length c, .slice As ns cs, .slice Al nk ck, .int .i64 g] 26)).alloc (.cells #[.int .i64 (14), .int .i64 x, .int .i64 y, .int .i64 z, .int .i64 nd, .int .i64 ph] 37)) := below_al (below_al (Below.refl _ _) (Nat.le_refl _) _) (by simp) _
  have HB := hide BW
  clear hal1 hc h ha BW
  go_enter Tryd.func31, Tryd.ntmps31
  go_wp2_with fail
  refine (within_any x 0 _ _).mono ?_
  rintro e v1 ⟨rfl, rfl⟩
  cases q1 : withinB x 0 (y)
  · have Qq1 := hide q1
    clear q1
    go_wp2_with fail
    all_goals
      go_ret
      exact ⟨by simp_all [fitsB, unhide Qq1] <;> omega, below_al (below_al (Below.refl _ _) (Nat.le_refl _) _) (by simp) _⟩
  · have Qq1 := hide q1
    clear q1
    go_wp2_with fail
    all_goals
      go_ret
      exact ⟨by simp_all [fitsB, unhide Qq1] <;> omega, below_al (below_al (Below.refl _ _) (Nat.le_refl _) _) (by simp) _⟩
set_option maxRecDepth 100000 in
set_option maxHeartbeats 2000000 in
theorem fits_rest (op x y z nd ph : Int) (e1 : (op == 1) = false) (e2 : (op == 2) = false) (e3 : (op == 3) = false) (e4 : (op == 4) = false) (e5 : (op == 5) = false) (e6 : (op == 6) = false) (e7 : (op == 7) = false) (e8 : (op == 8) = false) (e9 : (op == 9) = false) (e10 : (op == 10) = false) (e11 : (op == 11) = false) (e12 : (op == 12) = false) (e13 : (op == 13) = false) (e14 : (op == 14) = false) (ha : l[a]? = some ⟨op, x, y, z, nd, ph⟩) (hl : (l.length : Int) ≤ 9000000000000000000) (hs : (ns : Int) ≤ 9000000000000000000) (hk : (nk : Int) ≤ 9000000000000000000) (h : Ins w w.heap.size A l) :
    Calls Tryd.prog 31 #[.agg #[.slice A l.length c, .slice As ns cs, .slice Al nk ck, .int .i64 g], .int .i64 (a : Int)] w fun e w' => e = .returned (.bool (fitsB l ns nk g a ⟨op, x, y, z, nd, ph⟩)) ∧ Below w.heap.size w w' := by
  have hlt : a < l.length := (List.getElem?_eq_some_iff.1 ha).1
  have HI := hide h
  have HA := hide ha
  obtain ⟨b, off, rfl, hb, hc⟩ := h (by omega)
  obtain ⟨c0, c1, c2, c3, c4, c5⟩ := hc a _ ha
  dsimp only at c0 c1 c2 c3 c4 c5
  have hal1 : ∀ j : Nat, (w.alloc (.cells #[.slice (some ⟨b, off, none⟩) l.length c, .slice As ns cs, .slice Al nk ck, .int .i64 g] 26)).cell? ⟨b, j, none⟩ = w.cell? ⟨b, j, none⟩ := fun j => (World.cell?_alloc_lt w _ ⟨b, j, none⟩ hb)
  replace c0 := (hal1 _).trans c0
  replace c1 := (hal1 _).trans c1
  replace c2 := (hal1 _).trans c2
  replace c3 := (hal1 _).trans c3
  replace c4 := (hal1 _).trans c4
  replace c5 := (hal1 _).trans c5
  have hws : IntKind.i64.wrap ((ns : Int) - 1) = (ns : Int) - 1 := wrap_id _ (by omega) (by omega)
  have hwk : IntKind.i64.wrap ((nk : Int) - 1) = (nk : Int) - 1 := wrap_id _ (by omega) (by omega)
  have hwa : IntKind.i64.wrap ((a : Int) + 1) = (a : Int) + 1 := wrap_id _ (by omega) (by omega)
  have BW : Below w.heap.size w ((w.alloc (.cells #[.slice (some ⟨b, off, none⟩) l.length c, .slice As ns cs, .slice Al nk ck, .int .i64 g] 26)).alloc (.cells #[.int .i64 (op), .int .i64 x, .int .i64 y, .int .i64 z, .int .i64 nd, .int .i64 ph] 37)) := below_al (below_al (Below.refl _ _) (Nat.le_refl _) _) (by simp) _
  have HB := hide BW
  clear hal1 hc h ha BW
  have n : ¬ op = 1 ∧ ¬ op = 2 ∧ ¬ op = 3 ∧ ¬ op = 4 ∧ ¬ op = 5 ∧ ¬ op = 6 ∧ ¬ op = 7 ∧ ¬ op = 8 ∧ ¬ op = 9 ∧ ¬ op = 10 ∧ ¬ op = 11 ∧ ¬ op = 12 ∧ ¬ op = 13 ∧ ¬ op = 14 := by simpa using And.intro e1 (And.intro e2 (And.intro e3 (And.intro e4 (And.intro e5 (And.intro e6 (And.intro e7 (And.intro e8 (And.intro e9 (And.intro e10 (And.intro e11 (And.intro e12 (And.intro e13 e14))))))))))))
  have N := hide n
  clear n
  go_enter Tryd.func31, Tryd.ntmps31
  go_wp2_with fail
  all_goals
    go_ret
    exact ⟨by simp_all [fitsB, unhide N] <;> omega, below_al (below_al (Below.refl _ _) (Nat.le_refl _) _) (by simp) _⟩
end
end Go.Proofs.YtiaelaepfhiabaaDoor.Co
