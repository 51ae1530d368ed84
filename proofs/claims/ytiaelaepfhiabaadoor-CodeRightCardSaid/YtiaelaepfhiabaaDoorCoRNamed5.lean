/-
  clewref11's named, walked, an Op a theorem (6, 7, 8, 9). Condition: the instructions lie in memory, the place is one of theirs.
-/
import Derived.Test.YtiaelaepfhiabaaDoorCoRNamed1
import Derived.StillTailTactics
set_option linter.unusedVariables false
set_option linter.unusedSimpArgs false
namespace Go.Proofs.YtiaelaepfhiabaaDoor.Co
open Go.RowKit Go.Proofs.YtiaelaepfhiabaaDoor.Mem Go.Proofs.YtiaelaepfhiabaaDoor.Rs
attribute [local go_sem] run_not_true run_not_false
section
variable (l : List In) (As Al : Option Addr) (A : Option Addr) (c ns cs nk ck : Nat) (g : Int) (a : Nat) (w : World)
set_option maxRecDepth 100000 in
set_option maxHeartbeats 2000000 in
theorem rn_6_z (x y z nd ph : Int) (ez : (z != 0) = true) (ha : l[a]? = some ⟨6, x, y, z, nd, ph⟩) (hl : (l.length : Int) ≤ 9000000000000000000) (hs : (ns : Int) ≤ 9000000000000000000) (hk : (nk : Int) ≤ 9000000000000000000) (h : Ins w w.heap.size A l) :
    Calls Tryd.prog 19 #[.agg #[.slice A l.length c, .slice As ns cs, .slice Al nk ck, .int .i64 g], .int .i64 (a : Int)] w fun e w' => e = .returned (.bool (fitsB l ns nk g a ⟨6, x, y, z, nd, ph⟩)) ∧ Below w.heap.size w w' := by
  have hlt : a < l.length := (List.getElem?_eq_some_iff.1 ha).1
  have HI := hide h
  have HA := hide ha
  obtain ⟨b, off, rfl, hb, hc⟩ := h (by omega)
  obtain ⟨c0, c1, c2, c3, c4, c5⟩ := hc a _ ha
  dsimp only at c0 c1 c2 c3 c4 c5
  have hal1 : ∀ j : Nat, (w.alloc (.cells #[.slice (some ⟨b, off, none⟩) l.length c, .slice As ns cs, .slice Al nk ck, .int .i64 g] 33)).cell? ⟨b, j, none⟩ = w.cell? ⟨b, j, none⟩ := fun j => (World.cell?_alloc_lt w _ ⟨b, j, none⟩ hb)
  have hal2 : ∀ j : Nat, ((w.alloc (.cells #[.slice (some ⟨b, off, none⟩) l.length c, .slice As ns cs, .slice Al nk ck, .int .i64 g] 33)).alloc (.cells #[.int .i64 (6), .int .i64 (x), .int .i64 (y), .int .i64 (z), .int .i64 nd, .int .i64 ph] 48)).cell? ⟨b, j, none⟩ = w.cell? ⟨b, j, none⟩ := fun j => (World.cell?_alloc_lt _ _ ⟨b, j, none⟩ (by simp; omega)).trans (hal1 j)
  have HC := hide hc
  have HAL := hide hal2
  replace c0 := (hal1 _).trans c0
  replace c1 := (hal1 _).trans c1
  replace c2 := (hal1 _).trans c2
  replace c3 := (hal1 _).trans c3
  replace c4 := (hal1 _).trans c4
  replace c5 := (hal1 _).trans c5
  have hws : IntKind.i64.wrap ((ns : Int) - 1) = (ns : Int) - 1 := wrap_id _ (by omega) (by omega)
  have hwk : IntKind.i64.wrap ((nk : Int) - 1) = (nk : Int) - 1 := wrap_id _ (by omega) (by omega)
  have hwa : IntKind.i64.wrap ((a : Int) + 1) = (a : Int) + 1 := wrap_id _ (by omega) (by omega)
  have hwb : IntKind.i64.wrap ((a : Int) - 1) = (a : Int) - 1 := wrap_id _ (by omega) (by omega)
  clear hal1 hal2 hc h ha
  go_enter Tryd.func19, Tryd.ntmps19
  go_wp2_with fail
  all_goals
    go_ret
    exact ⟨by simp_all [fitsB], below_al (below_al (Below.refl _ _) (Nat.le_refl _) _) (by simp) _⟩
set_option maxRecDepth 100000 in
set_option maxHeartbeats 2000000 in
theorem rn_6_y (x y nd ph : Int) (ey : (y != 0) = true) (ha : l[a]? = some ⟨6, x, y, 0, nd, ph⟩) (hl : (l.length : Int) ≤ 9000000000000000000) (hs : (ns : Int) ≤ 9000000000000000000) (hk : (nk : Int) ≤ 9000000000000000000) (h : Ins w w.heap.size A l) :
    Calls Tryd.prog 19 #[.agg #[.slice A l.length c, .slice As ns cs, .slice Al nk ck, .int .i64 g], .int .i64 (a : Int)] w fun e w' => e = .returned (.bool (fitsB l ns nk g a ⟨6, x, y, 0, nd, ph⟩)) ∧ Below w.heap.size w w' := by
  have hlt : a < l.length := (List.getElem?_eq_some_iff.1 ha).1
  have HI := hide h
  have HA := hide ha
  obtain ⟨b, off, rfl, hb, hc⟩ := h (by omega)
  obtain ⟨c0, c1, c2, c3, c4, c5⟩ := hc a _ ha
  dsimp only at c0 c1 c2 c3 c4 c5
  have hal1 : ∀ j : Nat, (w.alloc (.cells #[.slice (some ⟨b, off, none⟩) l.length c, .slice As ns cs, .slice Al nk ck, .int .i64 g] 33)).cell? ⟨b, j, none⟩ = w.cell? ⟨b, j, none⟩ := fun j => (World.cell?_alloc_lt w _ ⟨b, j, none⟩ hb)
  have hal2 : ∀ j : Nat, ((w.alloc (.cells #[.slice (some ⟨b, off, none⟩) l.length c, .slice As ns cs, .slice Al nk ck, .int .i64 g] 33)).alloc (.cells #[.int .i64 (6), .int .i64 (x), .int .i64 (y), .int .i64 (0), .int .i64 nd, .int .i64 ph] 48)).cell? ⟨b, j, none⟩ = w.cell? ⟨b, j, none⟩ := fun j => (World.cell?_alloc_lt _ _ ⟨b, j, none⟩ (by simp; omega)).trans (hal1 j)
  have HC := hide hc
  have HAL := hide hal2
  replace c0 := (hal1 _).trans c0
  replace c1 := (hal1 _).trans c1
  replace c2 := (hal1 _).trans c2
  replace c3 := (hal1 _).trans c3
  replace c4 := (hal1 _).trans c4
  replace c5 := (hal1 _).trans c5
  have hws : IntKind.i64.wrap ((ns : Int) - 1) = (ns : Int) - 1 := wrap_id _ (by omega) (by omega)
  have hwk : IntKind.i64.wrap ((nk : Int) - 1) = (nk : Int) - 1 := wrap_id _ (by omega) (by omega)
  have hwa : IntKind.i64.wrap ((a : Int) + 1) = (a : Int) + 1 := wrap_id _ (by omega) (by omega)
  have hwb : IntKind.i64.wrap ((a : Int) - 1) = (a : Int) - 1 := wrap_id _ (by omega) (by omega)
  clear hal1 hal2 hc h ha
  go_enter Tryd.func19, Tryd.ntmps19
  go_wp2_with fail
  all_goals
    go_ret
    exact ⟨by simp_all [fitsB], below_al (below_al (Below.refl _ _) (Nat.le_refl _) _) (by simp) _⟩
set_option maxRecDepth 100000 in
set_option maxHeartbeats 2000000 in
theorem rn_6_m (x nd ph : Int) (ha : l[a]? = some ⟨6, x, 0, 0, nd, ph⟩) (hl : (l.length : Int) ≤ 9000000000000000000) (hs : (ns : Int) ≤ 9000000000000000000) (hk : (nk : Int) ≤ 9000000000000000000) (h : Ins w w.heap.size A l) :
    Calls Tryd.prog 19 #[.agg #[.slice A l.length c, .slice As ns cs, .slice Al nk ck, .int .i64 g], .int .i64 (a : Int)] w fun e w' => e = .returned (.bool (fitsB l ns nk g a ⟨6, x, 0, 0, nd, ph⟩)) ∧ Below w.heap.size w w' := by
  have hlt : a < l.length := (List.getElem?_eq_some_iff.1 ha).1
  have HI := hide h
  have HA := hide ha
  obtain ⟨b, off, rfl, hb, hc⟩ := h (by omega)
  obtain ⟨c0, c1, c2, c3, c4, c5⟩ := hc a _ ha
  dsimp only at c0 c1 c2 c3 c4 c5
  have hal1 : ∀ j : Nat, (w.alloc (.cells #[.slice (some ⟨b, off, none⟩) l.length c, .slice As ns cs, .slice Al nk ck, .int .i64 g] 33)).cell? ⟨b, j, none⟩ = w.cell? ⟨b, j, none⟩ := fun j => (World.cell?_alloc_lt w _ ⟨b, j, none⟩ hb)
  have hal2 : ∀ j : Nat, ((w.alloc (.cells #[.slice (some ⟨b, off, none⟩) l.length c, .slice As ns cs, .slice Al nk ck, .int .i64 g] 33)).alloc (.cells #[.int .i64 (6), .int .i64 (x), .int .i64 (0), .int .i64 (0), .int .i64 nd, .int .i64 ph] 48)).cell? ⟨b, j, none⟩ = w.cell? ⟨b, j, none⟩ := fun j => (World.cell?_alloc_lt _ _ ⟨b, j, none⟩ (by simp; omega)).trans (hal1 j)
  have HC := hide hc
  have HAL := hide hal2
  replace c0 := (hal1 _).trans c0
  replace c1 := (hal1 _).trans c1
  replace c2 := (hal1 _).trans c2
  replace c3 := (hal1 _).trans c3
  replace c4 := (hal1 _).trans c4
  replace c5 := (hal1 _).trans c5
  have hws : IntKind.i64.wrap ((ns : Int) - 1) = (ns : Int) - 1 := wrap_id _ (by omega) (by omega)
  have hwk : IntKind.i64.wrap ((nk : Int) - 1) = (nk : Int) - 1 := wrap_id _ (by omega) (by omega)
  have hwa : IntKind.i64.wrap ((a : Int) + 1) = (a : Int) + 1 := wrap_id _ (by omega) (by omega)
  have hwb : IntKind.i64.wrap ((a : Int) - 1) = (a : Int) - 1 := wrap_id _ (by omega) (by omega)
  clear hal1 hal2 hc h ha
  go_enter Tryd.func19, Tryd.ntmps19
  go_wp2_with fail
  refine (raheadL_any l (.slice As ns cs) (.slice Al nk ck) _ c g a (x) _).mono ?_
  rintro e v1 ⟨rfl, hv1⟩
  have HV1 := hide hv1
  obtain ⟨⟨k0, k1, k2, k3⟩, m1, m2, m3⟩ := rboxes (unhide HV1)
  clear hv1
  generalize hqq1 : aheadB l a (x) = bq1
  have Qq1 := hide hqq1
  clear hqq1
  go_wp2_with fail
  all_goals
    go_ret
    exact ⟨by simp_all [fitsB, unhide Qq1] <;> omega, (below_al (below_al (Below.refl _ _) (Nat.le_refl _) _) (by simp) _).trans ((unhide HV1).mono (by simp; omega))⟩
set_option maxRecDepth 100000 in
set_option maxHeartbeats 2000000 in
theorem rn_7_z (x y z nd ph : Int) (ez : (z != 0) = true) (ha : l[a]? = some ⟨7, x, y, z, nd, ph⟩) (hl : (l.length : Int) ≤ 9000000000000000000) (hs : (ns : Int) ≤ 9000000000000000000) (hk : (nk : Int) ≤ 9000000000000000000) (h : Ins w w.heap.size A l) :
    Calls Tryd.prog 19 #[.agg #[.slice A l.length c, .slice As ns cs, .slice Al nk ck, .int .i64 g], .int .i64 (a : Int)] w fun e w' => e = .returned (.bool (fitsB l ns nk g a ⟨7, x, y, z, nd, ph⟩)) ∧ Below w.heap.size w w' := by
  have hlt : a < l.length := (List.getElem?_eq_some_iff.1 ha).1
  have HI := hide h
  have HA := hide ha
  obtain ⟨b, off, rfl, hb, hc⟩ := h (by omega)
  obtain ⟨c0, c1, c2, c3, c4, c5⟩ := hc a _ ha
  dsimp only at c0 c1 c2 c3 c4 c5
  have hal1 : ∀ j : Nat, (w.alloc (.cells #[.slice (some ⟨b, off, none⟩) l.length c, .slice As ns cs, .slice Al nk ck, .int .i64 g] 33)).cell? ⟨b, j, none⟩ = w.cell? ⟨b, j, none⟩ := fun j => (World.cell?_alloc_lt w _ ⟨b, j, none⟩ hb)
  have hal2 : ∀ j : Nat, ((w.alloc (.cells #[.slice (some ⟨b, off, none⟩) l.length c, .slice As ns cs, .slice Al nk ck, .int .i64 g] 33)).alloc (.cells #[.int .i64 (7), .int .i64 (x), .int .i64 (y), .int .i64 (z), .int .i64 nd, .int .i64 ph] 48)).cell? ⟨b, j, none⟩ = w.cell? ⟨b, j, none⟩ := fun j => (World.cell?_alloc_lt _ _ ⟨b, j, none⟩ (by simp; omega)).trans (hal1 j)
  have HC := hide hc
  have HAL := hide hal2
  replace c0 := (hal1 _).trans c0
  replace c1 := (hal1 _).trans c1
  replace c2 := (hal1 _).trans c2
  replace c3 := (hal1 _).trans c3
  replace c4 := (hal1 _).trans c4
  replace c5 := (hal1 _).trans c5
  have hws : IntKind.i64.wrap ((ns : Int) - 1) = (ns : Int) - 1 := wrap_id _ (by omega) (by omega)
  have hwk : IntKind.i64.wrap ((nk : Int) - 1) = (nk : Int) - 1 := wrap_id _ (by omega) (by omega)
  have hwa : IntKind.i64.wrap ((a : Int) + 1) = (a : Int) + 1 := wrap_id _ (by omega) (by omega)
  have hwb : IntKind.i64.wrap ((a : Int) - 1) = (a : Int) - 1 := wrap_id _ (by omega) (by omega)
  clear hal1 hal2 hc h ha
  go_enter Tryd.func19, Tryd.ntmps19
  go_wp2_with fail
  all_goals
    go_ret
    exact ⟨by simp_all [fitsB], below_al (below_al (Below.refl _ _) (Nat.le_refl _) _) (by simp) _⟩
set_option maxRecDepth 100000 in
set_option maxHeartbeats 2000000 in
theorem rn_7_y (x y nd ph : Int) (ey : (y != 0) = true) (ha : l[a]? = some ⟨7, x, y, 0, nd, ph⟩) (hl : (l.length : Int) ≤ 9000000000000000000) (hs : (ns : Int) ≤ 9000000000000000000) (hk : (nk : Int) ≤ 9000000000000000000) (h : Ins w w.heap.size A l) :
    Calls Tryd.prog 19 #[.agg #[.slice A l.length c, .slice As ns cs, .slice Al nk ck, .int .i64 g], .int .i64 (a : Int)] w fun e w' => e = .returned (.bool (fitsB l ns nk g a ⟨7, x, y, 0, nd, ph⟩)) ∧ Below w.heap.size w w' := by
  have hlt : a < l.length := (List.getElem?_eq_some_iff.1 ha).1
  have HI := hide h
  have HA := hide ha
  obtain ⟨b, off, rfl, hb, hc⟩ := h (by omega)
  obtain ⟨c0, c1, c2, c3, c4, c5⟩ := hc a _ ha
  dsimp only at c0 c1 c2 c3 c4 c5
  have hal1 : ∀ j : Nat, (w.alloc (.cells #[.slice (some ⟨b, off, none⟩) l.length c, .slice As ns cs, .slice Al nk ck, .int .i64 g] 33)).cell? ⟨b, j, none⟩ = w.cell? ⟨b, j, none⟩ := fun j => (World.cell?_alloc_lt w _ ⟨b, j, none⟩ hb)
  have hal2 : ∀ j : Nat, ((w.alloc (.cells #[.slice (some ⟨b, off, none⟩) l.length c, .slice As ns cs, .slice Al nk ck, .int .i64 g] 33)).alloc (.cells #[.int .i64 (7), .int .i64 (x), .int .i64 (y), .int .i64 (0), .int .i64 nd, .int .i64 ph] 48)).cell? ⟨b, j, none⟩ = w.cell? ⟨b, j, none⟩ := fun j => (World.cell?_alloc_lt _ _ ⟨b, j, none⟩ (by simp; omega)).trans (hal1 j)
  have HC := hide hc
  have HAL := hide hal2
  replace c0 := (hal1 _).trans c0
  replace c1 := (hal1 _).trans c1
  replace c2 := (hal1 _).trans c2
  replace c3 := (hal1 _).trans c3
  replace c4 := (hal1 _).trans c4
  replace c5 := (hal1 _).trans c5
  have hws : IntKind.i64.wrap ((ns : Int) - 1) = (ns : Int) - 1 := wrap_id _ (by omega) (by omega)
  have hwk : IntKind.i64.wrap ((nk : Int) - 1) = (nk : Int) - 1 := wrap_id _ (by omega) (by omega)
  have hwa : IntKind.i64.wrap ((a : Int) + 1) = (a : Int) + 1 := wrap_id _ (by omega) (by omega)
  have hwb : IntKind.i64.wrap ((a : Int) - 1) = (a : Int) - 1 := wrap_id _ (by omega) (by omega)
  clear hal1 hal2 hc h ha
  go_enter Tryd.func19, Tryd.ntmps19
  go_wp2_with fail
  all_goals
    go_ret
    exact ⟨by simp_all [fitsB], below_al (below_al (Below.refl _ _) (Nat.le_refl _) _) (by simp) _⟩
set_option maxRecDepth 100000 in
set_option maxHeartbeats 2000000 in
theorem rn_7_m (x nd ph : Int) (ha : l[a]? = some ⟨7, x, 0, 0, nd, ph⟩) (hl : (l.length : Int) ≤ 9000000000000000000) (hs : (ns : Int) ≤ 9000000000000000000) (hk : (nk : Int) ≤ 9000000000000000000) (h : Ins w w.heap.size A l) :
    Calls Tryd.prog 19 #[.agg #[.slice A l.length c, .slice As ns cs, .slice Al nk ck, .int .i64 g], .int .i64 (a : Int)] w fun e w' => e = .returned (.bool (fitsB l ns nk g a ⟨7, x, 0, 0, nd, ph⟩)) ∧ Below w.heap.size w w' := by
  have hlt : a < l.length := (List.getElem?_eq_some_iff.1 ha).1
  have HI := hide h
  have HA := hide ha
  obtain ⟨b, off, rfl, hb, hc⟩ := h (by omega)
  obtain ⟨c0, c1, c2, c3, c4, c5⟩ := hc a _ ha
  dsimp only at c0 c1 c2 c3 c4 c5
  have hal1 : ∀ j : Nat, (w.alloc (.cells #[.slice (some ⟨b, off, none⟩) l.length c, .slice As ns cs, .slice Al nk ck, .int .i64 g] 33)).cell? ⟨b, j, none⟩ = w.cell? ⟨b, j, none⟩ := fun j => (World.cell?_alloc_lt w _ ⟨b, j, none⟩ hb)
  have hal2 : ∀ j : Nat, ((w.alloc (.cells #[.slice (some ⟨b, off, none⟩) l.length c, .slice As ns cs, .slice Al nk ck, .int .i64 g] 33)).alloc (.cells #[.int .i64 (7), .int .i64 (x), .int .i64 (0), .int .i64 (0), .int .i64 nd, .int .i64 ph] 48)).cell? ⟨b, j, none⟩ = w.cell? ⟨b, j, none⟩ := fun j => (World.cell?_alloc_lt _ _ ⟨b, j, none⟩ (by simp; omega)).trans (hal1 j)
  have HC := hide hc
  have HAL := hide hal2
  replace c0 := (hal1 _).trans c0
  replace c1 := (hal1 _).trans c1
  replace c2 := (hal1 _).trans c2
  replace c3 := (hal1 _).trans c3
  replace c4 := (hal1 _).trans c4
  replace c5 := (hal1 _).trans c5
  have hws : IntKind.i64.wrap ((ns : Int) - 1) = (ns : Int) - 1 := wrap_id _ (by omega) (by omega)
  have hwk : IntKind.i64.wrap ((nk : Int) - 1) = (nk : Int) - 1 := wrap_id _ (by omega) (by omega)
  have hwa : IntKind.i64.wrap ((a : Int) + 1) = (a : Int) + 1 := wrap_id _ (by omega) (by omega)
  have hwb : IntKind.i64.wrap ((a : Int) - 1) = (a : Int) - 1 := wrap_id _ (by omega) (by omega)
  clear hal1 hal2 hc h ha
  go_enter Tryd.func19, Tryd.ntmps19
  go_wp2_with fail
  refine (rin_any (x) (0) _ _).mono ?_
  rintro e v1 ⟨rfl, rfl⟩
  generalize hqq1 : withinB (x) (0) ((nk : Int) - 1) = bq1
  have Qq1 := hide hqq1
  clear hqq1
  go_wp2_with fail
  all_goals
    go_ret
    exact ⟨by simp_all [fitsB, unhide Qq1] <;> omega, below_al (below_al (Below.refl _ _) (Nat.le_refl _) _) (by simp) _⟩
set_option maxRecDepth 100000 in
set_option maxHeartbeats 2000000 in
theorem rn_8_m (x y z nd ph : Int) (ha : l[a]? = some ⟨8, x, y, z, nd, ph⟩) (hl : (l.length : Int) ≤ 9000000000000000000) (hs : (ns : Int) ≤ 9000000000000000000) (hk : (nk : Int) ≤ 9000000000000000000) (h : Ins w w.heap.size A l) :
    Calls Tryd.prog 19 #[.agg #[.slice A l.length c, .slice As ns cs, .slice Al nk ck, .int .i64 g], .int .i64 (a : Int)] w fun e w' => e = .returned (.bool (fitsB l ns nk g a ⟨8, x, y, z, nd, ph⟩)) ∧ Below w.heap.size w w' := by
  have hlt : a < l.length := (List.getElem?_eq_some_iff.1 ha).1
  have HI := hide h
  have HA := hide ha
  obtain ⟨b, off, rfl, hb, hc⟩ := h (by omega)
  obtain ⟨c0, c1, c2, c3, c4, c5⟩ := hc a _ ha
  dsimp only at c0 c1 c2 c3 c4 c5
  have hal1 : ∀ j : Nat, (w.alloc (.cells #[.slice (some ⟨b, off, none⟩) l.length c, .slice As ns cs, .slice Al nk ck, .int .i64 g] 33)).cell? ⟨b, j, none⟩ = w.cell? ⟨b, j, none⟩ := fun j => (World.cell?_alloc_lt w _ ⟨b, j, none⟩ hb)
  have hal2 : ∀ j : Nat, ((w.alloc (.cells #[.slice (some ⟨b, off, none⟩) l.length c, .slice As ns cs, .slice Al nk ck, .int .i64 g] 33)).alloc (.cells #[.int .i64 (8), .int .i64 (x), .int .i64 (y), .int .i64 (z), .int .i64 nd, .int .i64 ph] 48)).cell? ⟨b, j, none⟩ = w.cell? ⟨b, j, none⟩ := fun j => (World.cell?_alloc_lt _ _ ⟨b, j, none⟩ (by simp; omega)).trans (hal1 j)
  have HC := hide hc
  have HAL := hide hal2
  replace c0 := (hal1 _).trans c0
  replace c1 := (hal1 _).trans c1
  replace c2 := (hal1 _).trans c2
  replace c3 := (hal1 _).trans c3
  replace c4 := (hal1 _).trans c4
  replace c5 := (hal1 _).trans c5
  have hws : IntKind.i64.wrap ((ns : Int) - 1) = (ns : Int) - 1 := wrap_id _ (by omega) (by omega)
  have hwk : IntKind.i64.wrap ((nk : Int) - 1) = (nk : Int) - 1 := wrap_id _ (by omega) (by omega)
  have hwa : IntKind.i64.wrap ((a : Int) + 1) = (a : Int) + 1 := wrap_id _ (by omega) (by omega)
  have hwb : IntKind.i64.wrap ((a : Int) - 1) = (a : Int) - 1 := wrap_id _ (by omega) (by omega)
  clear hal1 hal2 hc h ha
  go_enter Tryd.func19, Tryd.ntmps19
  go_wp2_with fail
  refine (rin_any (x) (0) _ _).mono ?_
  rintro e v1 ⟨rfl, rfl⟩
  cases q1 : withinB (x) (0) ((nk : Int) - 1)
  · have Qq1 := hide q1
    clear q1
    go_wp2_with fail
    all_goals
      go_ret
      exact ⟨by simp_all [fitsB, unhide Qq1] <;> omega, below_al (below_al (Below.refl _ _) (Nat.le_refl _) _) (by simp) _⟩
  · have Qq1 := hide q1
    clear q1
    go_wp2_with fail
    refine (raheadL_any l (.slice As ns cs) (.slice Al nk ck) _ c g a (y) _).mono ?_
    rintro e v2 ⟨rfl, hv2⟩
    have HV2 := hide hv2
    obtain ⟨⟨k0, k1, k2, k3⟩, m1, m2, m3⟩ := rboxes (unhide HV2)
    clear hv2
    cases q2 : aheadB l a (y)
    · have Qq2 := hide q2
      clear q2
      go_wp2_with fail
      all_goals
        go_ret
        exact ⟨by simp_all [fitsB, unhide Qq1, unhide Qq2] <;> omega, (below_al (below_al (Below.refl _ _) (Nat.le_refl _) _) (by simp) _).trans ((unhide HV2).mono (by simp; omega))⟩
    · have Qq2 := hide q2
      clear q2
      go_wp2_with fail
      refine (raheadL_any l (.slice As ns cs) (.slice Al nk ck) _ c g a (z) _).mono ?_
      rintro e v3 ⟨rfl, hv3⟩
      have HV3 := hide ((unhide HV2).trans (hv3.mono (unhide HV2).size))
      obtain ⟨⟨k0, k1, k2, k3⟩, m1, m2, m3⟩ := rboxes (unhide HV3)
      clear hv3
      cases q3 : aheadB l a (z)
      · have Qq3 := hide q3
        clear q3
        go_wp2_with fail
        all_goals
          go_ret
          exact ⟨by simp_all [fitsB, unhide Qq1, unhide Qq2, unhide Qq3] <;> omega, (below_al (below_al (Below.refl _ _) (Nat.le_refl _) _) (by simp) _).trans ((unhide HV3).mono (by simp; omega))⟩
      · have Qq3 := hide q3
        clear q3
        go_wp2_with fail
        refine (rway_any l (.slice As ns cs) (.slice Al nk ck) _ c g a ((a : Int) + 1) _ (by omega) (ins_at (unhide HV3) (unhide HI))).mono ?_
        rintro e v4 ⟨rfl, hv4⟩
        have HV4 := hide ((unhide HV3).trans (hv4.mono (unhide HV3).size))
        obtain ⟨⟨k0, k1, k2, k3⟩, m1, m2, m3⟩ := rboxes (unhide HV4)
        clear hv4
        generalize hqq4 : wayB l a ((a : Int) + 1) = bq4
        have Qq4 := hide hqq4
        clear hqq4
        go_wp2_with fail
        all_goals
          go_ret
          exact ⟨by simp_all [fitsB, unhide Qq1, unhide Qq2, unhide Qq3, unhide Qq4] <;> omega, (below_al (below_al (Below.refl _ _) (Nat.le_refl _) _) (by simp) _).trans ((unhide HV4).mono (by simp; omega))⟩
set_option maxRecDepth 100000 in
set_option maxHeartbeats 2000000 in
theorem rn_9_z (x y z nd ph : Int) (ez : (z != 0) = true) (ha : l[a]? = some ⟨9, x, y, z, nd, ph⟩) (hl : (l.length : Int) ≤ 9000000000000000000) (hs : (ns : Int) ≤ 9000000000000000000) (hk : (nk : Int) ≤ 9000000000000000000) (h : Ins w w.heap.size A l) :
    Calls Tryd.prog 19 #[.agg #[.slice A l.length c, .slice As ns cs, .slice Al nk ck, .int .i64 g], .int .i64 (a : Int)] w fun e w' => e = .returned (.bool (fitsB l ns nk g a ⟨9, x, y, z, nd, ph⟩)) ∧ Below w.heap.size w w' := by
  have hlt : a < l.length := (List.getElem?_eq_some_iff.1 ha).1
  have HI := hide h
  have HA := hide ha
  obtain ⟨b, off, rfl, hb, hc⟩ := h (by omega)
  obtain ⟨c0, c1, c2, c3, c4, c5⟩ := hc a _ ha
  dsimp only at c0 c1 c2 c3 c4 c5
  have hal1 : ∀ j : Nat, (w.alloc (.cells #[.slice (some ⟨b, off, none⟩) l.length c, .slice As ns cs, .slice Al nk ck, .int .i64 g] 33)).cell? ⟨b, j, none⟩ = w.cell? ⟨b, j, none⟩ := fun j => (World.cell?_alloc_lt w _ ⟨b, j, none⟩ hb)
  have hal2 : ∀ j : Nat, ((w.alloc (.cells #[.slice (some ⟨b, off, none⟩) l.length c, .slice As ns cs, .slice Al nk ck, .int .i64 g] 33)).alloc (.cells #[.int .i64 (9), .int .i64 (x), .int .i64 (y), .int .i64 (z), .int .i64 nd, .int .i64 ph] 48)).cell? ⟨b, j, none⟩ = w.cell? ⟨b, j, none⟩ := fun j => (World.cell?_alloc_lt _ _ ⟨b, j, none⟩ (by simp; omega)).trans (hal1 j)
  have HC := hide hc
  have HAL := hide hal2
  replace c0 := (hal1 _).trans c0
  replace c1 := (hal1 _).trans c1
  replace c2 := (hal1 _).trans c2
  replace c3 := (hal1 _).trans c3
  replace c4 := (hal1 _).trans c4
  replace c5 := (hal1 _).trans c5
  have hws : IntKind.i64.wrap ((ns : Int) - 1) = (ns : Int) - 1 := wrap_id _ (by omega) (by omega)
  have hwk : IntKind.i64.wrap ((nk : Int) - 1) = (nk : Int) - 1 := wrap_id _ (by omega) (by omega)
  have hwa : IntKind.i64.wrap ((a : Int) + 1) = (a : Int) + 1 := wrap_id _ (by omega) (by omega)
  have hwb : IntKind.i64.wrap ((a : Int) - 1) = (a : Int) - 1 := wrap_id _ (by omega) (by omega)
  clear hal1 hal2 hc h ha
  go_enter Tryd.func19, Tryd.ntmps19
  go_wp2_with fail
  all_goals
    go_ret
    exact ⟨by simp_all [fitsB], below_al (below_al (Below.refl _ _) (Nat.le_refl _) _) (by simp) _⟩
set_option maxRecDepth 100000 in
set_option maxHeartbeats 2000000 in
theorem rn_9_y (x y nd ph : Int) (ey : (y != 0) = true) (ha : l[a]? = some ⟨9, x, y, 0, nd, ph⟩) (hl : (l.length : Int) ≤ 9000000000000000000) (hs : (ns : Int) ≤ 9000000000000000000) (hk : (nk : Int) ≤ 9000000000000000000) (h : Ins w w.heap.size A l) :
    Calls Tryd.prog 19 #[.agg #[.slice A l.length c, .slice As ns cs, .slice Al nk ck, .int .i64 g], .int .i64 (a : Int)] w fun e w' => e = .returned (.bool (fitsB l ns nk g a ⟨9, x, y, 0, nd, ph⟩)) ∧ Below w.heap.size w w' := by
  have hlt : a < l.length := (List.getElem?_eq_some_iff.1 ha).1
  have HI := hide h
  have HA := hide ha
  obtain ⟨b, off, rfl, hb, hc⟩ := h (by omega)
  obtain ⟨c0, c1, c2, c3, c4, c5⟩ := hc a _ ha
  dsimp only at c0 c1 c2 c3 c4 c5
  have hal1 : ∀ j : Nat, (w.alloc (.cells #[.slice (some ⟨b, off, none⟩) l.length c, .slice As ns cs, .slice Al nk ck, .int .i64 g] 33)).cell? ⟨b, j, none⟩ = w.cell? ⟨b, j, none⟩ := fun j => (World.cell?_alloc_lt w _ ⟨b, j, none⟩ hb)
  have hal2 : ∀ j : Nat, ((w.alloc (.cells #[.slice (some ⟨b, off, none⟩) l.length c, .slice As ns cs, .slice Al nk ck, .int .i64 g] 33)).alloc (.cells #[.int .i64 (9), .int .i64 (x), .int .i64 (y), .int .i64 (0), .int .i64 nd, .int .i64 ph] 48)).cell? ⟨b, j, none⟩ = w.cell? ⟨b, j, none⟩ := fun j => (World.cell?_alloc_lt _ _ ⟨b, j, none⟩ (by simp; omega)).trans (hal1 j)
  have HC := hide hc
  have HAL := hide hal2
  replace c0 := (hal1 _).trans c0
  replace c1 := (hal1 _).trans c1
  replace c2 := (hal1 _).trans c2
  replace c3 := (hal1 _).trans c3
  replace c4 := (hal1 _).trans c4
  replace c5 := (hal1 _).trans c5
  have hws : IntKind.i64.wrap ((ns : Int) - 1) = (ns : Int) - 1 := wrap_id _ (by omega) (by omega)
  have hwk : IntKind.i64.wrap ((nk : Int) - 1) = (nk : Int) - 1 := wrap_id _ (by omega) (by omega)
  have hwa : IntKind.i64.wrap ((a : Int) + 1) = (a : Int) + 1 := wrap_id _ (by omega) (by omega)
  have hwb : IntKind.i64.wrap ((a : Int) - 1) = (a : Int) - 1 := wrap_id _ (by omega) (by omega)
  clear hal1 hal2 hc h ha
  go_enter Tryd.func19, Tryd.ntmps19
  go_wp2_with fail
  all_goals
    go_ret
    exact ⟨by simp_all [fitsB], below_al (below_al (Below.refl _ _) (Nat.le_refl _) _) (by simp) _⟩
set_option maxRecDepth 100000 in
set_option maxHeartbeats 2000000 in
theorem rn_9_m (x nd ph : Int) (ha : l[a]? = some ⟨9, x, 0, 0, nd, ph⟩) (hl : (l.length : Int) ≤ 9000000000000000000) (hs : (ns : Int) ≤ 9000000000000000000) (hk : (nk : Int) ≤ 9000000000000000000) (h : Ins w w.heap.size A l) :
    Calls Tryd.prog 19 #[.agg #[.slice A l.length c, .slice As ns cs, .slice Al nk ck, .int .i64 g], .int .i64 (a : Int)] w fun e w' => e = .returned (.bool (fitsB l ns nk g a ⟨9, x, 0, 0, nd, ph⟩)) ∧ Below w.heap.size w w' := by
  have hlt : a < l.length := (List.getElem?_eq_some_iff.1 ha).1
  have HI := hide h
  have HA := hide ha
  obtain ⟨b, off, rfl, hb, hc⟩ := h (by omega)
  obtain ⟨c0, c1, c2, c3, c4, c5⟩ := hc a _ ha
  dsimp only at c0 c1 c2 c3 c4 c5
  have hal1 : ∀ j : Nat, (w.alloc (.cells #[.slice (some ⟨b, off, none⟩) l.length c, .slice As ns cs, .slice Al nk ck, .int .i64 g] 33)).cell? ⟨b, j, none⟩ = w.cell? ⟨b, j, none⟩ := fun j => (World.cell?_alloc_lt w _ ⟨b, j, none⟩ hb)
  have hal2 : ∀ j : Nat, ((w.alloc (.cells #[.slice (some ⟨b, off, none⟩) l.length c, .slice As ns cs, .slice Al nk ck, .int .i64 g] 33)).alloc (.cells #[.int .i64 (9), .int .i64 (x), .int .i64 (0), .int .i64 (0), .int .i64 nd, .int .i64 ph] 48)).cell? ⟨b, j, none⟩ = w.cell? ⟨b, j, none⟩ := fun j => (World.cell?_alloc_lt _ _ ⟨b, j, none⟩ (by simp; omega)).trans (hal1 j)
  have HC := hide hc
  have HAL := hide hal2
  replace c0 := (hal1 _).trans c0
  replace c1 := (hal1 _).trans c1
  replace c2 := (hal1 _).trans c2
  replace c3 := (hal1 _).trans c3
  replace c4 := (hal1 _).trans c4
  replace c5 := (hal1 _).trans c5
  have hws : IntKind.i64.wrap ((ns : Int) - 1) = (ns : Int) - 1 := wrap_id _ (by omega) (by omega)
  have hwk : IntKind.i64.wrap ((nk : Int) - 1) = (nk : Int) - 1 := wrap_id _ (by omega) (by omega)
  have hwa : IntKind.i64.wrap ((a : Int) + 1) = (a : Int) + 1 := wrap_id _ (by omega) (by omega)
  have hwb : IntKind.i64.wrap ((a : Int) - 1) = (a : Int) - 1 := wrap_id _ (by omega) (by omega)
  clear hal1 hal2 hc h ha
  go_enter Tryd.func19, Tryd.ntmps19
  go_wp2_with fail
  refine (rin_any (x) (0) _ _).mono ?_
  rintro e v1 ⟨rfl, rfl⟩
  generalize hqq1 : withinB (x) (0) ((nk : Int) - 1) = bq1
  have Qq1 := hide hqq1
  clear hqq1
  go_wp2_with fail
  all_goals
    go_ret
    exact ⟨by simp_all [fitsB, unhide Qq1] <;> omega, below_al (below_al (Below.refl _ _) (Nat.le_refl _) _) (by simp) _⟩
end
end Go.Proofs.YtiaelaepfhiabaaDoor.Co
