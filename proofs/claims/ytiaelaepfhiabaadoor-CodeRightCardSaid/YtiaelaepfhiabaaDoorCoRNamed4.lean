/-
  clewref11's named, walked, an Op a theorem (15, 16, 17, 18, 19). Condition: the instructions lie in memory, the place is one of theirs.
-/
import Derived.Test.YtiaelaepfhiabaaDoorCoRNamed1
import Derived.StillTailTactics
set_option linter.unusedVariables false
set_option linter.unusedSimpArgs false
namespace Go.Proofs.YtiaelaepfhiabaaDoor.Co
open Go.RowKit Go.Proofs.YtiaelaepfhiabaaDoor.Mem Go.Proofs.YtiaelaepfhiabaaDoor.Rs
attribute [local go_sem] run_not_true run_not_false
section
variable (l : List In) (As Al : Option Addr) (A : Option Addr) (c ns cs nk ck : Nat) (g : Int) (a : Nat) (w : World)
set_option maxRecDepth 100000 in
set_option maxHeartbeats 2000000 in
theorem rn_15_z (x y z nd ph : Int) (ez : (z != 0) = true) (ha : l[a]? = some ⟨15, x, y, z, nd, ph⟩) (hl : (l.length : Int) ≤ 9000000000000000000) (hs : (ns : Int) ≤ 9000000000000000000) (hk : (nk : Int) ≤ 9000000000000000000) (h : Ins w w.heap.size A l) :
    Calls Tryd.prog 19 #[.agg #[.slice A l.length c, .slice As ns cs, .slice Al nk ck, .int .i64 g], .int .i64 (a : Int)] w fun e w' => e = .returned (.bool (fitsB l ns nk g a ⟨15, x, y, z, nd, ph⟩)) ∧ Below w.heap.size w w' := by
  have hlt : a < l.length := (List.getElem?_eq_some_iff.1 ha).1
  have HI := hide h
  have HA := hide ha
  obtain ⟨b, off, rfl, hb, hc⟩ := h (by omega)
  obtain ⟨c0, c1, c2, c3, c4, c5⟩ := hc a _ ha
  dsimp only at c0 c1 c2 c3 c4 c5
  have hal1 : ∀ j : Nat, (w.alloc (.cells #[.slice (some ⟨b, off, none⟩) l.length c, .slice As ns cs, .slice Al nk ck, .int .i64 g] 33)).cell? ⟨b, j, none⟩ = w.cell? ⟨b, j, none⟩ := fun j => (World.cell?_alloc_lt w _ ⟨b, j, none⟩ hb)
  have hal2 : ∀ j : Nat, ((w.alloc (.cells #[.slice (some ⟨b, off, none⟩) l.length c, .slice As ns cs, .slice Al nk ck, .int .i64 g] 33)).alloc (.cells #[.int .i64 (15), .int .i64 (x), .int .i64 (y), .int .i64 (z), .int .i64 nd, .int .i64 ph] 48)).cell? ⟨b, j, none⟩ = w.cell? ⟨b, j, none⟩ := fun j => (World.cell?_alloc_lt _ _ ⟨b, j, none⟩ (by simp; omega)).trans (hal1 j)
  have HC := hide hc
  have HAL := hide hal2
  replace c0 := (hal1 _).trans c0
  replace c1 := (hal1 _).trans c1
  replace c2 := (hal1 _).trans c2
  replace c3 := (hal1 _).trans c3
  replace c4 := (hal1 _).trans c4
  replace c5 := (hal1 _).trans c5
  have hws : IntKind.i64.wrap ((ns : Int) - 1) = (ns : Int) - 1 := wrap_id _ (by omega) (by omega)
  have hwk : IntKind.i64.wrap ((nk : Int) - 1) = (nk : Int) - 1 := wrap_id _ (by omega) (by omega)
  have hwa : IntKind.i64.wrap ((a : Int) + 1) = (a : Int) + 1 := wrap_id _ (by omega) (by omega)
  have hwb : IntKind.i64.wrap ((a : Int) - 1) = (a : Int) - 1 := wrap_id _ (by omega) (by omega)
  clear hal1 hal2 hc h ha
  go_enter Tryd.func19, Tryd.ntmps19
  go_wp2_with fail
  all_goals
    go_ret
    exact ⟨by simp_all [fitsB], below_al (below_al (Below.refl _ _) (Nat.le_refl _) _) (by simp) _⟩
set_option maxRecDepth 100000 in
set_option maxHeartbeats 2000000 in
theorem rn_15_y (x y nd ph : Int) (ey : (y != 0) = true) (ha : l[a]? = some ⟨15, x, y, 0, nd, ph⟩) (hl : (l.length : Int) ≤ 9000000000000000000) (hs : (ns : Int) ≤ 9000000000000000000) (hk : (nk : Int) ≤ 9000000000000000000) (h : Ins w w.heap.size A l) :
    Calls Tryd.prog 19 #[.agg #[.slice A l.length c, .slice As ns cs, .slice Al nk ck, .int .i64 g], .int .i64 (a : Int)] w fun e w' => e = .returned (.bool (fitsB l ns nk g a ⟨15, x, y, 0, nd, ph⟩)) ∧ Below w.heap.size w w' := by
  have hlt : a < l.length := (List.getElem?_eq_some_iff.1 ha).1
  have HI := hide h
  have HA := hide ha
  obtain ⟨b, off, rfl, hb, hc⟩ := h (by omega)
  obtain ⟨c0, c1, c2, c3, c4, c5⟩ := hc a _ ha
  dsimp only at c0 c1 c2 c3 c4 c5
  have hal1 : ∀ j : Nat, (w.alloc (.cells #[.slice (some ⟨b, off, none⟩) l.length c, .slice As ns cs, .slice Al nk ck, .int .i64 g] 33)).cell? ⟨b, j, none⟩ = w.cell? ⟨b, j, none⟩ := fun j => (World.cell?_alloc_lt w _ ⟨b, j, none⟩ hb)
  have hal2 : ∀ j : Nat, ((w.alloc (.cells #[.slice (some ⟨b, off, none⟩) l.length c, .slice As ns cs, .slice Al nk ck, .int .i64 g] 33)).alloc (.cells #[.int .i64 (15), .int .i64 (x), .int .i64 (y), .int .i64 (0), .int .i64 nd, .int .i64 ph] 48)).cell? ⟨b, j, none⟩ = w.cell? ⟨b, j, none⟩ := fun j => (World.cell?_alloc_lt _ _ ⟨b, j, none⟩ (by simp; omega)).trans (hal1 j)
  have HC := hide hc
  have HAL := hide hal2
  replace c0 := (hal1 _).trans c0
  replace c1 := (hal1 _).trans c1
  replace c2 := (hal1 _).trans c2
  replace c3 := (hal1 _).trans c3
  replace c4 := (hal1 _).trans c4
  replace c5 := (hal1 _).trans c5
  have hws : IntKind.i64.wrap ((ns : Int) - 1) = (ns : Int) - 1 := wrap_id _ (by omega) (by omega)
  have hwk : IntKind.i64.wrap ((nk : Int) - 1) = (nk : Int) - 1 := wrap_id _ (by omega) (by omega)
  have hwa : IntKind.i64.wrap ((a : Int) + 1) = (a : Int) + 1 := wrap_id _ (by omega) (by omega)
  have hwb : IntKind.i64.wrap ((a : Int) - 1) = (a : Int) - 1 := wrap_id _ (by omega) (by omega)
  clear hal1 hal2 hc h ha
  go_enter Tryd.func19, Tryd.ntmps19
  go_wp2_with fail
  all_goals
    go_ret
    exact ⟨by simp_all [fitsB], below_al (below_al (Below.refl _ _) (Nat.le_refl _) _) (by simp) _⟩
set_option maxRecDepth 100000 in
set_option maxHeartbeats 2000000 in
theorem rn_15_m (x nd ph : Int) (ha : l[a]? = some ⟨15, x, 0, 0, nd, ph⟩) (hl : (l.length : Int) ≤ 9000000000000000000) (hs : (ns : Int) ≤ 9000000000000000000) (hk : (nk : Int) ≤ 9000000000000000000) (h : Ins w w.heap.size A l) :
    Calls Tryd.prog 19 #[.agg #[.slice A l.length c, .slice As ns cs, .slice Al nk ck, .int .i64 g], .int .i64 (a : Int)] w fun e w' => e = .returned (.bool (fitsB l ns nk g a ⟨15, x, 0, 0, nd, ph⟩)) ∧ Below w.heap.size w w' := by
  have hlt : a < l.length := (List.getElem?_eq_some_iff.1 ha).1
  have HI := hide h
  have HA := hide ha
  obtain ⟨b, off, rfl, hb, hc⟩ := h (by omega)
  obtain ⟨c0, c1, c2, c3, c4, c5⟩ := hc a _ ha
  dsimp only at c0 c1 c2 c3 c4 c5
  have hal1 : ∀ j : Nat, (w.alloc (.cells #[.slice (some ⟨b, off, none⟩) l.length c, .slice As ns cs, .slice Al nk ck, .int .i64 g] 33)).cell? ⟨b, j, none⟩ = w.cell? ⟨b, j, none⟩ := fun j => (World.cell?_alloc_lt w _ ⟨b, j, none⟩ hb)
  have hal2 : ∀ j : Nat, ((w.alloc (.cells #[.slice (some ⟨b, off, none⟩) l.length c, .slice As ns cs, .slice Al nk ck, .int .i64 g] 33)).alloc (.cells #[.int .i64 (15), .int .i64 (x), .int .i64 (0), .int .i64 (0), .int .i64 nd, .int .i64 ph] 48)).cell? ⟨b, j, none⟩ = w.cell? ⟨b, j, none⟩ := fun j => (World.cell?_alloc_lt _ _ ⟨b, j, none⟩ (by simp; omega)).trans (hal1 j)
  have HC := hide hc
  have HAL := hide hal2
  replace c0 := (hal1 _).trans c0
  replace c1 := (hal1 _).trans c1
  replace c2 := (hal1 _).trans c2
  replace c3 := (hal1 _).trans c3
  replace c4 := (hal1 _).trans c4
  replace c5 := (hal1 _).trans c5
  have hws : IntKind.i64.wrap ((ns : Int) - 1) = (ns : Int) - 1 := wrap_id _ (by omega) (by omega)
  have hwk : IntKind.i64.wrap ((nk : Int) - 1) = (nk : Int) - 1 := wrap_id _ (by omega) (by omega)
  have hwa : IntKind.i64.wrap ((a : Int) + 1) = (a : Int) + 1 := wrap_id _ (by omega) (by omega)
  have hwb : IntKind.i64.wrap ((a : Int) - 1) = (a : Int) - 1 := wrap_id _ (by omega) (by omega)
  clear hal1 hal2 hc h ha
  go_enter Tryd.func19, Tryd.ntmps19
  go_wp2_with fail
  all_goals
    go_ret
    exact ⟨by simp_all [fitsB] <;> omega, below_al (below_al (Below.refl _ _) (Nat.le_refl _) _) (by simp) _⟩
set_option maxRecDepth 100000 in
set_option maxHeartbeats 2000000 in
theorem rn_16_z (x y z nd ph : Int) (ez : (z != 0) = true) (ha : l[a]? = some ⟨16, x, y, z, nd, ph⟩) (hl : (l.length : Int) ≤ 9000000000000000000) (hs : (ns : Int) ≤ 9000000000000000000) (hk : (nk : Int) ≤ 9000000000000000000) (h : Ins w w.heap.size A l) :
    Calls Tryd.prog 19 #[.agg #[.slice A l.length c, .slice As ns cs, .slice Al nk ck, .int .i64 g], .int .i64 (a : Int)] w fun e w' => e = .returned (.bool (fitsB l ns nk g a ⟨16, x, y, z, nd, ph⟩)) ∧ Below w.heap.size w w' := by
  have hlt : a < l.length := (List.getElem?_eq_some_iff.1 ha).1
  have HI := hide h
  have HA := hide ha
  obtain ⟨b, off, rfl, hb, hc⟩ := h (by omega)
  obtain ⟨c0, c1, c2, c3, c4, c5⟩ := hc a _ ha
  dsimp only at c0 c1 c2 c3 c4 c5
  have hal1 : ∀ j : Nat, (w.alloc (.cells #[.slice (some ⟨b, off, none⟩) l.length c, .slice As ns cs, .slice Al nk ck, .int .i64 g] 33)).cell? ⟨b, j, none⟩ = w.cell? ⟨b, j, none⟩ := fun j => (World.cell?_alloc_lt w _ ⟨b, j, none⟩ hb)
  have hal2 : ∀ j : Nat, ((w.alloc (.cells #[.slice (some ⟨b, off, none⟩) l.length c, .slice As ns cs, .slice Al nk ck, .int .i64 g] 33)).alloc (.cells #[.int .i64 (16), .int .i64 (x), .int .i64 (y), .int .i64 (z), .int .i64 nd, .int .i64 ph] 48)).cell? ⟨b, j, none⟩ = w.cell? ⟨b, j, none⟩ := fun j => (World.cell?_alloc_lt _ _ ⟨b, j, none⟩ (by simp; omega)).trans (hal1 j)
  have HC := hide hc
  have HAL := hide hal2
  replace c0 := (hal1 _).trans c0
  replace c1 := (hal1 _).trans c1
  replace c2 := (hal1 _).trans c2
  replace c3 := (hal1 _).trans c3
  replace c4 := (hal1 _).trans c4
  replace c5 := (hal1 _).trans c5
  have hws : IntKind.i64.wrap ((ns : Int) - 1) = (ns : Int) - 1 := wrap_id _ (by omega) (by omega)
  have hwk : IntKind.i64.wrap ((nk : Int) - 1) = (nk : Int) - 1 := wrap_id _ (by omega) (by omega)
  have hwa : IntKind.i64.wrap ((a : Int) + 1) = (a : Int) + 1 := wrap_id _ (by omega) (by omega)
  have hwb : IntKind.i64.wrap ((a : Int) - 1) = (a : Int) - 1 := wrap_id _ (by omega) (by omega)
  clear hal1 hal2 hc h ha
  go_enter Tryd.func19, Tryd.ntmps19
  go_wp2_with fail
  all_goals
    go_ret
    exact ⟨by simp_all [fitsB], below_al (below_al (Below.refl _ _) (Nat.le_refl _) _) (by simp) _⟩
set_option maxRecDepth 100000 in
set_option maxHeartbeats 2000000 in
theorem rn_16_y (x y nd ph : Int) (ey : (y != 0) = true) (ha : l[a]? = some ⟨16, x, y, 0, nd, ph⟩) (hl : (l.length : Int) ≤ 9000000000000000000) (hs : (ns : Int) ≤ 9000000000000000000) (hk : (nk : Int) ≤ 9000000000000000000) (h : Ins w w.heap.size A l) :
    Calls Tryd.prog 19 #[.agg #[.slice A l.length c, .slice As ns cs, .slice Al nk ck, .int .i64 g], .int .i64 (a : Int)] w fun e w' => e = .returned (.bool (fitsB l ns nk g a ⟨16, x, y, 0, nd, ph⟩)) ∧ Below w.heap.size w w' := by
  have hlt : a < l.length := (List.getElem?_eq_some_iff.1 ha).1
  have HI := hide h
  have HA := hide ha
  obtain ⟨b, off, rfl, hb, hc⟩ := h (by omega)
  obtain ⟨c0, c1, c2, c3, c4, c5⟩ := hc a _ ha
  dsimp only at c0 c1 c2 c3 c4 c5
  have hal1 : ∀ j : Nat, (w.alloc (.cells #[.slice (some ⟨b, off, none⟩) l.length c, .slice As ns cs, .slice Al nk ck, .int .i64 g] 33)).cell? ⟨b, j, none⟩ = w.cell? ⟨b, j, none⟩ := fun j => (World.cell?_alloc_lt w _ ⟨b, j, none⟩ hb)
  have hal2 : ∀ j : Nat, ((w.alloc (.cells #[.slice (some ⟨b, off, none⟩) l.length c, .slice As ns cs, .slice Al nk ck, .int .i64 g] 33)).alloc (.cells #[.int .i64 (16), .int .i64 (x), .int .i64 (y), .int .i64 (0), .int .i64 nd, .int .i64 ph] 48)).cell? ⟨b, j, none⟩ = w.cell? ⟨b, j, none⟩ := fun j => (World.cell?_alloc_lt _ _ ⟨b, j, none⟩ (by simp; omega)).trans (hal1 j)
  have HC := hide hc
  have HAL := hide hal2
  replace c0 := (hal1 _).trans c0
  replace c1 := (hal1 _).trans c1
  replace c2 := (hal1 _).trans c2
  replace c3 := (hal1 _).trans c3
  replace c4 := (hal1 _).trans c4
  replace c5 := (hal1 _).trans c5
  have hws : IntKind.i64.wrap ((ns : Int) - 1) = (ns : Int) - 1 := wrap_id _ (by omega) (by omega)
  have hwk : IntKind.i64.wrap ((nk : Int) - 1) = (nk : Int) - 1 := wrap_id _ (by omega) (by omega)
  have hwa : IntKind.i64.wrap ((a : Int) + 1) = (a : Int) + 1 := wrap_id _ (by omega) (by omega)
  have hwb : IntKind.i64.wrap ((a : Int) - 1) = (a : Int) - 1 := wrap_id _ (by omega) (by omega)
  clear hal1 hal2 hc h ha
  go_enter Tryd.func19, Tryd.ntmps19
  go_wp2_with fail
  all_goals
    go_ret
    exact ⟨by simp_all [fitsB], below_al (below_al (Below.refl _ _) (Nat.le_refl _) _) (by simp) _⟩
set_option maxRecDepth 100000 in
set_option maxHeartbeats 2000000 in
theorem rn_16_m (x nd ph : Int) (ha : l[a]? = some ⟨16, x, 0, 0, nd, ph⟩) (hl : (l.length : Int) ≤ 9000000000000000000) (hs : (ns : Int) ≤ 9000000000000000000) (hk : (nk : Int) ≤ 9000000000000000000) (h : Ins w w.heap.size A l) :
    Calls Tryd.prog 19 #[.agg #[.slice A l.length c, .slice As ns cs, .slice Al nk ck, .int .i64 g], .int .i64 (a : Int)] w fun e w' => e = .returned (.bool (fitsB l ns nk g a ⟨16, x, 0, 0, nd, ph⟩)) ∧ Below w.heap.size w w' := by
  have hlt : a < l.length := (List.getElem?_eq_some_iff.1 ha).1
  have HI := hide h
  have HA := hide ha
  obtain ⟨b, off, rfl, hb, hc⟩ := h (by omega)
  obtain ⟨c0, c1, c2, c3, c4, c5⟩ := hc a _ ha
  dsimp only at c0 c1 c2 c3 c4 c5
  have hal1 : ∀ j : Nat, (w.alloc (.cells #[.slice (some ⟨b, off, none⟩) l.length c, .slice As ns cs, .slice Al nk ck, .int .i64 g] 33)).cell? ⟨b, j, none⟩ = w.cell? ⟨b, j, none⟩ := fun j => (World.cell?_alloc_lt w _ ⟨b, j, none⟩ hb)
  have hal2 : ∀ j : Nat, ((w.alloc (.cells #[.slice (some ⟨b, off, none⟩) l.length c, .slice As ns cs, .slice Al nk ck, .int .i64 g] 33)).alloc (.cells #[.int .i64 (16), .int .i64 (x), .int .i64 (0), .int .i64 (0), .int .i64 nd, .int .i64 ph] 48)).cell? ⟨b, j, none⟩ = w.cell? ⟨b, j, none⟩ := fun j => (World.cell?_alloc_lt _ _ ⟨b, j, none⟩ (by simp; omega)).trans (hal1 j)
  have HC := hide hc
  have HAL := hide hal2
  replace c0 := (hal1 _).trans c0
  replace c1 := (hal1 _).trans c1
  replace c2 := (hal1 _).trans c2
  replace c3 := (hal1 _).trans c3
  replace c4 := (hal1 _).trans c4
  replace c5 := (hal1 _).trans c5
  have hws : IntKind.i64.wrap ((ns : Int) - 1) = (ns : Int) - 1 := wrap_id _ (by omega) (by omega)
  have hwk : IntKind.i64.wrap ((nk : Int) - 1) = (nk : Int) - 1 := wrap_id _ (by omega) (by omega)
  have hwa : IntKind.i64.wrap ((a : Int) + 1) = (a : Int) + 1 := wrap_id _ (by omega) (by omega)
  have hwb : IntKind.i64.wrap ((a : Int) - 1) = (a : Int) - 1 := wrap_id _ (by omega) (by omega)
  clear hal1 hal2 hc h ha
  go_enter Tryd.func19, Tryd.ntmps19
  go_wp2_with fail
  all_goals
    go_ret
    exact ⟨by simp_all [fitsB] <;> omega, below_al (below_al (Below.refl _ _) (Nat.le_refl _) _) (by simp) _⟩
set_option maxRecDepth 100000 in
set_option maxHeartbeats 2000000 in
theorem rn_17_z (x y z nd ph : Int) (ez : (z != 0) = true) (ha : l[a]? = some ⟨17, x, y, z, nd, ph⟩) (hl : (l.length : Int) ≤ 9000000000000000000) (hs : (ns : Int) ≤ 9000000000000000000) (hk : (nk : Int) ≤ 9000000000000000000) (h : Ins w w.heap.size A l) :
    Calls Tryd.prog 19 #[.agg #[.slice A l.length c, .slice As ns cs, .slice Al nk ck, .int .i64 g], .int .i64 (a : Int)] w fun e w' => e = .returned (.bool (fitsB l ns nk g a ⟨17, x, y, z, nd, ph⟩)) ∧ Below w.heap.size w w' := by
  have hlt : a < l.length := (List.getElem?_eq_some_iff.1 ha).1
  have HI := hide h
  have HA := hide ha
  obtain ⟨b, off, rfl, hb, hc⟩ := h (by omega)
  obtain ⟨c0, c1, c2, c3, c4, c5⟩ := hc a _ ha
  dsimp only at c0 c1 c2 c3 c4 c5
  have hal1 : ∀ j : Nat, (w.alloc (.cells #[.slice (some ⟨b, off, none⟩) l.length c, .slice As ns cs, .slice Al nk ck, .int .i64 g] 33)).cell? ⟨b, j, none⟩ = w.cell? ⟨b, j, none⟩ := fun j => (World.cell?_alloc_lt w _ ⟨b, j, none⟩ hb)
  have hal2 : ∀ j : Nat, ((w.alloc (.cells #[.slice (some ⟨b, off, none⟩) l.length c, .slice As ns cs, .slice Al nk ck, .int .i64 g] 33)).alloc (.cells #[.int .i64 (17), .int .i64 (x), .int .i64 (y), .int .i64 (z), .int .i64 nd, .int .i64 ph] 48)).cell? ⟨b, j, none⟩ = w.cell? ⟨b, j, none⟩ := fun j => (World.cell?_alloc_lt _ _ ⟨b, j, none⟩ (by simp; omega)).trans (hal1 j)
  have HC := hide hc
  have HAL := hide hal2
  replace c0 := (hal1 _).trans c0
  replace c1 := (hal1 _).trans c1
  replace c2 := (hal1 _).trans c2
  replace c3 := (hal1 _).trans c3
  replace c4 := (hal1 _).trans c4
  replace c5 := (hal1 _).trans c5
  have hws : IntKind.i64.wrap ((ns : Int) - 1) = (ns : Int) - 1 := wrap_id _ (by omega) (by omega)
  have hwk : IntKind.i64.wrap ((nk : Int) - 1) = (nk : Int) - 1 := wrap_id _ (by omega) (by omega)
  have hwa : IntKind.i64.wrap ((a : Int) + 1) = (a : Int) + 1 := wrap_id _ (by omega) (by omega)
  have hwb : IntKind.i64.wrap ((a : Int) - 1) = (a : Int) - 1 := wrap_id _ (by omega) (by omega)
  clear hal1 hal2 hc h ha
  go_enter Tryd.func19, Tryd.ntmps19
  go_wp2_with fail
  all_goals
    go_ret
    exact ⟨by simp_all [fitsB], below_al (below_al (Below.refl _ _) (Nat.le_refl _) _) (by simp) _⟩
set_option maxRecDepth 100000 in
set_option maxHeartbeats 2000000 in
theorem rn_17_y (x y nd ph : Int) (ey : (y != 0) = true) (ha : l[a]? = some ⟨17, x, y, 0, nd, ph⟩) (hl : (l.length : Int) ≤ 9000000000000000000) (hs : (ns : Int) ≤ 9000000000000000000) (hk : (nk : Int) ≤ 9000000000000000000) (h : Ins w w.heap.size A l) :
    Calls Tryd.prog 19 #[.agg #[.slice A l.length c, .slice As ns cs, .slice Al nk ck, .int .i64 g], .int .i64 (a : Int)] w fun e w' => e = .returned (.bool (fitsB l ns nk g a ⟨17, x, y, 0, nd, ph⟩)) ∧ Below w.heap.size w w' := by
  have hlt : a < l.length := (List.getElem?_eq_some_iff.1 ha).1
  have HI := hide h
  have HA := hide ha
  obtain ⟨b, off, rfl, hb, hc⟩ := h (by omega)
  obtain ⟨c0, c1, c2, c3, c4, c5⟩ := hc a _ ha
  dsimp only at c0 c1 c2 c3 c4 c5
  have hal1 : ∀ j : Nat, (w.alloc (.cells #[.slice (some ⟨b, off, none⟩) l.length c, .slice As ns cs, .slice Al nk ck, .int .i64 g] 33)).cell? ⟨b, j, none⟩ = w.cell? ⟨b, j, none⟩ := fun j => (World.cell?_alloc_lt w _ ⟨b, j, none⟩ hb)
  have hal2 : ∀ j : Nat, ((w.alloc (.cells #[.slice (some ⟨b, off, none⟩) l.length c, .slice As ns cs, .slice Al nk ck, .int .i64 g] 33)).alloc (.cells #[.int .i64 (17), .int .i64 (x), .int .i64 (y), .int .i64 (0), .int .i64 nd, .int .i64 ph] 48)).cell? ⟨b, j, none⟩ = w.cell? ⟨b, j, none⟩ := fun j => (World.cell?_alloc_lt _ _ ⟨b, j, none⟩ (by simp; omega)).trans (hal1 j)
  have HC := hide hc
  have HAL := hide hal2
  replace c0 := (hal1 _).trans c0
  replace c1 := (hal1 _).trans c1
  replace c2 := (hal1 _).trans c2
  replace c3 := (hal1 _).trans c3
  replace c4 := (hal1 _).trans c4
  replace c5 := (hal1 _).trans c5
  have hws : IntKind.i64.wrap ((ns : Int) - 1) = (ns : Int) - 1 := wrap_id _ (by omega) (by omega)
  have hwk : IntKind.i64.wrap ((nk : Int) - 1) = (nk : Int) - 1 := wrap_id _ (by omega) (by omega)
  have hwa : IntKind.i64.wrap ((a : Int) + 1) = (a : Int) + 1 := wrap_id _ (by omega) (by omega)
  have hwb : IntKind.i64.wrap ((a : Int) - 1) = (a : Int) - 1 := wrap_id _ (by omega) (by omega)
  clear hal1 hal2 hc h ha
  go_enter Tryd.func19, Tryd.ntmps19
  go_wp2_with fail
  all_goals
    go_ret
    exact ⟨by simp_all [fitsB], below_al (below_al (Below.refl _ _) (Nat.le_refl _) _) (by simp) _⟩
set_option maxRecDepth 100000 in
set_option maxHeartbeats 2000000 in
theorem rn_17_m (x nd ph : Int) (ha : l[a]? = some ⟨17, x, 0, 0, nd, ph⟩) (hl : (l.length : Int) ≤ 9000000000000000000) (hs : (ns : Int) ≤ 9000000000000000000) (hk : (nk : Int) ≤ 9000000000000000000) (h : Ins w w.heap.size A l) :
    Calls Tryd.prog 19 #[.agg #[.slice A l.length c, .slice As ns cs, .slice Al nk ck, .int .i64 g], .int .i64 (a : Int)] w fun e w' => e = .returned (.bool (fitsB l ns nk g a ⟨17, x, 0, 0, nd, ph⟩)) ∧ Below w.heap.size w w' := by
  have hlt : a < l.length := (List.getElem?_eq_some_iff.1 ha).1
  have HI := hide h
  have HA := hide ha
  obtain ⟨b, off, rfl, hb, hc⟩ := h (by omega)
  obtain ⟨c0, c1, c2, c3, c4, c5⟩ := hc a _ ha
  dsimp only at c0 c1 c2 c3 c4 c5
  have hal1 : ∀ j : Nat, (w.alloc (.cells #[.slice (some ⟨b, off, none⟩) l.length c, .slice As ns cs, .slice Al nk ck, .int .i64 g] 33)).cell? ⟨b, j, none⟩ = w.cell? ⟨b, j, none⟩ := fun j => (World.cell?_alloc_lt w _ ⟨b, j, none⟩ hb)
  have hal2 : ∀ j : Nat, ((w.alloc (.cells #[.slice (some ⟨b, off, none⟩) l.length c, .slice As ns cs, .slice Al nk ck, .int .i64 g] 33)).alloc (.cells #[.int .i64 (17), .int .i64 (x), .int .i64 (0), .int .i64 (0), .int .i64 nd, .int .i64 ph] 48)).cell? ⟨b, j, none⟩ = w.cell? ⟨b, j, none⟩ := fun j => (World.cell?_alloc_lt _ _ ⟨b, j, none⟩ (by simp; omega)).trans (hal1 j)
  have HC := hide hc
  have HAL := hide hal2
  replace c0 := (hal1 _).trans c0
  replace c1 := (hal1 _).trans c1
  replace c2 := (hal1 _).trans c2
  replace c3 := (hal1 _).trans c3
  replace c4 := (hal1 _).trans c4
  replace c5 := (hal1 _).trans c5
  have hws : IntKind.i64.wrap ((ns : Int) - 1) = (ns : Int) - 1 := wrap_id _ (by omega) (by omega)
  have hwk : IntKind.i64.wrap ((nk : Int) - 1) = (nk : Int) - 1 := wrap_id _ (by omega) (by omega)
  have hwa : IntKind.i64.wrap ((a : Int) + 1) = (a : Int) + 1 := wrap_id _ (by omega) (by omega)
  have hwb : IntKind.i64.wrap ((a : Int) - 1) = (a : Int) - 1 := wrap_id _ (by omega) (by omega)
  clear hal1 hal2 hc h ha
  go_enter Tryd.func19, Tryd.ntmps19
  go_wp2_with fail
  all_goals
    go_ret
    exact ⟨by simp_all [fitsB] <;> omega, below_al (below_al (Below.refl _ _) (Nat.le_refl _) _) (by simp) _⟩
set_option maxRecDepth 100000 in
set_option maxHeartbeats 2000000 in
theorem rn_18_z (x y z nd ph : Int) (ez : (z != 0) = true) (ha : l[a]? = some ⟨18, x, y, z, nd, ph⟩) (hl : (l.length : Int) ≤ 9000000000000000000) (hs : (ns : Int) ≤ 9000000000000000000) (hk : (nk : Int) ≤ 9000000000000000000) (h : Ins w w.heap.size A l) :
    Calls Tryd.prog 19 #[.agg #[.slice A l.length c, .slice As ns cs, .slice Al nk ck, .int .i64 g], .int .i64 (a : Int)] w fun e w' => e = .returned (.bool (fitsB l ns nk g a ⟨18, x, y, z, nd, ph⟩)) ∧ Below w.heap.size w w' := by
  have hlt : a < l.length := (List.getElem?_eq_some_iff.1 ha).1
  have HI := hide h
  have HA := hide ha
  obtain ⟨b, off, rfl, hb, hc⟩ := h (by omega)
  obtain ⟨c0, c1, c2, c3, c4, c5⟩ := hc a _ ha
  dsimp only at c0 c1 c2 c3 c4 c5
  have hal1 : ∀ j : Nat, (w.alloc (.cells #[.slice (some ⟨b, off, none⟩) l.length c, .slice As ns cs, .slice Al nk ck, .int .i64 g] 33)).cell? ⟨b, j, none⟩ = w.cell? ⟨b, j, none⟩ := fun j => (World.cell?_alloc_lt w _ ⟨b, j, none⟩ hb)
  have hal2 : ∀ j : Nat, ((w.alloc (.cells #[.slice (some ⟨b, off, none⟩) l.length c, .slice As ns cs, .slice Al nk ck, .int .i64 g] 33)).alloc (.cells #[.int .i64 (18), .int .i64 (x), .int .i64 (y), .int .i64 (z), .int .i64 nd, .int .i64 ph] 48)).cell? ⟨b, j, none⟩ = w.cell? ⟨b, j, none⟩ := fun j => (World.cell?_alloc_lt _ _ ⟨b, j, none⟩ (by simp; omega)).trans (hal1 j)
  have HC := hide hc
  have HAL := hide hal2
  replace c0 := (hal1 _).trans c0
  replace c1 := (hal1 _).trans c1
  replace c2 := (hal1 _).trans c2
  replace c3 := (hal1 _).trans c3
  replace c4 := (hal1 _).trans c4
  replace c5 := (hal1 _).trans c5
  have hws : IntKind.i64.wrap ((ns : Int) - 1) = (ns : Int) - 1 := wrap_id _ (by omega) (by omega)
  have hwk : IntKind.i64.wrap ((nk : Int) - 1) = (nk : Int) - 1 := wrap_id _ (by omega) (by omega)
  have hwa : IntKind.i64.wrap ((a : Int) + 1) = (a : Int) + 1 := wrap_id _ (by omega) (by omega)
  have hwb : IntKind.i64.wrap ((a : Int) - 1) = (a : Int) - 1 := wrap_id _ (by omega) (by omega)
  clear hal1 hal2 hc h ha
  go_enter Tryd.func19, Tryd.ntmps19
  go_wp2_with fail
  all_goals
    go_ret
    exact ⟨by simp_all [fitsB], below_al (below_al (Below.refl _ _) (Nat.le_refl _) _) (by simp) _⟩
set_option maxRecDepth 100000 in
set_option maxHeartbeats 2000000 in
theorem rn_18_y (x y nd ph : Int) (ey : (y != 0) = true) (ha : l[a]? = some ⟨18, x, y, 0, nd, ph⟩) (hl : (l.length : Int) ≤ 9000000000000000000) (hs : (ns : Int) ≤ 9000000000000000000) (hk : (nk : Int) ≤ 9000000000000000000) (h : Ins w w.heap.size A l) :
    Calls Tryd.prog 19 #[.agg #[.slice A l.length c, .slice As ns cs, .slice Al nk ck, .int .i64 g], .int .i64 (a : Int)] w fun e w' => e = .returned (.bool (fitsB l ns nk g a ⟨18, x, y, 0, nd, ph⟩)) ∧ Below w.heap.size w w' := by
  have hlt : a < l.length := (List.getElem?_eq_some_iff.1 ha).1
  have HI := hide h
  have HA := hide ha
  obtain ⟨b, off, rfl, hb, hc⟩ := h (by omega)
  obtain ⟨c0, c1, c2, c3, c4, c5⟩ := hc a _ ha
  dsimp only at c0 c1 c2 c3 c4 c5
  have hal1 : ∀ j : Nat, (w.alloc (.cells #[.slice (some ⟨b, off, none⟩) l.length c, .slice As ns cs, .slice Al nk ck, .int .i64 g] 33)).cell? ⟨b, j, none⟩ = w.cell? ⟨b, j, none⟩ := fun j => (World.cell?_alloc_lt w _ ⟨b, j, none⟩ hb)
  have hal2 : ∀ j : Nat, ((w.alloc (.cells #[.slice (some ⟨b, off, none⟩) l.length c, .slice As ns cs, .slice Al nk ck, .int .i64 g] 33)).alloc (.cells #[.int .i64 (18), .int .i64 (x), .int .i64 (y), .int .i64 (0), .int .i64 nd, .int .i64 ph] 48)).cell? ⟨b, j, none⟩ = w.cell? ⟨b, j, none⟩ := fun j => (World.cell?_alloc_lt _ _ ⟨b, j, none⟩ (by simp; omega)).trans (hal1 j)
  have HC := hide hc
  have HAL := hide hal2
  replace c0 := (hal1 _).trans c0
  replace c1 := (hal1 _).trans c1
  replace c2 := (hal1 _).trans c2
  replace c3 := (hal1 _).trans c3
  replace c4 := (hal1 _).trans c4
  replace c5 := (hal1 _).trans c5
  have hws : IntKind.i64.wrap ((ns : Int) - 1) = (ns : Int) - 1 := wrap_id _ (by omega) (by omega)
  have hwk : IntKind.i64.wrap ((nk : Int) - 1) = (nk : Int) - 1 := wrap_id _ (by omega) (by omega)
  have hwa : IntKind.i64.wrap ((a : Int) + 1) = (a : Int) + 1 := wrap_id _ (by omega) (by omega)
  have hwb : IntKind.i64.wrap ((a : Int) - 1) = (a : Int) - 1 := wrap_id _ (by omega) (by omega)
  clear hal1 hal2 hc h ha
  go_enter Tryd.func19, Tryd.ntmps19
  go_wp2_with fail
  all_goals
    go_ret
    exact ⟨by simp_all [fitsB], below_al (below_al (Below.refl _ _) (Nat.le_refl _) _) (by simp) _⟩
set_option maxRecDepth 100000 in
set_option maxHeartbeats 2000000 in
theorem rn_18_m (x nd ph : Int) (ha : l[a]? = some ⟨18, x, 0, 0, nd, ph⟩) (hl : (l.length : Int) ≤ 9000000000000000000) (hs : (ns : Int) ≤ 9000000000000000000) (hk : (nk : Int) ≤ 9000000000000000000) (h : Ins w w.heap.size A l) :
    Calls Tryd.prog 19 #[.agg #[.slice A l.length c, .slice As ns cs, .slice Al nk ck, .int .i64 g], .int .i64 (a : Int)] w fun e w' => e = .returned (.bool (fitsB l ns nk g a ⟨18, x, 0, 0, nd, ph⟩)) ∧ Below w.heap.size w w' := by
  have hlt : a < l.length := (List.getElem?_eq_some_iff.1 ha).1
  have HI := hide h
  have HA := hide ha
  obtain ⟨b, off, rfl, hb, hc⟩ := h (by omega)
  obtain ⟨c0, c1, c2, c3, c4, c5⟩ := hc a _ ha
  dsimp only at c0 c1 c2 c3 c4 c5
  have hal1 : ∀ j : Nat, (w.alloc (.cells #[.slice (some ⟨b, off, none⟩) l.length c, .slice As ns cs, .slice Al nk ck, .int .i64 g] 33)).cell? ⟨b, j, none⟩ = w.cell? ⟨b, j, none⟩ := fun j => (World.cell?_alloc_lt w _ ⟨b, j, none⟩ hb)
  have hal2 : ∀ j : Nat, ((w.alloc (.cells #[.slice (some ⟨b, off, none⟩) l.length c, .slice As ns cs, .slice Al nk ck, .int .i64 g] 33)).alloc (.cells #[.int .i64 (18), .int .i64 (x), .int .i64 (0), .int .i64 (0), .int .i64 nd, .int .i64 ph] 48)).cell? ⟨b, j, none⟩ = w.cell? ⟨b, j, none⟩ := fun j => (World.cell?_alloc_lt _ _ ⟨b, j, none⟩ (by simp; omega)).trans (hal1 j)
  have HC := hide hc
  have HAL := hide hal2
  replace c0 := (hal1 _).trans c0
  replace c1 := (hal1 _).trans c1
  replace c2 := (hal1 _).trans c2
  replace c3 := (hal1 _).trans c3
  replace c4 := (hal1 _).trans c4
  replace c5 := (hal1 _).trans c5
  have hws : IntKind.i64.wrap ((ns : Int) - 1) = (ns : Int) - 1 := wrap_id _ (by omega) (by omega)
  have hwk : IntKind.i64.wrap ((nk : Int) - 1) = (nk : Int) - 1 := wrap_id _ (by omega) (by omega)
  have hwa : IntKind.i64.wrap ((a : Int) + 1) = (a : Int) + 1 := wrap_id _ (by omega) (by omega)
  have hwb : IntKind.i64.wrap ((a : Int) - 1) = (a : Int) - 1 := wrap_id _ (by omega) (by omega)
  clear hal1 hal2 hc h ha
  go_enter Tryd.func19, Tryd.ntmps19
  go_wp2_with fail
  all_goals
    go_ret
    exact ⟨by simp_all [fitsB] <;> omega, below_al (below_al (Below.refl _ _) (Nat.le_refl _) _) (by simp) _⟩
set_option maxRecDepth 100000 in
set_option maxHeartbeats 2000000 in
theorem rn_19_z (x y z nd ph : Int) (ez : (z != 0) = true) (ha : l[a]? = some ⟨19, x, y, z, nd, ph⟩) (hl : (l.length : Int) ≤ 9000000000000000000) (hs : (ns : Int) ≤ 9000000000000000000) (hk : (nk : Int) ≤ 9000000000000000000) (h : Ins w w.heap.size A l) :
    Calls Tryd.prog 19 #[.agg #[.slice A l.length c, .slice As ns cs, .slice Al nk ck, .int .i64 g], .int .i64 (a : Int)] w fun e w' => e = .returned (.bool (fitsB l ns nk g a ⟨19, x, y, z, nd, ph⟩)) ∧ Below w.heap.size w w' := by
  have hlt : a < l.length := (List.getElem?_eq_some_iff.1 ha).1
  have HI := hide h
  have HA := hide ha
  obtain ⟨b, off, rfl, hb, hc⟩ := h (by omega)
  obtain ⟨c0, c1, c2, c3, c4, c5⟩ := hc a _ ha
  dsimp only at c0 c1 c2 c3 c4 c5
  have hal1 : ∀ j : Nat, (w.alloc (.cells #[.slice (some ⟨b, off, none⟩) l.length c, .slice As ns cs, .slice Al nk ck, .int .i64 g] 33)).cell? ⟨b, j, none⟩ = w.cell? ⟨b, j, none⟩ := fun j => (World.cell?_alloc_lt w _ ⟨b, j, none⟩ hb)
  have hal2 : ∀ j : Nat, ((w.alloc (.cells #[.slice (some ⟨b, off, none⟩) l.length c, .slice As ns cs, .slice Al nk ck, .int .i64 g] 33)).alloc (.cells #[.int .i64 (19), .int .i64 (x), .int .i64 (y), .int .i64 (z), .int .i64 nd, .int .i64 ph] 48)).cell? ⟨b, j, none⟩ = w.cell? ⟨b, j, none⟩ := fun j => (World.cell?_alloc_lt _ _ ⟨b, j, none⟩ (by simp; omega)).trans (hal1 j)
  have HC := hide hc
  have HAL := hide hal2
  replace c0 := (hal1 _).trans c0
  replace c1 := (hal1 _).trans c1
  replace c2 := (hal1 _).trans c2
  replace c3 := (hal1 _).trans c3
  replace c4 := (hal1 _).trans c4
  replace c5 := (hal1 _).trans c5
  have hws : IntKind.i64.wrap ((ns : Int) - 1) = (ns : Int) - 1 := wrap_id _ (by omega) (by omega)
  have hwk : IntKind.i64.wrap ((nk : Int) - 1) = (nk : Int) - 1 := wrap_id _ (by omega) (by omega)
  have hwa : IntKind.i64.wrap ((a : Int) + 1) = (a : Int) + 1 := wrap_id _ (by omega) (by omega)
  have hwb : IntKind.i64.wrap ((a : Int) - 1) = (a : Int) - 1 := wrap_id _ (by omega) (by omega)
  clear hal1 hal2 hc h ha
  go_enter Tryd.func19, Tryd.ntmps19
  go_wp2_with fail
  all_goals
    go_ret
    exact ⟨by simp_all [fitsB], below_al (below_al (Below.refl _ _) (Nat.le_refl _) _) (by simp) _⟩
set_option maxRecDepth 100000 in
set_option maxHeartbeats 2000000 in
theorem rn_19_y (x y nd ph : Int) (ey : (y != 0) = true) (ha : l[a]? = some ⟨19, x, y, 0, nd, ph⟩) (hl : (l.length : Int) ≤ 9000000000000000000) (hs : (ns : Int) ≤ 9000000000000000000) (hk : (nk : Int) ≤ 9000000000000000000) (h : Ins w w.heap.size A l) :
    Calls Tryd.prog 19 #[.agg #[.slice A l.length c, .slice As ns cs, .slice Al nk ck, .int .i64 g], .int .i64 (a : Int)] w fun e w' => e = .returned (.bool (fitsB l ns nk g a ⟨19, x, y, 0, nd, ph⟩)) ∧ Below w.heap.size w w' := by
  have hlt : a < l.length := (List.getElem?_eq_some_iff.1 ha).1
  have HI := hide h
  have HA := hide ha
  obtain ⟨b, off, rfl, hb, hc⟩ := h (by omega)
  obtain ⟨c0, c1, c2, c3, c4, c5⟩ := hc a _ ha
  dsimp only at c0 c1 c2 c3 c4 c5
  have hal1 : ∀ j : Nat, (w.alloc (.cells #[.slice (some ⟨b, off, none⟩) l.length c, .slice As ns cs, .slice Al nk ck, .int .i64 g] 33)).cell? ⟨b, j, none⟩ = w.cell? ⟨b, j, none⟩ := fun j => (World.cell?_alloc_lt w _ ⟨b, j, none⟩ hb)
  have hal2 : ∀ j : Nat, ((w.alloc (.cells #[.slice (some ⟨b, off, none⟩) l.length c, .slice As ns cs, .slice Al nk ck, .int .i64 g] 33)).alloc (.cells #[.int .i64 (19), .int .i64 (x), .int .i64 (y), .int .i64 (0), .int .i64 nd, .int .i64 ph] 48)).cell? ⟨b, j, none⟩ = w.cell? ⟨b, j, none⟩ := fun j => (World.cell?_alloc_lt _ _ ⟨b, j, none⟩ (by simp; omega)).trans (hal1 j)
  have HC := hide hc
  have HAL := hide hal2
  replace c0 := (hal1 _).trans c0
  replace c1 := (hal1 _).trans c1
  replace c2 := (hal1 _).trans c2
  replace c3 := (hal1 _).trans c3
  replace c4 := (hal1 _).trans c4
  replace c5 := (hal1 _).trans c5
  have hws : IntKind.i64.wrap ((ns : Int) - 1) = (ns : Int) - 1 := wrap_id _ (by omega) (by omega)
  have hwk : IntKind.i64.wrap ((nk : Int) - 1) = (nk : Int) - 1 := wrap_id _ (by omega) (by omega)
  have hwa : IntKind.i64.wrap ((a : Int) + 1) = (a : Int) + 1 := wrap_id _ (by omega) (by omega)
  have hwb : IntKind.i64.wrap ((a : Int) - 1) = (a : Int) - 1 := wrap_id _ (by omega) (by omega)
  clear hal1 hal2 hc h ha
  go_enter Tryd.func19, Tryd.ntmps19
  go_wp2_with fail
  all_goals
    go_ret
    exact ⟨by simp_all [fitsB], below_al (below_al (Below.refl _ _) (Nat.le_refl _) _) (by simp) _⟩
set_option maxRecDepth 100000 in
set_option maxHeartbeats 2000000 in
theorem rn_19_m (x nd ph : Int) (ha : l[a]? = some ⟨19, x, 0, 0, nd, ph⟩) (hl : (l.length : Int) ≤ 9000000000000000000) (hs : (ns : Int) ≤ 9000000000000000000) (hk : (nk : Int) ≤ 9000000000000000000) (h : Ins w w.heap.size A l) :
    Calls Tryd.prog 19 #[.agg #[.slice A l.length c, .slice As ns cs, .slice Al nk ck, .int .i64 g], .int .i64 (a : Int)] w fun e w' => e = .returned (.bool (fitsB l ns nk g a ⟨19, x, 0, 0, nd, ph⟩)) ∧ Below w.heap.size w w' := by
  have hlt : a < l.length := (List.getElem?_eq_some_iff.1 ha).1
  have HI := hide h
  have HA := hide ha
  obtain ⟨b, off, rfl, hb, hc⟩ := h (by omega)
  obtain ⟨c0, c1, c2, c3, c4, c5⟩ := hc a _ ha
  dsimp only at c0 c1 c2 c3 c4 c5
  have hal1 : ∀ j : Nat, (w.alloc (.cells #[.slice (some ⟨b, off, none⟩) l.length c, .slice As ns cs, .slice Al nk ck, .int .i64 g] 33)).cell? ⟨b, j, none⟩ = w.cell? ⟨b, j, none⟩ := fun j => (World.cell?_alloc_lt w _ ⟨b, j, none⟩ hb)
  have hal2 : ∀ j : Nat, ((w.alloc (.cells #[.slice (some ⟨b, off, none⟩) l.length c, .slice As ns cs, .slice Al nk ck, .int .i64 g] 33)).alloc (.cells #[.int .i64 (19), .int .i64 (x), .int .i64 (0), .int .i64 (0), .int .i64 nd, .int .i64 ph] 48)).cell? ⟨b, j, none⟩ = w.cell? ⟨b, j, none⟩ := fun j => (World.cell?_alloc_lt _ _ ⟨b, j, none⟩ (by simp; omega)).trans (hal1 j)
  have HC := hide hc
  have HAL := hide hal2
  replace c0 := (hal1 _).trans c0
  replace c1 := (hal1 _).trans c1
  replace c2 := (hal1 _).trans c2
  replace c3 := (hal1 _).trans c3
  replace c4 := (hal1 _).trans c4
  replace c5 := (hal1 _).trans c5
  have hws : IntKind.i64.wrap ((ns : Int) - 1) = (ns : Int) - 1 := wrap_id _ (by omega) (by omega)
  have hwk : IntKind.i64.wrap ((nk : Int) - 1) = (nk : Int) - 1 := wrap_id _ (by omega) (by omega)
  have hwa : IntKind.i64.wrap ((a : Int) + 1) = (a : Int) + 1 := wrap_id _ (by omega) (by omega)
  have hwb : IntKind.i64.wrap ((a : Int) - 1) = (a : Int) - 1 := wrap_id _ (by omega) (by omega)
  clear hal1 hal2 hc h ha
  go_enter Tryd.func19, Tryd.ntmps19
  go_wp2_with fail
  all_goals
    go_ret
    exact ⟨by simp_all [fitsB] <;> omega, below_al (below_al (Below.refl _ _) (Nat.le_refl _) _) (by simp) _⟩
end
end Go.Proofs.YtiaelaepfhiabaaDoor.Co
