/-
  code.fits, walked, an Op a theorem (1, 2, 3, 4, 5). Condition: the instructions lie in memory, the place is one of theirs.
-/
import Derived.Test.YtiaelaepfhiabaaDoorCoAround
set_option linter.unusedVariables false
set_option linter.unusedSimpArgs false
namespace Go.Proofs.YtiaelaepfhiabaaDoor.Co
open Go.RowKit Go.Proofs.YtiaelaepfhiabaaDoor.Mem Go.Proofs.YtiaelaepfhiabaaDoor.Rs
attribute [local go_sem] run_not_true run_not_false
theorem aheadL_any (l : List In) (v2 v3 : Value) (A : Option Addr) (c : Nat) (g a t : Int) (w : World) : Calls Tryd.prog 44 #[.agg #[.slice A l.length c, v2, v3, .int .i64 g], .int .i64 a, .int .i64 t] w fun e w' => e = .returned (.bool (aheadB l a t)) ∧ Below w.heap.size w w' := ahead_any v2 v3 A l.length c g a t w
/-- the two boxes behind a call -/
theorem boxes {w w1 : World} {v1 v2 v3 v4 : Value} {k x y z nd ph : Int} (hb : Below ((w.alloc (.cells #[v1, v2, v3, v4] 26)).alloc (.cells #[.int .i64 k, .int .i64 x, .int .i64 y, .int .i64 z, .int .i64 nd, .int .i64 ph] 37)).heap.size ((w.alloc (.cells #[v1, v2, v3, v4] 26)).alloc (.cells #[.int .i64 k, .int .i64 x, .int .i64 y, .int .i64 z, .int .i64 nd, .int .i64 ph] 37)) w1) :
    (w1.cell? ⟨w.heap.size, 0, none⟩ = some v1 ∧ w1.cell? ⟨w.heap.size, 1, none⟩ = some v2 ∧ w1.cell? ⟨w.heap.size, 2, none⟩ = some v3 ∧ w1.cell? ⟨w.heap.size, 3, none⟩ = some v4) ∧ (w1.cell? ⟨w.heap.size + 1, 1, none⟩ = some (.int .i64 x) ∧ w1.cell? ⟨w.heap.size + 1, 2, none⟩ = some (.int .i64 y) ∧ w1.cell? ⟨w.heap.size + 1, 3, none⟩ = some (.int .i64 z)) := by
  have k1 := ((Blk.new w 26 #[v1, v2, v3, v4]).alloc (.cells #[.int .i64 k, .int .i64 x, .int .i64 y, .int .i64 z, .int .i64 nd, .int .i64 ph] 37)).below hb (by simp; omega)
  have k2 : Blk w1 (w.heap.size + 1) 37 #[.int .i64 k, .int .i64 x, .int .i64 y, .int .i64 z, .int .i64 nd, .int .i64 ph] := Blk.below (g := w.heap.size + 1) (by simpa using Blk.new (w.alloc (.cells #[v1, v2, v3, v4] 26)) 37 #[.int .i64 k, .int .i64 x, .int .i64 y, .int .i64 z, .int .i64 nd, .int .i64 ph]) hb (by simp)
  exact ⟨⟨k1.cell 0, k1.cell 1, k1.cell 2, k1.cell 3⟩, k2.cell 1, k2.cell 2, k2.cell 3⟩
theorem ins_at {w w1 : World} {A : Option Addr} {l : List In} {o1 o2 : Obj} (hb : Below ((w.alloc o1).alloc o2).heap.size ((w.alloc o1).alloc o2) w1) (h : Ins w w.heap.size A l) : Ins w1 w1.heap.size A l :=
  (h.below ((below_al (below_al (Below.refl _ _) (Nat.le_refl _) _) (by simp) _).trans (hb.mono (by simp; omega)))).more (by have := hb.size; simp at this; omega)
section
variable (l : List In) (As Al : Option Addr) (A : Option Addr) (c ns cs nk ck : Nat) (g : Int) (a : Nat) (w : World)
set_option maxRecDepth 100000 in
set_option maxHeartbeats 2000000 in
theorem fits_1 (x y z nd ph : Int) (ha : l[a]? = some ⟨1, x, y, z, nd, ph⟩) (hl : (l.length : Int) ≤ 9000000000000000000) (hs : (ns : Int) ≤ 9000000000000000000) (hk : (nk : Int) ≤ 9000000000000000000) (h : Ins w w.heap.size A l) :
    Calls Tryd.prog 31 #[.agg #[.slice A l.length c, .slice As ns cs, .slice Al nk ck, .int .i64 g], .int .i64 (a : Int)] w fun e w' => e = .returned (.bool (fitsB l ns nk g a ⟨1, x, y, z, nd, ph⟩)) ∧ Below w.heap.size w w' := by
  have hlt : a < l.length := (List.getElem?_eq_some_iff.1 ha).1
  have HI := hide h
  have HA := hide ha
  obtain ⟨b, off, rfl, hb, hc⟩ := h (by omega)
  obtain ⟨c0, c1, c2, c3, c4, c5⟩ := hc a _ ha
  dsimp only at c0 c1 c2 c3 c4 c5
  have hal1 : ∀ j : Nat, (w.alloc (.cells #[.slice (some ⟨b, off, none⟩) l.length c, .slice As ns cs, .slice Al nk ck, .int .i64 g] 26)).cell? ⟨b, j, none⟩ = w.cell? ⟨b, j, none⟩ := fun j => (World.cell?_alloc_lt w _ ⟨b, j, none⟩ hb)
  replace c0 := (hal1 _).trans c0
  replace c1 := (hal1 _).trans c1
  replace c2 := (hal1 _).trans c2
  replace c3 := (hal1 _).trans c3
  replace c4 := (hal1 _).trans c4
  replace c5 := (hal1 _).trans c5
  have hws : IntKind.i64.wrap ((ns : Int) - 1) = (ns : Int) - 1 := wrap_id _ (by omega) (by omega)
  have hwk : IntKind.i64.wrap ((nk : Int) - 1) = (nk : Int) - 1 := wrap_id _ (by omega) (by omega)
  have hwa : IntKind.i64.wrap ((a : Int) + 1) = (a : Int) + 1 := wrap_id _ (by omega) (by omega)
  have BW : Below w.heap.size w ((w.alloc (.cells #[.slice (some ⟨b, off, none⟩) l.length c, .slice As ns cs, .slice Al nk ck, .int .i64 g] 26)).alloc (.cells #[.int .i64 (1), .int .i64 x, .int .i64 y, .int .i64 z, .int .i64 nd, .int .i64 ph] 37)) := below_al (below_al (Below.refl _ _) (Nat.le_refl _) _) (by simp) _
  have HB := hide BW
  clear hal1 hc h ha BW
  go_enter Tryd.func31, Tryd.ntmps31
  go_wp2_with fail
  refine (within_any x 0 _ _).mono ?_
  rintro e v1 ⟨rfl, rfl⟩
  cases q1 : withinB x 0 ((ns : Int) - 1)
  · have Qq1 := hide q1
    clear q1
    go_wp2_with fail
    all_goals
      go_ret
      exact ⟨by simp_all [fitsB, unhide Qq1] <;> omega, below_al (below_al (Below.refl _ _) (Nat.le_refl _) _) (by simp) _⟩
  · have Qq1 := hide q1
    clear q1
    go_wp2_with fail
    all_goals
      go_ret
      exact ⟨by simp_all [fitsB, unhide Qq1] <;> omega, below_al (below_al (Below.refl _ _) (Nat.le_refl _) _) (by simp) _⟩
set_option maxRecDepth 100000 in
set_option maxHeartbeats 2000000 in
theorem fits_2 (x y z nd ph : Int) (ha : l[a]? = some ⟨2, x, y, z, nd, ph⟩) (hl : (l.length : Int) ≤ 9000000000000000000) (hs : (ns : Int) ≤ 9000000000000000000) (hk : (nk : Int) ≤ 9000000000000000000) (h : Ins w w.heap.size A l) :
    Calls Tryd.prog 31 #[.agg #[.slice A l.length c, .slice As ns cs, .slice Al nk ck, .int .i64 g], .int .i64 (a : Int)] w fun e w' => e = .returned (.bool (fitsB l ns nk g a ⟨2, x, y, z, nd, ph⟩)) ∧ Below w.heap.size w w' := by
  have hlt : a < l.length := (List.getElem?_eq_some_iff.1 ha).1
  have HI := hide h
  have HA := hide ha
  obtain ⟨b, off, rfl, hb, hc⟩ := h (by omega)
  obtain ⟨c0, c1, c2, c3, c4, c5⟩ := hc a _ ha
  dsimp only at c0 c1 c2 c3 c4 c5
  have hal1 : ∀ j : Nat, (w.alloc (.cells #[.slice (some ⟨b, off, none⟩) l.length c, .slice As ns cs, .slice Al nk ck, .int .i64 g] 26)).cell? ⟨b, j, none⟩ = w.cell? ⟨b, j, none⟩ := fun j => (World.cell?_alloc_lt w _ ⟨b, j, none⟩ hb)
  replace c0 := (hal1 _).trans c0
  replace c1 := (hal1 _).trans c1
  replace c2 := (hal1 _).trans c2
  replace c3 := (hal1 _).trans c3
  replace c4 := (hal1 _).trans c4
  replace c5 := (hal1 _).trans c5
  have hws : IntKind.i64.wrap ((ns : Int) - 1) = (ns : Int) - 1 := wrap_id _ (by omega) (by omega)
  have hwk : IntKind.i64.wrap ((nk : Int) - 1) = (nk : Int) - 1 := wrap_id _ (by omega) (by omega)
  have hwa : IntKind.i64.wrap ((a : Int) + 1) = (a : Int) + 1 := wrap_id _ (by omega) (by omega)
  have BW : Below w.heap.size w ((w.alloc (.cells #[.slice (some ⟨b, off, none⟩) l.length c, .slice As ns cs, .slice Al nk ck, .int .i64 g] 26)).alloc (.cells #[.int .i64 (2), .int .i64 x, .int .i64 y, .int .i64 z, .int .i64 nd, .int .i64 ph] 37)) := below_al (below_al (Below.refl _ _) (Nat.le_refl _) _) (by simp) _
  have HB := hide BW
  clear hal1 hc h ha BW
  go_enter Tryd.func31, Tryd.ntmps31
  go_wp2_with fail
  refine (within_any x 1 _ _).mono ?_
  rintro e v1 ⟨rfl, rfl⟩
  cases q1 : withinB x 1 (7)
  · have Qq1 := hide q1
    clear q1
    go_wp2_with fail
    all_goals
      go_ret
      exact ⟨by simp_all [fitsB, unhide Qq1] <;> omega, below_al (below_al (Below.refl _ _) (Nat.le_refl _) _) (by simp) _⟩
  · have Qq1 := hide q1
    clear q1
    go_wp2_with fail
    all_goals
      go_ret
      exact ⟨by simp_all [fitsB, unhide Qq1] <;> omega, below_al (below_al (Below.refl _ _) (Nat.le_refl _) _) (by simp) _⟩
set_option maxRecDepth 100000 in
set_option maxHeartbeats 2000000 in
theorem fits_3 (x y z nd ph : Int) (ha : l[a]? = some ⟨3, x, y, z, nd, ph⟩) (hl : (l.length : Int) ≤ 9000000000000000000) (hs : (ns : Int) ≤ 9000000000000000000) (hk : (nk : Int) ≤ 9000000000000000000) (h : Ins w w.heap.size A l) :
    Calls Tryd.prog 31 #[.agg #[.slice A l.length c, .slice As ns cs, .slice Al nk ck, .int .i64 g], .int .i64 (a : Int)] w fun e w' => e = .returned (.bool (fitsB l ns nk g a ⟨3, x, y, z, nd, ph⟩)) ∧ Below w.heap.size w w' := by
  have hlt : a < l.length := (List.getElem?_eq_some_iff.1 ha).1
  have HI := hide h
  have HA := hide ha
  obtain ⟨b, off, rfl, hb, hc⟩ := h (by omega)
  obtain ⟨c0, c1, c2, c3, c4, c5⟩ := hc a _ ha
  dsimp only at c0 c1 c2 c3 c4 c5
  have hal1 : ∀ j : Nat, (w.alloc (.cells #[.slice (some ⟨b, off, none⟩) l.length c, .slice As ns cs, .slice Al nk ck, .int .i64 g] 26)).cell? ⟨b, j, none⟩ = w.cell? ⟨b, j, none⟩ := fun j => (World.cell?_alloc_lt w _ ⟨b, j, none⟩ hb)
  replace c0 := (hal1 _).trans c0
  replace c1 := (hal1 _).trans c1
  replace c2 := (hal1 _).trans c2
  replace c3 := (hal1 _).trans c3
  replace c4 := (hal1 _).trans c4
  replace c5 := (hal1 _).trans c5
  have hws : IntKind.i64.wrap ((ns : Int) - 1) = (ns : Int) - 1 := wrap_id _ (by omega) (by omega)
  have hwk : IntKind.i64.wrap ((nk : Int) - 1) = (nk : Int) - 1 := wrap_id _ (by omega) (by omega)
  have hwa : IntKind.i64.wrap ((a : Int) + 1) = (a : Int) + 1 := wrap_id _ (by omega) (by omega)
  have BW : Below w.heap.size w ((w.alloc (.cells #[.slice (some ⟨b, off, none⟩) l.length c, .slice As ns cs, .slice Al nk ck, .int .i64 g] 26)).alloc (.cells #[.int .i64 (3), .int .i64 x, .int .i64 y, .int .i64 z, .int .i64 nd, .int .i64 ph] 37)) := below_al (below_al (Below.refl _ _) (Nat.le_refl _) _) (by simp) _
  have HB := hide BW
  clear hal1 hc h ha BW
  go_enter Tryd.func31, Tryd.ntmps31
  go_wp2_with fail
  refine (group_any _ (.slice As ns cs) (.slice Al nk ck) g x _).mono ?_
  rintro e v1 ⟨rfl, hv1⟩
  have HV1 := hide hv1
  obtain ⟨⟨k0, k1, k2, k3⟩, m1, m2, m3⟩ := boxes (unhide HV1)
  clear hv1
  cases q1 : withinB x 1 g
  · have Qq1 := hide q1
    clear q1
    go_wp2_with fail
    all_goals
      go_ret
      exact ⟨by simp_all [fitsB, unhide Qq1] <;> omega, (below_al (below_al (Below.refl _ _) (Nat.le_refl _) _) (by simp) _).trans ((unhide HV1).mono (by simp; omega))⟩
  · have Qq1 := hide q1
    clear q1
    go_wp2_with fail
    all_goals
      go_ret
      exact ⟨by simp_all [fitsB, unhide Qq1] <;> omega, (below_al (below_al (Below.refl _ _) (Nat.le_refl _) _) (by simp) _).trans ((unhide HV1).mono (by simp; omega))⟩
set_option maxRecDepth 100000 in
set_option maxHeartbeats 2000000 in
theorem fits_4 (x y z nd ph : Int) (ha : l[a]? = some ⟨4, x, y, z, nd, ph⟩) (hl : (l.length : Int) ≤ 9000000000000000000) (hs : (ns : Int) ≤ 9000000000000000000) (hk : (nk : Int) ≤ 9000000000000000000) (h : Ins w w.heap.size A l) :
    Calls Tryd.prog 31 #[.agg #[.slice A l.length c, .slice As ns cs, .slice Al nk ck, .int .i64 g], .int .i64 (a : Int)] w fun e w' => e = .returned (.bool (fitsB l ns nk g a ⟨4, x, y, z, nd, ph⟩)) ∧ Below w.heap.size w w' := by
  have hlt : a < l.length := (List.getElem?_eq_some_iff.1 ha).1
  have HI := hide h
  have HA := hide ha
  obtain ⟨b, off, rfl, hb, hc⟩ := h (by omega)
  obtain ⟨c0, c1, c2, c3, c4, c5⟩ := hc a _ ha
  dsimp only at c0 c1 c2 c3 c4 c5
  have hal1 : ∀ j : Nat, (w.alloc (.cells #[.slice (some ⟨b, off, none⟩) l.length c, .slice As ns cs, .slice Al nk ck, .int .i64 g] 26)).cell? ⟨b, j, none⟩ = w.cell? ⟨b, j, none⟩ := fun j => (World.cell?_alloc_lt w _ ⟨b, j, none⟩ hb)
  replace c0 := (hal1 _).trans c0
  replace c1 := (hal1 _).trans c1
  replace c2 := (hal1 _).trans c2
  replace c3 := (hal1 _).trans c3
  replace c4 := (hal1 _).trans c4
  replace c5 := (hal1 _).trans c5
  have hws : IntKind.i64.wrap ((ns : Int) - 1) = (ns : Int) - 1 := wrap_id _ (by omega) (by omega)
  have hwk : IntKind.i64.wrap ((nk : Int) - 1) = (nk : Int) - 1 := wrap_id _ (by omega) (by omega)
  have hwa : IntKind.i64.wrap ((a : Int) + 1) = (a : Int) + 1 := wrap_id _ (by omega) (by omega)
  have BW : Below w.heap.size w ((w.alloc (.cells #[.slice (some ⟨b, off, none⟩) l.length c, .slice As ns cs, .slice Al nk ck, .int .i64 g] 26)).alloc (.cells #[.int .i64 (4), .int .i64 x, .int .i64 y, .int .i64 z, .int .i64 nd, .int .i64 ph] 37)) := below_al (below_al (Below.refl _ _) (Nat.le_refl _) _) (by simp) _
  have HB := hide BW
  clear hal1 hc h ha BW
  go_enter Tryd.func31, Tryd.ntmps31
  go_wp2_with fail
  refine (way_any l (.slice As ns cs) (.slice Al nk ck) _ c g a (x) _ (by omega) (ins_at (Below.refl _ _) (unhide HI))).mono ?_
  rintro e v1 ⟨rfl, hv1⟩
  have HV1 := hide hv1
  obtain ⟨⟨k0, k1, k2, k3⟩, m1, m2, m3⟩ := boxes (unhide HV1)
  clear hv1
  cases q1 : wayB l a (x)
  · have Qq1 := hide q1
    clear q1
    go_wp2_with fail
    all_goals
      go_ret
      exact ⟨by simp_all [fitsB, unhide Qq1] <;> omega, (below_al (below_al (Below.refl _ _) (Nat.le_refl _) _) (by simp) _).trans ((unhide HV1).mono (by simp; omega))⟩
  · have Qq1 := hide q1
    clear q1
    go_wp2_with fail
    all_goals
      go_ret
      exact ⟨by simp_all [fitsB, unhide Qq1] <;> omega, (below_al (below_al (Below.refl _ _) (Nat.le_refl _) _) (by simp) _).trans ((unhide HV1).mono (by simp; omega))⟩
set_option maxRecDepth 100000 in
set_option maxHeartbeats 2000000 in
theorem fits_5a (y z nd ph : Int) (ha : l[a]? = some ⟨5, -1, y, z, nd, ph⟩) (hl : (l.length : Int) ≤ 9000000000000000000) (hs : (ns : Int) ≤ 9000000000000000000) (hk : (nk : Int) ≤ 9000000000000000000) (h : Ins w w.heap.size A l) :
    Calls Tryd.prog 31 #[.agg #[.slice A l.length c, .slice As ns cs, .slice Al nk ck, .int .i64 g], .int .i64 (a : Int)] w fun e w' => e = .returned (.bool (fitsB l ns nk g a ⟨5, -1, y, z, nd, ph⟩)) ∧ Below w.heap.size w w' := by
  have hlt : a < l.length := (List.getElem?_eq_some_iff.1 ha).1
  have HI := hide h
  have HA := hide ha
  obtain ⟨b, off, rfl, hb, hc⟩ := h (by omega)
  obtain ⟨c0, c1, c2, c3, c4, c5⟩ := hc a _ ha
  dsimp only at c0 c1 c2 c3 c4 c5
  have hal1 : ∀ j : Nat, (w.alloc (.cells #[.slice (some ⟨b, off, none⟩) l.length c, .slice As ns cs, .slice Al nk ck, .int .i64 g] 26)).cell? ⟨b, j, none⟩ = w.cell? ⟨b, j, none⟩ := fun j => (World.cell?_alloc_lt w _ ⟨b, j, none⟩ hb)
  replace c0 := (hal1 _).trans c0
  replace c1 := (hal1 _).trans c1
  replace c2 := (hal1 _).trans c2
  replace c3 := (hal1 _).trans c3
  replace c4 := (hal1 _).trans c4
  replace c5 := (hal1 _).trans c5
  have hws : IntKind.i64.wrap ((ns : Int) - 1) = (ns : Int) - 1 := wrap_id _ (by omega) (by omega)
  have hwk : IntKind.i64.wrap ((nk : Int) - 1) = (nk : Int) - 1 := wrap_id _ (by omega) (by omega)
  have hwa : IntKind.i64.wrap ((a : Int) + 1) = (a : Int) + 1 := wrap_id _ (by omega) (by omega)
  have BW : Below w.heap.size w ((w.alloc (.cells #[.slice (some ⟨b, off, none⟩) l.length c, .slice As ns cs, .slice Al nk ck, .int .i64 g] 26)).alloc (.cells #[.int .i64 (5), .int .i64 (-1), .int .i64 y, .int .i64 z, .int .i64 nd, .int .i64 ph] 37)) := below_al (below_al (Below.refl _ _) (Nat.le_refl _) _) (by simp) _
  have HB := hide BW
  clear hal1 hc h ha BW
  go_enter Tryd.func31, Tryd.ntmps31
  go_wp2_with fail
  all_goals
    go_ret
    exact ⟨by simp_all [fitsB] <;> omega, below_al (below_al (Below.refl _ _) (Nat.le_refl _) _) (by simp) _⟩
set_option maxRecDepth 100000 in
set_option maxHeartbeats 2000000 in
theorem fits_5b (x y z nd ph : Int) (ex : (x == -1) = false) (ha : l[a]? = some ⟨5, x, y, z, nd, ph⟩) (hl : (l.length : Int) ≤ 9000000000000000000) (hs : (ns : Int) ≤ 9000000000000000000) (hk : (nk : Int) ≤ 9000000000000000000) (h : Ins w w.heap.size A l) :
    Calls Tryd.prog 31 #[.agg #[.slice A l.length c, .slice As ns cs, .slice Al nk ck, .int .i64 g], .int .i64 (a : Int)] w fun e w' => e = .returned (.bool (fitsB l ns nk g a ⟨5, x, y, z, nd, ph⟩)) ∧ Below w.heap.size w w' := by
  have hlt : a < l.length := (List.getElem?_eq_some_iff.1 ha).1
  have HI := hide h
  have HA := hide ha
  obtain ⟨b, off, rfl, hb, hc⟩ := h (by omega)
  obtain ⟨c0, c1, c2, c3, c4, c5⟩ := hc a _ ha
  dsimp only at c0 c1 c2 c3 c4 c5
  have hal1 : ∀ j : Nat, (w.alloc (.cells #[.slice (some ⟨b, off, none⟩) l.length c, .slice As ns cs, .slice Al nk ck, .int .i64 g] 26)).cell? ⟨b, j, none⟩ = w.cell? ⟨b, j, none⟩ := fun j => (World.cell?_alloc_lt w _ ⟨b, j, none⟩ hb)
  replace c0 := (hal1 _).trans c0
  replace c1 := (hal1 _).trans c1
  replace c2 := (hal1 _).trans c2
  replace c3 := (hal1 _).trans c3
  replace c4 := (hal1 _).trans c4
  replace c5 := (hal1 _).trans c5
  have hws : IntKind.i64.wrap ((ns : Int) - 1) = (ns : Int) - 1 := wrap_id _ (by omega) (by omega)
  have hwk : IntKind.i64.wrap ((nk : Int) - 1) = (nk : Int) - 1 := wrap_id _ (by omega) (by omega)
  have hwa : IntKind.i64.wrap ((a : Int) + 1) = (a : Int) + 1 := wrap_id _ (by omega) (by omega)
  have BW : Below w.heap.size w ((w.alloc (.cells #[.slice (some ⟨b, off, none⟩) l.length c, .slice As ns cs, .slice Al nk ck, .int .i64 g] 26)).alloc (.cells #[.int .i64 (5), .int .i64 x, .int .i64 y, .int .i64 z, .int .i64 nd, .int .i64 ph] 37)) := below_al (below_al (Below.refl _ _) (Nat.le_refl _) _) (by simp) _
  have HB := hide BW
  clear hal1 hc h ha BW
  go_enter Tryd.func31, Tryd.ntmps31
  go_wp2_with fail
  refine (way_any l (.slice As ns cs) (.slice Al nk ck) _ c g a (x) _ (by omega) (ins_at (Below.refl _ _) (unhide HI))).mono ?_
  rintro e v1 ⟨rfl, hv1⟩
  have HV1 := hide hv1
  obtain ⟨⟨k0, k1, k2, k3⟩, m1, m2, m3⟩ := boxes (unhide HV1)
  clear hv1
  cases q1 : wayB l a (x)
  · have Qq1 := hide q1
    clear q1
    go_wp2_with fail
    all_goals
      go_ret
      exact ⟨by simp_all [fitsB, ex, unhide Qq1] <;> omega, (below_al (below_al (Below.refl _ _) (Nat.le_refl _) _) (by simp) _).trans ((unhide HV1).mono (by simp; omega))⟩
  · have Qq1 := hide q1
    clear q1
    go_wp2_with fail
    all_goals
      go_ret
      exact ⟨by simp_all [fitsB, ex, unhide Qq1] <;> omega, (below_al (below_al (Below.refl _ _) (Nat.le_refl _) _) (by simp) _).trans ((unhide HV1).mono (by simp; omega))⟩
end
end Go.Proofs.YtiaelaepfhiabaaDoor.Co
