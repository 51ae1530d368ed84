/-
  clewref11's edges, walked. Condition: the instructions lie in memory, the place is one of theirs.
-/
import Derived.Test.YtiaelaepfhiabaaDoorCoRWay
import Derived.Test.YtiaelaepfhiabaaDoorCoSteps
set_option linter.unusedVariables false
set_option linter.unusedSimpArgs false
namespace Go.Proofs.YtiaelaepfhiabaaDoor.Co
open Go.RowKit Go.Proofs.YtiaelaepfhiabaaDoor.Mem Go.Proofs.YtiaelaepfhiabaaDoor.Rs
theorem build_edge (x y : Int) (w : World) : Sem.run Tryd.prog (Instr.build 71 #[(0, .int .i64 x), (1, .int .i64 y)]) w = .ok (.agg #[.int .i64 x, .int .i64 y]) w := run_build w 71 _ _ (by kernel_rfl)
attribute [local go_sem] build_edge
theorem gives_newT {T : TypeId} {w W : World} {g n : Nat} {L : List (Int × Int)} (C : Array Value) (hg : g = W.heap.size) (hC : C.toList = flat L) (hn : n = L.length) (hb : Below w.heap.size w W) : GivesS w L (.returned (.slice (some ⟨g, 0, none⟩) n n)) (W.alloc (.cells C T)) := by
  subst hn
  have hs : C.size = L.length * 2 := by rw [← Array.length_toList, hC, flat_len]
  have h := (reads_at hg C T L.length 2 hs).more (B' := (W.alloc (.cells C T)).heap.size) (by simp [hg])
  rw [hC] at h
  exact ⟨_, _, rfl, Lst.of_reads h, Nat.le_refl _, below_al hb hb.size _, fun ad e => by injection e with e; subst e; show w.heap.size ≤ g; rw [hg]; exact hb.size⟩
def edgesP (i : In) (a : Nat) : List (Int × Int) :=
  if i.op = 18 ∨ i.op = 19 then []
  else if i.op = 6 then [(i.x, 0)]
  else if i.op = 10 then [(i.y, 0)]
  else if i.op = 8 then [((a : Int) + 1, 0), (i.y, 0), (i.z, 0)]
  else if i.op = 16 ∨ i.op = 17 then [((a : Int) + 1, -1)]
  else if i.op = 13 then (if 0 ≤ i.x then [((a : Int) + 1, 1), (i.x, 0)] else [((a : Int) + 1, 1)])
  else if i.op = 4 ∨ i.op = 5 then (if 0 ≤ i.x then [((a : Int) + 1, 0), (i.x, 0)] else [((a : Int) + 1, 0)])
  else [((a : Int) + 1, 0)]
section
variable (l : List In) (As Al : Option Addr) (A : Option Addr) (c ns cs nk ck : Nat) (g : Int) (a : Nat) (w : World)
set_option maxRecDepth 100000 in
set_option maxHeartbeats 2000000 in
theorem edges_18 (x y z nd ph : Int) (ha : l[a]? = some ⟨18, x, y, z, nd, ph⟩) (hl : (l.length : Int) ≤ 9000000000000000000) (h : Ins w w.heap.size A l) :
    Calls Tryd.prog 36 #[.agg #[.slice A l.length c, .slice As ns cs, .slice Al nk ck, .int .i64 g], .int .i64 (a : Int)] w fun e w' => GivesS w [] e w' := by
  have hlt : a < l.length := (List.getElem?_eq_some_iff.1 ha).1
  obtain ⟨b, off, rfl, hb, hc⟩ := h (by omega)
  obtain ⟨c0, c1, c2, c3, c4, c5⟩ := hc a _ ha
  dsimp only at c0 c1 c2 c3 c4 c5
  have hal1 : ∀ j : Nat, (w.alloc (.cells #[.slice (some ⟨b, off, none⟩) l.length c, .slice As ns cs, .slice Al nk ck, .int .i64 g] 33)).cell? ⟨b, j, none⟩ = w.cell? ⟨b, j, none⟩ := fun j => (World.cell?_alloc_lt w _ ⟨b, j, none⟩ hb)
  replace c0 := (hal1 _).trans c0
  replace c1 := (hal1 _).trans c1
  replace c2 := (hal1 _).trans c2
  replace c3 := (hal1 _).trans c3
  replace c4 := (hal1 _).trans c4
  replace c5 := (hal1 _).trans c5
  have hwa : IntKind.i64.wrap ((a : Int) + 1) = (a : Int) + 1 := wrap_id _ (by omega) (by omega)
  clear hal1 hc h ha
  go_enter Tryd.func36, Tryd.ntmps36
  go_wp2_with fail
  go_ret
  exact ⟨_, _, rfl, Lst.nil, Nat.le_refl _, below_al (below_al (below_al (Below.refl _ _) (Nat.le_refl _) _) (by simp) _) (by simp; omega) _, fun ad e => by cases e⟩
set_option maxRecDepth 100000 in
set_option maxHeartbeats 2000000 in
theorem edges_19 (x y z nd ph : Int) (ha : l[a]? = some ⟨19, x, y, z, nd, ph⟩) (hl : (l.length : Int) ≤ 9000000000000000000) (h : Ins w w.heap.size A l) :
    Calls Tryd.prog 36 #[.agg #[.slice A l.length c, .slice As ns cs, .slice Al nk ck, .int .i64 g], .int .i64 (a : Int)] w fun e w' => GivesS w [] e w' := by
  have hlt : a < l.length := (List.getElem?_eq_some_iff.1 ha).1
  obtain ⟨b, off, rfl, hb, hc⟩ := h (by omega)
  obtain ⟨c0, c1, c2, c3, c4, c5⟩ := hc a _ ha
  dsimp only at c0 c1 c2 c3 c4 c5
  have hal1 : ∀ j : Nat, (w.alloc (.cells #[.slice (some ⟨b, off, none⟩) l.length c, .slice As ns cs, .slice Al nk ck, .int .i64 g] 33)).cell? ⟨b, j, none⟩ = w.cell? ⟨b, j, none⟩ := fun j => (World.cell?_alloc_lt w _ ⟨b, j, none⟩ hb)
  replace c0 := (hal1 _).trans c0
  replace c1 := (hal1 _).trans c1
  replace c2 := (hal1 _).trans c2
  replace c3 := (hal1 _).trans c3
  replace c4 := (hal1 _).trans c4
  replace c5 := (hal1 _).trans c5
  have hwa : IntKind.i64.wrap ((a : Int) + 1) = (a : Int) + 1 := wrap_id _ (by omega) (by omega)
  clear hal1 hc h ha
  go_enter Tryd.func36, Tryd.ntmps36
  go_wp2_with fail
  go_ret
  exact ⟨_, _, rfl, Lst.nil, Nat.le_refl _, below_al (below_al (below_al (Below.refl _ _) (Nat.le_refl _) _) (by simp) _) (by simp; omega) _, fun ad e => by cases e⟩
set_option maxRecDepth 100000 in
set_option maxHeartbeats 2000000 in
theorem edges_6 (x y z nd ph : Int) (ha : l[a]? = some ⟨6, x, y, z, nd, ph⟩) (hl : (l.length : Int) ≤ 9000000000000000000) (h : Ins w w.heap.size A l) :
    Calls Tryd.prog 36 #[.agg #[.slice A l.length c, .slice As ns cs, .slice Al nk ck, .int .i64 g], .int .i64 (a : Int)] w fun e w' => GivesS w [(x, 0)] e w' := by
  have hlt : a < l.length := (List.getElem?_eq_some_iff.1 ha).1
  obtain ⟨b, off, rfl, hb, hc⟩ := h (by omega)
  obtain ⟨c0, c1, c2, c3, c4, c5⟩ := hc a _ ha
  dsimp only at c0 c1 c2 c3 c4 c5
  have hal1 : ∀ j : Nat, (w.alloc (.cells #[.slice (some ⟨b, off, none⟩) l.length c, .slice As ns cs, .slice Al nk ck, .int .i64 g] 33)).cell? ⟨b, j, none⟩ = w.cell? ⟨b, j, none⟩ := fun j => (World.cell?_alloc_lt w _ ⟨b, j, none⟩ hb)
  replace c0 := (hal1 _).trans c0
  replace c1 := (hal1 _).trans c1
  replace c2 := (hal1 _).trans c2
  replace c3 := (hal1 _).trans c3
  replace c4 := (hal1 _).trans c4
  replace c5 := (hal1 _).trans c5
  have hwa : IntKind.i64.wrap ((a : Int) + 1) = (a : Int) + 1 := wrap_id _ (by omega) (by omega)
  clear hal1 hc h ha
  go_enter Tryd.func36, Tryd.ntmps36
  go_wp2_with fail
  go_ret
  exact gives_newT _ (by simp) rfl rfl (below_al (below_al (below_al (Below.refl _ _) (Nat.le_refl _) _) (by simp) _) (by simp; omega) _)
set_option maxRecDepth 100000 in
set_option maxHeartbeats 2000000 in
theorem edges_10 (x y z nd ph : Int) (ha : l[a]? = some ⟨10, x, y, z, nd, ph⟩) (hl : (l.length : Int) ≤ 9000000000000000000) (h : Ins w w.heap.size A l) :
    Calls Tryd.prog 36 #[.agg #[.slice A l.length c, .slice As ns cs, .slice Al nk ck, .int .i64 g], .int .i64 (a : Int)] w fun e w' => GivesS w [(y, 0)] e w' := by
  have hlt : a < l.length := (List.getElem?_eq_some_iff.1 ha).1
  obtain ⟨b, off, rfl, hb, hc⟩ := h (by omega)
  obtain ⟨c0, c1, c2, c3, c4, c5⟩ := hc a _ ha
  dsimp only at c0 c1 c2 c3 c4 c5
  have hal1 : ∀ j : Nat, (w.alloc (.cells #[.slice (some ⟨b, off, none⟩) l.length c, .slice As ns cs, .slice Al nk ck, .int .i64 g] 33)).cell? ⟨b, j, none⟩ = w.cell? ⟨b, j, none⟩ := fun j => (World.cell?_alloc_lt w _ ⟨b, j, none⟩ hb)
  replace c0 := (hal1 _).trans c0
  replace c1 := (hal1 _).trans c1
  replace c2 := (hal1 _).trans c2
  replace c3 := (hal1 _).trans c3
  replace c4 := (hal1 _).trans c4
  replace c5 := (hal1 _).trans c5
  have hwa : IntKind.i64.wrap ((a : Int) + 1) = (a : Int) + 1 := wrap_id _ (by omega) (by omega)
  clear hal1 hc h ha
  go_enter Tryd.func36, Tryd.ntmps36
  go_wp2_with fail
  go_ret
  exact gives_newT _ (by simp) rfl rfl (below_al (below_al (below_al (Below.refl _ _) (Nat.le_refl _) _) (by simp) _) (by simp; omega) _)
set_option maxRecDepth 100000 in
set_option maxHeartbeats 2000000 in
theorem edges_8 (x y z nd ph : Int) (ha : l[a]? = some ⟨8, x, y, z, nd, ph⟩) (hl : (l.length : Int) ≤ 9000000000000000000) (h : Ins w w.heap.size A l) :
    Calls Tryd.prog 36 #[.agg #[.slice A l.length c, .slice As ns cs, .slice Al nk ck, .int .i64 g], .int .i64 (a : Int)] w fun e w' => GivesS w [((a : Int) + 1, 0), (y, 0), (z, 0)] e w' := by
  have hlt : a < l.length := (List.getElem?_eq_some_iff.1 ha).1
  obtain ⟨b, off, rfl, hb, hc⟩ := h (by omega)
  obtain ⟨c0, c1, c2, c3, c4, c5⟩ := hc a _ ha
  dsimp only at c0 c1 c2 c3 c4 c5
  have hal1 : ∀ j : Nat, (w.alloc (.cells #[.slice (some ⟨b, off, none⟩) l.length c, .slice As ns cs, .slice Al nk ck, .int .i64 g] 33)).cell? ⟨b, j, none⟩ = w.cell? ⟨b, j, none⟩ := fun j => (World.cell?_alloc_lt w _ ⟨b, j, none⟩ hb)
  replace c0 := (hal1 _).trans c0
  replace c1 := (hal1 _).trans c1
  replace c2 := (hal1 _).trans c2
  replace c3 := (hal1 _).trans c3
  replace c4 := (hal1 _).trans c4
  replace c5 := (hal1 _).trans c5
  have hwa : IntKind.i64.wrap ((a : Int) + 1) = (a : Int) + 1 := wrap_id _ (by omega) (by omega)
  clear hal1 hc h ha
  go_enter Tryd.func36, Tryd.ntmps36
  go_wp2_with fail
  go_ret
  exact gives_newT _ (by simp) rfl rfl (below_al (below_al (below_al (Below.refl _ _) (Nat.le_refl _) _) (by simp) _) (by simp; omega) _)
set_option maxRecDepth 100000 in
set_option maxHeartbeats 2000000 in
theorem edges_16 (x y z nd ph : Int) (ha : l[a]? = some ⟨16, x, y, z, nd, ph⟩) (hl : (l.length : Int) ≤ 9000000000000000000) (h : Ins w w.heap.size A l) :
    Calls Tryd.prog 36 #[.agg #[.slice A l.length c, .slice As ns cs, .slice Al nk ck, .int .i64 g], .int .i64 (a : Int)] w fun e w' => GivesS w [((a : Int) + 1, -1)] e w' := by
  have hlt : a < l.length := (List.getElem?_eq_some_iff.1 ha).1
  obtain ⟨b, off, rfl, hb, hc⟩ := h (by omega)
  obtain ⟨c0, c1, c2, c3, c4, c5⟩ := hc a _ ha
  dsimp only at c0 c1 c2 c3 c4 c5
  have hal1 : ∀ j : Nat, (w.alloc (.cells #[.slice (some ⟨b, off, none⟩) l.length c, .slice As ns cs, .slice Al nk ck, .int .i64 g] 33)).cell? ⟨b, j, none⟩ = w.cell? ⟨b, j, none⟩ := fun j => (World.cell?_alloc_lt w _ ⟨b, j, none⟩ hb)
  replace c0 := (hal1 _).trans c0
  replace c1 := (hal1 _).trans c1
  replace c2 := (hal1 _).trans c2
  replace c3 := (hal1 _).trans c3
  replace c4 := (hal1 _).trans c4
  replace c5 := (hal1 _).trans c5
  have hwa : IntKind.i64.wrap ((a : Int) + 1) = (a : Int) + 1 := wrap_id _ (by omega) (by omega)
  clear hal1 hc h ha
  go_enter Tryd.func36, Tryd.ntmps36
  go_wp2_with fail
  go_ret
  exact gives_newT _ (by simp) rfl rfl (below_al (below_al (below_al (Below.refl _ _) (Nat.le_refl _) _) (by simp) _) (by simp; omega) _)
set_option maxRecDepth 100000 in
set_option maxHeartbeats 2000000 in
theorem edges_17 (x y z nd ph : Int) (ha : l[a]? = some ⟨17, x, y, z, nd, ph⟩) (hl : (l.length : Int) ≤ 9000000000000000000) (h : Ins w w.heap.size A l) :
    Calls Tryd.prog 36 #[.agg #[.slice A l.length c, .slice As ns cs, .slice Al nk ck, .int .i64 g], .int .i64 (a : Int)] w fun e w' => GivesS w [((a : Int) + 1, -1)] e w' := by
  have hlt : a < l.length := (List.getElem?_eq_some_iff.1 ha).1
  obtain ⟨b, off, rfl, hb, hc⟩ := h (by omega)
  obtain ⟨c0, c1, c2, c3, c4, c5⟩ := hc a _ ha
  dsimp only at c0 c1 c2 c3 c4 c5
  have hal1 : ∀ j : Nat, (w.alloc (.cells #[.slice (some ⟨b, off, none⟩) l.length c, .slice As ns cs, .slice Al nk ck, .int .i64 g] 33)).cell? ⟨b, j, none⟩ = w.cell? ⟨b, j, none⟩ := fun j => (World.cell?_alloc_lt w _ ⟨b, j, none⟩ hb)
  replace c0 := (hal1 _).trans c0
  replace c1 := (hal1 _).trans c1
  replace c2 := (hal1 _).trans c2
  replace c3 := (hal1 _).trans c3
  replace c4 := (hal1 _).trans c4
  replace c5 := (hal1 _).trans c5
  have hwa : IntKind.i64.wrap ((a : Int) + 1) = (a : Int) + 1 := wrap_id _ (by omega) (by omega)
  clear hal1 hc h ha
  go_enter Tryd.func36, Tryd.ntmps36
  go_wp2_with fail
  go_ret
  exact gives_newT _ (by simp) rfl rfl (below_al (below_al (below_al (Below.refl _ _) (Nat.le_refl _) _) (by simp) _) (by simp; omega) _)
set_option maxRecDepth 100000 in
set_option maxHeartbeats 2000000 in
theorem edges_13a (x y z nd ph : Int) (px : decide (0 ≤ x) = false) (px2 : x < 0) (ha : l[a]? = some ⟨13, x, y, z, nd, ph⟩) (hl : (l.length : Int) ≤ 9000000000000000000) (h : Ins w w.heap.size A l) :
    Calls Tryd.prog 36 #[.agg #[.slice A l.length c, .slice As ns cs, .slice Al nk ck, .int .i64 g], .int .i64 (a : Int)] w fun e w' => GivesS w [((a : Int) + 1, 1)] e w' := by
  have hlt : a < l.length := (List.getElem?_eq_some_iff.1 ha).1
  obtain ⟨b, off, rfl, hb, hc⟩ := h (by omega)
  obtain ⟨c0, c1, c2, c3, c4, c5⟩ := hc a _ ha
  dsimp only at c0 c1 c2 c3 c4 c5
  have hal1 : ∀ j : Nat, (w.alloc (.cells #[.slice (some ⟨b, off, none⟩) l.length c, .slice As ns cs, .slice Al nk ck, .int .i64 g] 33)).cell? ⟨b, j, none⟩ = w.cell? ⟨b, j, none⟩ := fun j => (World.cell?_alloc_lt w _ ⟨b, j, none⟩ hb)
  replace c0 := (hal1 _).trans c0
  replace c1 := (hal1 _).trans c1
  replace c2 := (hal1 _).trans c2
  replace c3 := (hal1 _).trans c3
  replace c4 := (hal1 _).trans c4
  replace c5 := (hal1 _).trans c5
  have hwa : IntKind.i64.wrap ((a : Int) + 1) = (a : Int) + 1 := wrap_id _ (by omega) (by omega)
  clear hal1 hc h ha
  go_enter Tryd.func36, Tryd.ntmps36
  go_wp2_with fail
  go_ret
  exact gives_newT _ (by simp) rfl rfl (below_al (below_al (below_al (Below.refl _ _) (Nat.le_refl _) _) (by simp) _) (by simp; omega) _)
set_option maxRecDepth 100000 in
set_option maxHeartbeats 2000000 in
theorem edges_13b (x y z nd ph : Int) (px : 0 ≤ x) (ha : l[a]? = some ⟨13, x, y, z, nd, ph⟩) (hl : (l.length : Int) ≤ 9000000000000000000) (h : Ins w w.heap.size A l) :
    Calls Tryd.prog 36 #[.agg #[.slice A l.length c, .slice As ns cs, .slice Al nk ck, .int .i64 g], .int .i64 (a : Int)] w fun e w' => GivesS w [((a : Int) + 1, 1), (x, 0)] e w' := by
  have hlt : a < l.length := (List.getElem?_eq_some_iff.1 ha).1
  obtain ⟨b, off, rfl, hb, hc⟩ := h (by omega)
  obtain ⟨c0, c1, c2, c3, c4, c5⟩ := hc a _ ha
  dsimp only at c0 c1 c2 c3 c4 c5
  have hal1 : ∀ j : Nat, (w.alloc (.cells #[.slice (some ⟨b, off, none⟩) l.length c, .slice As ns cs, .slice Al nk ck, .int .i64 g] 33)).cell? ⟨b, j, none⟩ = w.cell? ⟨b, j, none⟩ := fun j => (World.cell?_alloc_lt w _ ⟨b, j, none⟩ hb)
  replace c0 := (hal1 _).trans c0
  replace c1 := (hal1 _).trans c1
  replace c2 := (hal1 _).trans c2
  replace c3 := (hal1 _).trans c3
  replace c4 := (hal1 _).trans c4
  replace c5 := (hal1 _).trans c5
  have hwa : IntKind.i64.wrap ((a : Int) + 1) = (a : Int) + 1 := wrap_id _ (by omega) (by omega)
  clear hal1 hc h ha
  go_enter Tryd.func36, Tryd.ntmps36
  go_wp2_with fail
  go_ret
  exact gives_newT _ (by simp) rfl rfl (below_al (below_al (below_al (Below.refl _ _) (Nat.le_refl _) _) (by simp) _) (by simp; omega) _)
set_option maxRecDepth 100000 in
set_option maxHeartbeats 2000000 in
theorem edges_4a (x y z nd ph : Int) (px : decide (0 ≤ x) = false) (px2 : x < 0) (ha : l[a]? = some ⟨4, x, y, z, nd, ph⟩) (hl : (l.length : Int) ≤ 9000000000000000000) (h : Ins w w.heap.size A l) :
    Calls Tryd.prog 36 #[.agg #[.slice A l.length c, .slice As ns cs, .slice Al nk ck, .int .i64 g], .int .i64 (a : Int)] w fun e w' => GivesS w [((a : Int) + 1, 0)] e w' := by
  have hlt : a < l.length := (List.getElem?_eq_some_iff.1 ha).1
  obtain ⟨b, off, rfl, hb, hc⟩ := h (by omega)
  obtain ⟨c0, c1, c2, c3, c4, c5⟩ := hc a _ ha
  dsimp only at c0 c1 c2 c3 c4 c5
  have hal1 : ∀ j : Nat, (w.alloc (.cells #[.slice (some ⟨b, off, none⟩) l.length c, .slice As ns cs, .slice Al nk ck, .int .i64 g] 33)).cell? ⟨b, j, none⟩ = w.cell? ⟨b, j, none⟩ := fun j => (World.cell?_alloc_lt w _ ⟨b, j, none⟩ hb)
  replace c0 := (hal1 _).trans c0
  replace c1 := (hal1 _).trans c1
  replace c2 := (hal1 _).trans c2
  replace c3 := (hal1 _).trans c3
  replace c4 := (hal1 _).trans c4
  replace c5 := (hal1 _).trans c5
  have hwa : IntKind.i64.wrap ((a : Int) + 1) = (a : Int) + 1 := wrap_id _ (by omega) (by omega)
  clear hal1 hc h ha
  go_enter Tryd.func36, Tryd.ntmps36
  go_wp2_with fail
  go_ret
  exact gives_newT _ (by simp) rfl rfl (below_al (below_al (below_al (Below.refl _ _) (Nat.le_refl _) _) (by simp) _) (by simp; omega) _)
set_option maxRecDepth 100000 in
set_option maxHeartbeats 2000000 in
theorem edges_4b (x y z nd ph : Int) (px : 0 ≤ x) (ha : l[a]? = some ⟨4, x, y, z, nd, ph⟩) (hl : (l.length : Int) ≤ 9000000000000000000) (h : Ins w w.heap.size A l) :
    Calls Tryd.prog 36 #[.agg #[.slice A l.length c, .slice As ns cs, .slice Al nk ck, .int .i64 g], .int .i64 (a : Int)] w fun e w' => GivesS w [((a : Int) + 1, 0), (x, 0)] e w' := by
  have hlt : a < l.length := (List.getElem?_eq_some_iff.1 ha).1
  obtain ⟨b, off, rfl, hb, hc⟩ := h (by omega)
  obtain ⟨c0, c1, c2, c3, c4, c5⟩ := hc a _ ha
  dsimp only at c0 c1 c2 c3 c4 c5
  have hal1 : ∀ j : Nat, (w.alloc (.cells #[.slice (some ⟨b, off, none⟩) l.length c, .slice As ns cs, .slice Al nk ck, .int .i64 g] 33)).cell? ⟨b, j, none⟩ = w.cell? ⟨b, j, none⟩ := fun j => (World.cell?_alloc_lt w _ ⟨b, j, none⟩ hb)
  replace c0 := (hal1 _).trans c0
  replace c1 := (hal1 _).trans c1
  replace c2 := (hal1 _).trans c2
  replace c3 := (hal1 _).trans c3
  replace c4 := (hal1 _).trans c4
  replace c5 := (hal1 _).trans c5
  have hwa : IntKind.i64.wrap ((a : Int) + 1) = (a : Int) + 1 := wrap_id _ (by omega) (by omega)
  clear hal1 hc h ha
  go_enter Tryd.func36, Tryd.ntmps36
  go_wp2_with fail
  go_ret
  exact gives_newT _ (by simp) rfl rfl (below_al (below_al (below_al (Below.refl _ _) (Nat.le_refl _) _) (by simp) _) (by simp; omega) _)
set_option maxRecDepth 100000 in
set_option maxHeartbeats 2000000 in
theorem edges_5a (x y z nd ph : Int) (px : decide (0 ≤ x) = false) (px2 : x < 0) (ha : l[a]? = some ⟨5, x, y, z, nd, ph⟩) (hl : (l.length : Int) ≤ 9000000000000000000) (h : Ins w w.heap.size A l) :
    Calls Tryd.prog 36 #[.agg #[.slice A l.length c, .slice As ns cs, .slice Al nk ck, .int .i64 g], .int .i64 (a : Int)] w fun e w' => GivesS w [((a : Int) + 1, 0)] e w' := by
  have hlt : a < l.length := (List.getElem?_eq_some_iff.1 ha).1
  obtain ⟨b, off, rfl, hb, hc⟩ := h (by omega)
  obtain ⟨c0, c1, c2, c3, c4, c5⟩ := hc a _ ha
  dsimp only at c0 c1 c2 c3 c4 c5
  have hal1 : ∀ j : Nat, (w.alloc (.cells #[.slice (some ⟨b, off, none⟩) l.length c, .slice As ns cs, .slice Al nk ck, .int .i64 g] 33)).cell? ⟨b, j, none⟩ = w.cell? ⟨b, j, none⟩ := fun j => (World.cell?_alloc_lt w _ ⟨b, j, none⟩ hb)
  replace c0 := (hal1 _).trans c0
  replace c1 := (hal1 _).trans c1
  replace c2 := (hal1 _).trans c2
  replace c3 := (hal1 _).trans c3
  replace c4 := (hal1 _).trans c4
  replace c5 := (hal1 _).trans c5
  have hwa : IntKind.i64.wrap ((a : Int) + 1) = (a : Int) + 1 := wrap_id _ (by omega) (by omega)
  clear hal1 hc h ha
  go_enter Tryd.func36, Tryd.ntmps36
  go_wp2_with fail
  go_ret
  exact gives_newT _ (by simp) rfl rfl (below_al (below_al (below_al (Below.refl _ _) (Nat.le_refl _) _) (by simp) _) (by simp; omega) _)
set_option maxRecDepth 100000 in
set_option maxHeartbeats 2000000 in
theorem edges_5b (x y z nd ph : Int) (px : 0 ≤ x) (ha : l[a]? = some ⟨5, x, y, z, nd, ph⟩) (hl : (l.length : Int) ≤ 9000000000000000000) (h : Ins w w.heap.size A l) :
    Calls Tryd.prog 36 #[.agg #[.slice A l.length c, .slice As ns cs, .slice Al nk ck, .int .i64 g], .int .i64 (a : Int)] w fun e w' => GivesS w [((a : Int) + 1, 0), (x, 0)] e w' := by
  have hlt : a < l.length := (List.getElem?_eq_some_iff.1 ha).1
  obtain ⟨b, off, rfl, hb, hc⟩ := h (by omega)
  obtain ⟨c0, c1, c2, c3, c4, c5⟩ := hc a _ ha
  dsimp only at c0 c1 c2 c3 c4 c5
  have hal1 : ∀ j : Nat, (w.alloc (.cells #[.slice (some ⟨b, off, none⟩) l.length c, .slice As ns cs, .slice Al nk ck, .int .i64 g] 33)).cell? ⟨b, j, none⟩ = w.cell? ⟨b, j, none⟩ := fun j => (World.cell?_alloc_lt w _ ⟨b, j, none⟩ hb)
  replace c0 := (hal1 _).trans c0
  replace c1 := (hal1 _).trans c1
  replace c2 := (hal1 _).trans c2
  replace c3 := (hal1 _).trans c3
  replace c4 := (hal1 _).trans c4
  replace c5 := (hal1 _).trans c5
  have hwa : IntKind.i64.wrap ((a : Int) + 1) = (a : Int) + 1 := wrap_id _ (by omega) (by omega)
  clear hal1 hc h ha
  go_enter Tryd.func36, Tryd.ntmps36
  go_wp2_with fail
  go_ret
  exact gives_newT _ (by simp) rfl rfl (below_al (below_al (below_al (Below.refl _ _) (Nat.le_refl _) _) (by simp) _) (by simp; omega) _)
set_option maxRecDepth 100000 in
set_option maxHeartbeats 2000000 in
theorem edges_rest (op x y z nd ph : Int) (e18 : (op == 18) = false) (e19 : (op == 19) = false) (e6 : (op == 6) = false) (e10 : (op == 10) = false) (e8 : (op == 8) = false) (e16 : (op == 16) = false) (e17 : (op == 17) = false) (e13 : (op == 13) = false) (e4 : (op == 4) = false) (e5 : (op == 5) = false) (ha : l[a]? = some ⟨op, x, y, z, nd, ph⟩) (hl : (l.length : Int) ≤ 9000000000000000000) (h : Ins w w.heap.size A l) :
    Calls Tryd.prog 36 #[.agg #[.slice A l.length c, .slice As ns cs, .slice Al nk ck, .int .i64 g], .int .i64 (a : Int)] w fun e w' => GivesS w [((a : Int) + 1, 0)] e w' := by
  have hlt : a < l.length := (List.getElem?_eq_some_iff.1 ha).1
  obtain ⟨b, off, rfl, hb, hc⟩ := h (by omega)
  obtain ⟨c0, c1, c2, c3, c4, c5⟩ := hc a _ ha
  dsimp only at c0 c1 c2 c3 c4 c5
  have hal1 : ∀ j : Nat, (w.alloc (.cells #[.slice (some ⟨b, off, none⟩) l.length c, .slice As ns cs, .slice Al nk ck, .int .i64 g] 33)).cell? ⟨b, j, none⟩ = w.cell? ⟨b, j, none⟩ := fun j => (World.cell?_alloc_lt w _ ⟨b, j, none⟩ hb)
  replace c0 := (hal1 _).trans c0
  replace c1 := (hal1 _).trans c1
  replace c2 := (hal1 _).trans c2
  replace c3 := (hal1 _).trans c3
  replace c4 := (hal1 _).trans c4
  replace c5 := (hal1 _).trans c5
  have hwa : IntKind.i64.wrap ((a : Int) + 1) = (a : Int) + 1 := wrap_id _ (by omega) (by omega)
  clear hal1 hc h ha
  go_enter Tryd.func36, Tryd.ntmps36
  go_wp2_with fail
  go_ret
  exact gives_newT _ (by simp) rfl rfl (below_al (below_al (below_al (Below.refl _ _) (Nat.le_refl _) _) (by simp) _) (by simp; omega) _)
/-- **edges**. -/
theorem edges_any (i : In) (ha : l[a]? = some i) (hl : (l.length : Int) ≤ 9000000000000000000) (h : Ins w w.heap.size A l) :
    Calls Tryd.prog 36 #[.agg #[.slice A l.length c, .slice As ns cs, .slice Al nk ck, .int .i64 g], .int .i64 (a : Int)] w fun e w' => GivesS w (edgesP i a) e w' := by
  obtain ⟨op, x, y, z, nd, ph⟩ := i
  unfold edgesP
  dsimp only
  by_cases h18 : op = 18
  · subst h18; simpa using edges_18 l As Al A c ns cs nk ck g a w x y z nd ph ha hl h
  by_cases h19 : op = 19
  · subst h19; simpa using edges_19 l As Al A c ns cs nk ck g a w x y z nd ph ha hl h
  by_cases h6 : op = 6
  · subst h6; simpa using edges_6 l As Al A c ns cs nk ck g a w x y z nd ph ha hl h
  by_cases h10 : op = 10
  · subst h10; simpa using edges_10 l As Al A c ns cs nk ck g a w x y z nd ph ha hl h
  by_cases h8 : op = 8
  · subst h8; simpa using edges_8 l As Al A c ns cs nk ck g a w x y z nd ph ha hl h
  by_cases h16 : op = 16
  · subst h16; simpa using edges_16 l As Al A c ns cs nk ck g a w x y z nd ph ha hl h
  by_cases h17 : op = 17
  · subst h17; simpa using edges_17 l As Al A c ns cs nk ck g a w x y z nd ph ha hl h
  by_cases h13 : op = 13
  · subst h13
    by_cases hx : 0 ≤ x
    · simpa [hx] using edges_13b l As Al A c ns cs nk ck g a w x y z nd ph hx ha hl h
    · simpa [hx] using edges_13a l As Al A c ns cs nk ck g a w x y z nd ph (decide_eq_false hx) (by omega) ha hl h
  by_cases h4 : op = 4
  · subst h4
    by_cases hx : 0 ≤ x
    · simpa [hx] using edges_4b l As Al A c ns cs nk ck g a w x y z nd ph hx ha hl h
    · simpa [hx] using edges_4a l As Al A c ns cs nk ck g a w x y z nd ph (decide_eq_false hx) (by omega) ha hl h
  by_cases h5 : op = 5
  · subst h5
    by_cases hx : 0 ≤ x
    · simpa [hx] using edges_5b l As Al A c ns cs nk ck g a w x y z nd ph hx ha hl h
    · simpa [hx] using edges_5a l As Al A c ns cs nk ck g a w x y z nd ph (decide_eq_false hx) (by omega) ha hl h
  simpa [h18, h19, h6, h10, h8, h16, h17, h13, h4, h5] using edges_rest l As Al A c ns cs nk ck g a w op x y z nd ph (beq_eq_false_iff_ne.2 h18) (beq_eq_false_iff_ne.2 h19) (beq_eq_false_iff_ne.2 h6) (beq_eq_false_iff_ne.2 h10) (beq_eq_false_iff_ne.2 h8) (beq_eq_false_iff_ne.2 h16) (beq_eq_false_iff_ne.2 h17) (beq_eq_false_iff_ne.2 h13) (beq_eq_false_iff_ne.2 h4) (beq_eq_false_iff_ne.2 h5) ha hl h
end
end Go.Proofs.YtiaelaepfhiabaaDoor.Co
