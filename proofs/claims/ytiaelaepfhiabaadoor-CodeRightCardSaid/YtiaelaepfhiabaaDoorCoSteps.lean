/-
  code.steps, walked. Condition: the instructions lie in memory, the place is one of theirs.
-/
import Derived.Test.YtiaelaepfhiabaaDoorCoFits1
set_option linter.unusedVariables false
set_option linter.unusedSimpArgs false
namespace Go.Proofs.YtiaelaepfhiabaaDoor.Co
open Go.RowKit Go.Proofs.YtiaelaepfhiabaaDoor.Mem Go.Proofs.YtiaelaepfhiabaaDoor.Rs
theorem build_step (x y : Int) (w : World) : Sem.run Tryd.prog (Instr.build 66 #[(0, .int .i64 x), (1, .int .i64 y)]) w = .ok (.agg #[.int .i64 x, .int .i64 y]) w := run_build w 66 _ _ (by kernel_rfl)
attribute [local go_sem] build_step
/-- a row of places and barriers is handed back -/
def GivesS (w : World) (L : List (Int × Int)) (e : Ending) (w' : World) : Prop := ∃ A cap, e = .returned (.slice A L.length cap) ∧ Lst w' w'.heap.size A L ∧ L.length ≤ cap ∧ Below w.heap.size w w' ∧ ∀ ad, A = some ad → w.heap.size ≤ ad.block
theorem gives_new {w W : World} {g n : Nat} {L : List (Int × Int)} (C : Array Value) (hg : g = W.heap.size) (hC : C.toList = flat L) (hn : n = L.length) (hb : Below w.heap.size w W) : GivesS w L (.returned (.slice (some ⟨g, 0, none⟩) n n)) (W.alloc (.cells C 66)) := by
  subst hn
  have hs : C.size = L.length * 2 := by rw [← Array.length_toList, hC, flat_len]
  have h := (reads_at hg C 66 L.length 2 hs).more (B' := (W.alloc (.cells C 66)).heap.size) (by simp [hg])
  rw [hC] at h
  exact ⟨_, _, rfl, Lst.of_reads h, Nat.le_refl _, below_al hb hb.size _, fun ad e => by injection e with e; subst e; show w.heap.size ≤ g; rw [hg]; exact hb.size⟩
section
variable (l : List In) (As Al : Option Addr) (A : Option Addr) (c ns cs nk ck : Nat) (g m : Int) (a : Nat) (w : World)
set_option maxRecDepth 100000 in
set_option maxHeartbeats 2000000 in
theorem steps_4 (x y z nd ph : Int) (ha : l[a]? = some ⟨4, x, y, z, nd, ph⟩) (hl : (l.length : Int) ≤ 9000000000000000000) (hm : 0 ≤ m) (hm2 : m ≤ 9000000000000000000) (h : Ins w w.heap.size A l) :
    Calls Tryd.prog 33 #[.agg #[.slice A l.length c, .slice As ns cs, .slice Al nk ck, .int .i64 g], .int .i64 (a : Int), .int .i64 m] w fun e w' => GivesS w [((a : Int) + 1, m), (x, m)] e w' := by
  have hlt : a < l.length := (List.getElem?_eq_some_iff.1 ha).1
  obtain ⟨b, off, rfl, hb, hc⟩ := h (by omega)
  obtain ⟨c0, c1, c2, c3, c4, c5⟩ := hc a _ ha
  dsimp only at c0 c1 c2 c3 c4 c5
  have hal1 : ∀ j : Nat, (w.alloc (.cells #[.slice (some ⟨b, off, none⟩) l.length c, .slice As ns cs, .slice Al nk ck, .int .i64 g] 26)).cell? ⟨b, j, none⟩ = w.cell? ⟨b, j, none⟩ := fun j => (World.cell?_alloc_lt w _ ⟨b, j, none⟩ hb)
  replace c0 := (hal1 _).trans c0
  replace c1 := (hal1 _).trans c1
  replace c2 := (hal1 _).trans c2
  replace c3 := (hal1 _).trans c3
  replace c4 := (hal1 _).trans c4
  replace c5 := (hal1 _).trans c5
  have hwa : IntKind.i64.wrap ((a : Int) + 1) = (a : Int) + 1 := wrap_id _ (by omega) (by omega)
  have hwm : IntKind.i64.wrap (m + 1) = m + 1 := wrap_id _ (by omega) (by omega)
  have hwn : IntKind.i64.wrap (m - 1) = m - 1 := wrap_id _ (by omega) (by omega)
  clear hal1 hc h ha
  go_enter Tryd.func33, Tryd.ntmps33
  go_wp2_with fail
  go_ret
  exact gives_new _ (by simp) rfl rfl (below_al (below_al (below_al (Below.refl _ _) (Nat.le_refl _) _) (by simp) _) (by simp; omega) _)
set_option maxRecDepth 100000 in
set_option maxHeartbeats 2000000 in
theorem steps_5a (y z nd ph : Int) (ha : l[a]? = some ⟨5, -1, y, z, nd, ph⟩) (hl : (l.length : Int) ≤ 9000000000000000000) (hm : 0 ≤ m) (hm2 : m ≤ 9000000000000000000) (h : Ins w w.heap.size A l) :
    Calls Tryd.prog 33 #[.agg #[.slice A l.length c, .slice As ns cs, .slice Al nk ck, .int .i64 g], .int .i64 (a : Int), .int .i64 m] w fun e w' => GivesS w [((a : Int) + 1, m)] e w' := by
  have hlt : a < l.length := (List.getElem?_eq_some_iff.1 ha).1
  obtain ⟨b, off, rfl, hb, hc⟩ := h (by omega)
  obtain ⟨c0, c1, c2, c3, c4, c5⟩ := hc a _ ha
  dsimp only at c0 c1 c2 c3 c4 c5
  have hal1 : ∀ j : Nat, (w.alloc (.cells #[.slice (some ⟨b, off, none⟩) l.length c, .slice As ns cs, .slice Al nk ck, .int .i64 g] 26)).cell? ⟨b, j, none⟩ = w.cell? ⟨b, j, none⟩ := fun j => (World.cell?_alloc_lt w _ ⟨b, j, none⟩ hb)
  replace c0 := (hal1 _).trans c0
  replace c1 := (hal1 _).trans c1
  replace c2 := (hal1 _).trans c2
  replace c3 := (hal1 _).trans c3
  replace c4 := (hal1 _).trans c4
  replace c5 := (hal1 _).trans c5
  have hwa : IntKind.i64.wrap ((a : Int) + 1) = (a : Int) + 1 := wrap_id _ (by omega) (by omega)
  have hwm : IntKind.i64.wrap (m + 1) = m + 1 := wrap_id _ (by omega) (by omega)
  have hwn : IntKind.i64.wrap (m - 1) = m - 1 := wrap_id _ (by omega) (by omega)
  clear hal1 hc h ha
  go_enter Tryd.func33, Tryd.ntmps33
  go_wp2_with fail
  go_ret
  exact gives_new _ (by simp) rfl rfl (below_al (below_al (below_al (Below.refl _ _) (Nat.le_refl _) _) (by simp) _) (by simp; omega) _)
set_option maxRecDepth 100000 in
set_option maxHeartbeats 2000000 in
theorem steps_5b (x y z nd ph : Int) (ex : (x != -1) = true) (ha : l[a]? = some ⟨5, x, y, z, nd, ph⟩) (hl : (l.length : Int) ≤ 9000000000000000000) (hm : 0 ≤ m) (hm2 : m ≤ 9000000000000000000) (h : Ins w w.heap.size A l) :
    Calls Tryd.prog 33 #[.agg #[.slice A l.length c, .slice As ns cs, .slice Al nk ck, .int .i64 g], .int .i64 (a : Int), .int .i64 m] w fun e w' => GivesS w [((a : Int) + 1, m), (x, m)] e w' := by
  have hlt : a < l.length := (List.getElem?_eq_some_iff.1 ha).1
  obtain ⟨b, off, rfl, hb, hc⟩ := h (by omega)
  obtain ⟨c0, c1, c2, c3, c4, c5⟩ := hc a _ ha
  dsimp only at c0 c1 c2 c3 c4 c5
  have hal1 : ∀ j : Nat, (w.alloc (.cells #[.slice (some ⟨b, off, none⟩) l.length c, .slice As ns cs, .slice Al nk ck, .int .i64 g] 26)).cell? ⟨b, j, none⟩ = w.cell? ⟨b, j, none⟩ := fun j => (World.cell?_alloc_lt w _ ⟨b, j, none⟩ hb)
  replace c0 := (hal1 _).trans c0
  replace c1 := (hal1 _).trans c1
  replace c2 := (hal1 _).trans c2
  replace c3 := (hal1 _).trans c3
  replace c4 := (hal1 _).trans c4
  replace c5 := (hal1 _).trans c5
  have hwa : IntKind.i64.wrap ((a : Int) + 1) = (a : Int) + 1 := wrap_id _ (by omega) (by omega)
  have hwm : IntKind.i64.wrap (m + 1) = m + 1 := wrap_id _ (by omega) (by omega)
  have hwn : IntKind.i64.wrap (m - 1) = m - 1 := wrap_id _ (by omega) (by omega)
  clear hal1 hc h ha
  go_enter Tryd.func33, Tryd.ntmps33
  go_wp2_with fail
  go_ret
  exact gives_new _ (by simp) rfl rfl (below_al (below_al (below_al (Below.refl _ _) (Nat.le_refl _) _) (by simp) _) (by simp; omega) _)
set_option maxRecDepth 100000 in
set_option maxHeartbeats 2000000 in
theorem steps_8 (x y z nd ph : Int) (ha : l[a]? = some ⟨8, x, y, z, nd, ph⟩) (hl : (l.length : Int) ≤ 9000000000000000000) (hm : 0 ≤ m) (hm2 : m ≤ 9000000000000000000) (h : Ins w w.heap.size A l) :
    Calls Tryd.prog 33 #[.agg #[.slice A l.length c, .slice As ns cs, .slice Al nk ck, .int .i64 g], .int .i64 (a : Int), .int .i64 m] w fun e w' => GivesS w [((a : Int) + 1, m), (y, m), (z, m)] e w' := by
  have hlt : a < l.length := (List.getElem?_eq_some_iff.1 ha).1
  obtain ⟨b, off, rfl, hb, hc⟩ := h (by omega)
  obtain ⟨c0, c1, c2, c3, c4, c5⟩ := hc a _ ha
  dsimp only at c0 c1 c2 c3 c4 c5
  have hal1 : ∀ j : Nat, (w.alloc (.cells #[.slice (some ⟨b, off, none⟩) l.length c, .slice As ns cs, .slice Al nk ck, .int .i64 g] 26)).cell? ⟨b, j, none⟩ = w.cell? ⟨b, j, none⟩ := fun j => (World.cell?_alloc_lt w _ ⟨b, j, none⟩ hb)
  replace c0 := (hal1 _).trans c0
  replace c1 := (hal1 _).trans c1
  replace c2 := (hal1 _).trans c2
  replace c3 := (hal1 _).trans c3
  replace c4 := (hal1 _).trans c4
  replace c5 := (hal1 _).trans c5
  have hwa : IntKind.i64.wrap ((a : Int) + 1) = (a : Int) + 1 := wrap_id _ (by omega) (by omega)
  have hwm : IntKind.i64.wrap (m + 1) = m + 1 := wrap_id _ (by omega) (by omega)
  have hwn : IntKind.i64.wrap (m - 1) = m - 1 := wrap_id _ (by omega) (by omega)
  clear hal1 hc h ha
  go_enter Tryd.func33, Tryd.ntmps33
  go_wp2_with fail
  go_ret
  exact gives_new _ (by simp) rfl rfl (below_al (below_al (below_al (Below.refl _ _) (Nat.le_refl _) _) (by simp) _) (by simp; omega) _)
set_option maxRecDepth 100000 in
set_option maxHeartbeats 2000000 in
theorem steps_6 (x y z nd ph : Int) (ha : l[a]? = some ⟨6, x, y, z, nd, ph⟩) (hl : (l.length : Int) ≤ 9000000000000000000) (hm : 0 ≤ m) (hm2 : m ≤ 9000000000000000000) (h : Ins w w.heap.size A l) :
    Calls Tryd.prog 33 #[.agg #[.slice A l.length c, .slice As ns cs, .slice Al nk ck, .int .i64 g], .int .i64 (a : Int), .int .i64 m] w fun e w' => GivesS w [(x, m)] e w' := by
  have hlt : a < l.length := (List.getElem?_eq_some_iff.1 ha).1
  obtain ⟨b, off, rfl, hb, hc⟩ := h (by omega)
  obtain ⟨c0, c1, c2, c3, c4, c5⟩ := hc a _ ha
  dsimp only at c0 c1 c2 c3 c4 c5
  have hal1 : ∀ j : Nat, (w.alloc (.cells #[.slice (some ⟨b, off, none⟩) l.length c, .slice As ns cs, .slice Al nk ck, .int .i64 g] 26)).cell? ⟨b, j, none⟩ = w.cell? ⟨b, j, none⟩ := fun j => (World.cell?_alloc_lt w _ ⟨b, j, none⟩ hb)
  replace c0 := (hal1 _).trans c0
  replace c1 := (hal1 _).trans c1
  replace c2 := (hal1 _).trans c2
  replace c3 := (hal1 _).trans c3
  replace c4 := (hal1 _).trans c4
  replace c5 := (hal1 _).trans c5
  have hwa : IntKind.i64.wrap ((a : Int) + 1) = (a : Int) + 1 := wrap_id _ (by omega) (by omega)
  have hwm : IntKind.i64.wrap (m + 1) = m + 1 := wrap_id _ (by omega) (by omega)
  have hwn : IntKind.i64.wrap (m - 1) = m - 1 := wrap_id _ (by omega) (by omega)
  clear hal1 hc h ha
  go_enter Tryd.func33, Tryd.ntmps33
  go_wp2_with fail
  go_ret
  exact gives_new _ (by simp) rfl rfl (below_al (below_al (below_al (Below.refl _ _) (Nat.le_refl _) _) (by simp) _) (by simp; omega) _)
set_option maxRecDepth 100000 in
set_option maxHeartbeats 2000000 in
theorem steps_10 (x y z nd ph : Int) (ha : l[a]? = some ⟨10, x, y, z, nd, ph⟩) (hl : (l.length : Int) ≤ 9000000000000000000) (hm : 0 ≤ m) (hm2 : m ≤ 9000000000000000000) (h : Ins w w.heap.size A l) :
    Calls Tryd.prog 33 #[.agg #[.slice A l.length c, .slice As ns cs, .slice Al nk ck, .int .i64 g], .int .i64 (a : Int), .int .i64 m] w fun e w' => GivesS w [(y, m)] e w' := by
  have hlt : a < l.length := (List.getElem?_eq_some_iff.1 ha).1
  obtain ⟨b, off, rfl, hb, hc⟩ := h (by omega)
  obtain ⟨c0, c1, c2, c3, c4, c5⟩ := hc a _ ha
  dsimp only at c0 c1 c2 c3 c4 c5
  have hal1 : ∀ j : Nat, (w.alloc (.cells #[.slice (some ⟨b, off, none⟩) l.length c, .slice As ns cs, .slice Al nk ck, .int .i64 g] 26)).cell? ⟨b, j, none⟩ = w.cell? ⟨b, j, none⟩ := fun j => (World.cell?_alloc_lt w _ ⟨b, j, none⟩ hb)
  replace c0 := (hal1 _).trans c0
  replace c1 := (hal1 _).trans c1
  replace c2 := (hal1 _).trans c2
  replace c3 := (hal1 _).trans c3
  replace c4 := (hal1 _).trans c4
  replace c5 := (hal1 _).trans c5
  have hwa : IntKind.i64.wrap ((a : Int) + 1) = (a : Int) + 1 := wrap_id _ (by omega) (by omega)
  have hwm : IntKind.i64.wrap (m + 1) = m + 1 := wrap_id _ (by omega) (by omega)
  have hwn : IntKind.i64.wrap (m - 1) = m - 1 := wrap_id _ (by omega) (by omega)
  clear hal1 hc h ha
  go_enter Tryd.func33, Tryd.ntmps33
  go_wp2_with fail
  go_ret
  exact gives_new _ (by simp) rfl rfl (below_al (below_al (below_al (Below.refl _ _) (Nat.le_refl _) _) (by simp) _) (by simp; omega) _)
set_option maxRecDepth 100000 in
set_option maxHeartbeats 2000000 in
theorem steps_13a (y z nd ph : Int) (ha : l[a]? = some ⟨13, -1, y, z, nd, ph⟩) (hl : (l.length : Int) ≤ 9000000000000000000) (hm : 0 ≤ m) (hm2 : m ≤ 9000000000000000000) (h : Ins w w.heap.size A l) :
    Calls Tryd.prog 33 #[.agg #[.slice A l.length c, .slice As ns cs, .slice Al nk ck, .int .i64 g], .int .i64 (a : Int), .int .i64 m] w fun e w' => GivesS w [((a : Int) + 1, m + 1)] e w' := by
  have hlt : a < l.length := (List.getElem?_eq_some_iff.1 ha).1
  obtain ⟨b, off, rfl, hb, hc⟩ := h (by omega)
  obtain ⟨c0, c1, c2, c3, c4, c5⟩ := hc a _ ha
  dsimp only at c0 c1 c2 c3 c4 c5
  have hal1 : ∀ j : Nat, (w.alloc (.cells #[.slice (some ⟨b, off, none⟩) l.length c, .slice As ns cs, .slice Al nk ck, .int .i64 g] 26)).cell? ⟨b, j, none⟩ = w.cell? ⟨b, j, none⟩ := fun j => (World.cell?_alloc_lt w _ ⟨b, j, none⟩ hb)
  replace c0 := (hal1 _).trans c0
  replace c1 := (hal1 _).trans c1
  replace c2 := (hal1 _).trans c2
  replace c3 := (hal1 _).trans c3
  replace c4 := (hal1 _).trans c4
  replace c5 := (hal1 _).trans c5
  have hwa : IntKind.i64.wrap ((a : Int) + 1) = (a : Int) + 1 := wrap_id _ (by omega) (by omega)
  have hwm : IntKind.i64.wrap (m + 1) = m + 1 := wrap_id _ (by omega) (by omega)
  have hwn : IntKind.i64.wrap (m - 1) = m - 1 := wrap_id _ (by omega) (by omega)
  clear hal1 hc h ha
  go_enter Tryd.func33, Tryd.ntmps33
  go_wp2_with fail
  go_ret
  exact gives_new _ (by simp) rfl rfl (below_al (below_al (below_al (Below.refl _ _) (Nat.le_refl _) _) (by simp) _) (by simp; omega) _)
set_option maxRecDepth 100000 in
set_option maxHeartbeats 2000000 in
theorem steps_13b (x y z nd ph : Int) (ex : (x != -1) = true) (ha : l[a]? = some ⟨13, x, y, z, nd, ph⟩) (hl : (l.length : Int) ≤ 9000000000000000000) (hm : 0 ≤ m) (hm2 : m ≤ 9000000000000000000) (h : Ins w w.heap.size A l) :
    Calls Tryd.prog 33 #[.agg #[.slice A l.length c, .slice As ns cs, .slice Al nk ck, .int .i64 g], .int .i64 (a : Int), .int .i64 m] w fun e w' => GivesS w [((a : Int) + 1, m + 1), (x, m)] e w' := by
  have hlt : a < l.length := (List.getElem?_eq_some_iff.1 ha).1
  obtain ⟨b, off, rfl, hb, hc⟩ := h (by omega)
  obtain ⟨c0, c1, c2, c3, c4, c5⟩ := hc a _ ha
  dsimp only at c0 c1 c2 c3 c4 c5
  have hal1 : ∀ j : Nat, (w.alloc (.cells #[.slice (some ⟨b, off, none⟩) l.length c, .slice As ns cs, .slice Al nk ck, .int .i64 g] 26)).cell? ⟨b, j, none⟩ = w.cell? ⟨b, j, none⟩ := fun j => (World.cell?_alloc_lt w _ ⟨b, j, none⟩ hb)
  replace c0 := (hal1 _).trans c0
  replace c1 := (hal1 _).trans c1
  replace c2 := (hal1 _).trans c2
  replace c3 := (hal1 _).trans c3
  replace c4 := (hal1 _).trans c4
  replace c5 := (hal1 _).trans c5
  have hwa : IntKind.i64.wrap ((a : Int) + 1) = (a : Int) + 1 := wrap_id _ (by omega) (by omega)
  have hwm : IntKind.i64.wrap (m + 1) = m + 1 := wrap_id _ (by omega) (by omega)
  have hwn : IntKind.i64.wrap (m - 1) = m - 1 := wrap_id _ (by omega) (by omega)
  clear hal1 hc h ha
  go_enter Tryd.func33, Tryd.ntmps33
  go_wp2_with fail
  go_ret
  exact gives_new _ (by simp) rfl rfl (below_al (below_al (below_al (Below.refl _ _) (Nat.le_refl _) _) (by simp) _) (by simp; omega) _)
set_option maxRecDepth 100000 in
set_option maxHeartbeats 2000000 in
theorem steps_16 (x y z nd ph : Int) (ha : l[a]? = some ⟨16, x, y, z, nd, ph⟩) (hl : (l.length : Int) ≤ 9000000000000000000) (hm : 0 ≤ m) (hm2 : m ≤ 9000000000000000000) (h : Ins w w.heap.size A l) :
    Calls Tryd.prog 33 #[.agg #[.slice A l.length c, .slice As ns cs, .slice Al nk ck, .int .i64 g], .int .i64 (a : Int), .int .i64 m] w fun e w' => GivesS w [((a : Int) + 1, m - 1)] e w' := by
  have hlt : a < l.length := (List.getElem?_eq_some_iff.1 ha).1
  obtain ⟨b, off, rfl, hb, hc⟩ := h (by omega)
  obtain ⟨c0, c1, c2, c3, c4, c5⟩ := hc a _ ha
  dsimp only at c0 c1 c2 c3 c4 c5
  have hal1 : ∀ j : Nat, (w.alloc (.cells #[.slice (some ⟨b, off, none⟩) l.length c, .slice As ns cs, .slice Al nk ck, .int .i64 g] 26)).cell? ⟨b, j, none⟩ = w.cell? ⟨b, j, none⟩ := fun j => (World.cell?_alloc_lt w _ ⟨b, j, none⟩ hb)
  replace c0 := (hal1 _).trans c0
  replace c1 := (hal1 _).trans c1
  replace c2 := (hal1 _).trans c2
  replace c3 := (hal1 _).trans c3
  replace c4 := (hal1 _).trans c4
  replace c5 := (hal1 _).trans c5
  have hwa : IntKind.i64.wrap ((a : Int) + 1) = (a : Int) + 1 := wrap_id _ (by omega) (by omega)
  have hwm : IntKind.i64.wrap (m + 1) = m + 1 := wrap_id _ (by omega) (by omega)
  have hwn : IntKind.i64.wrap (m - 1) = m - 1 := wrap_id _ (by omega) (by omega)
  clear hal1 hc h ha
  go_enter Tryd.func33, Tryd.ntmps33
  go_wp2_with fail
  go_ret
  exact gives_new _ (by simp) rfl rfl (below_al (below_al (below_al (Below.refl _ _) (Nat.le_refl _) _) (by simp) _) (by simp; omega) _)
set_option maxRecDepth 100000 in
set_option maxHeartbeats 2000000 in
theorem steps_17 (x y z nd ph : Int) (ha : l[a]? = some ⟨17, x, y, z, nd, ph⟩) (hl : (l.length : Int) ≤ 9000000000000000000) (hm : 0 ≤ m) (hm2 : m ≤ 9000000000000000000) (h : Ins w w.heap.size A l) :
    Calls Tryd.prog 33 #[.agg #[.slice A l.length c, .slice As ns cs, .slice Al nk ck, .int .i64 g], .int .i64 (a : Int), .int .i64 m] w fun e w' => GivesS w [((a : Int) + 1, m - 1)] e w' := by
  have hlt : a < l.length := (List.getElem?_eq_some_iff.1 ha).1
  obtain ⟨b, off, rfl, hb, hc⟩ := h (by omega)
  obtain ⟨c0, c1, c2, c3, c4, c5⟩ := hc a _ ha
  dsimp only at c0 c1 c2 c3 c4 c5
  have hal1 : ∀ j : Nat, (w.alloc (.cells #[.slice (some ⟨b, off, none⟩) l.length c, .slice As ns cs, .slice Al nk ck, .int .i64 g] 26)).cell? ⟨b, j, none⟩ = w.cell? ⟨b, j, none⟩ := fun j => (World.cell?_alloc_lt w _ ⟨b, j, none⟩ hb)
  replace c0 := (hal1 _).trans c0
  replace c1 := (hal1 _).trans c1
  replace c2 := (hal1 _).trans c2
  replace c3 := (hal1 _).trans c3
  replace c4 := (hal1 _).trans c4
  replace c5 := (hal1 _).trans c5
  have hwa : IntKind.i64.wrap ((a : Int) + 1) = (a : Int) + 1 := wrap_id _ (by omega) (by omega)
  have hwm : IntKind.i64.wrap (m + 1) = m + 1 := wrap_id _ (by omega) (by omega)
  have hwn : IntKind.i64.wrap (m - 1) = m - 1 := wrap_id _ (by omega) (by omega)
  clear hal1 hc h ha
  go_enter Tryd.func33, Tryd.ntmps33
  go_wp2_with fail
  go_ret
  exact gives_new _ (by simp) rfl rfl (below_al (below_al (below_al (Below.refl _ _) (Nat.le_refl _) _) (by simp) _) (by simp; omega) _)
set_option maxRecDepth 100000 in
set_option maxHeartbeats 2000000 in
theorem steps_18 (x y z nd ph : Int) (ha : l[a]? = some ⟨18, x, y, z, nd, ph⟩) (hl : (l.length : Int) ≤ 9000000000000000000) (hm : 0 ≤ m) (hm2 : m ≤ 9000000000000000000) (h : Ins w w.heap.size A l) :
    Calls Tryd.prog 33 #[.agg #[.slice A l.length c, .slice As ns cs, .slice Al nk ck, .int .i64 g], .int .i64 (a : Int), .int .i64 m] w fun e w' => GivesS w [] e w' := by
  have hlt : a < l.length := (List.getElem?_eq_some_iff.1 ha).1
  obtain ⟨b, off, rfl, hb, hc⟩ := h (by omega)
  obtain ⟨c0, c1, c2, c3, c4, c5⟩ := hc a _ ha
  dsimp only at c0 c1 c2 c3 c4 c5
  have hal1 : ∀ j : Nat, (w.alloc (.cells #[.slice (some ⟨b, off, none⟩) l.length c, .slice As ns cs, .slice Al nk ck, .int .i64 g] 26)).cell? ⟨b, j, none⟩ = w.cell? ⟨b, j, none⟩ := fun j => (World.cell?_alloc_lt w _ ⟨b, j, none⟩ hb)
  replace c0 := (hal1 _).trans c0
  replace c1 := (hal1 _).trans c1
  replace c2 := (hal1 _).trans c2
  replace c3 := (hal1 _).trans c3
  replace c4 := (hal1 _).trans c4
  replace c5 := (hal1 _).trans c5
  have hwa : IntKind.i64.wrap ((a : Int) + 1) = (a : Int) + 1 := wrap_id _ (by omega) (by omega)
  have hwm : IntKind.i64.wrap (m + 1) = m + 1 := wrap_id _ (by omega) (by omega)
  have hwn : IntKind.i64.wrap (m - 1) = m - 1 := wrap_id _ (by omega) (by omega)
  clear hal1 hc h ha
  go_enter Tryd.func33, Tryd.ntmps33
  go_wp2_with fail
  go_ret
  exact ⟨_, _, rfl, Lst.nil, Nat.le_refl _, below_al (below_al (below_al (Below.refl _ _) (Nat.le_refl _) _) (by simp) _) (by simp; omega) _, fun ad e => by cases e⟩
set_option maxRecDepth 100000 in
set_option maxHeartbeats 2000000 in
theorem steps_19 (x y z nd ph : Int) (ha : l[a]? = some ⟨19, x, y, z, nd, ph⟩) (hl : (l.length : Int) ≤ 9000000000000000000) (hm : 0 ≤ m) (hm2 : m ≤ 9000000000000000000) (h : Ins w w.heap.size A l) :
    Calls Tryd.prog 33 #[.agg #[.slice A l.length c, .slice As ns cs, .slice Al nk ck, .int .i64 g], .int .i64 (a : Int), .int .i64 m] w fun e w' => GivesS w [] e w' := by
  have hlt : a < l.length := (List.getElem?_eq_some_iff.1 ha).1
  obtain ⟨b, off, rfl, hb, hc⟩ := h (by omega)
  obtain ⟨c0, c1, c2, c3, c4, c5⟩ := hc a _ ha
  dsimp only at c0 c1 c2 c3 c4 c5
  have hal1 : ∀ j : Nat, (w.alloc (.cells #[.slice (some ⟨b, off, none⟩) l.length c, .slice As ns cs, .slice Al nk ck, .int .i64 g] 26)).cell? ⟨b, j, none⟩ = w.cell? ⟨b, j, none⟩ := fun j => (World.cell?_alloc_lt w _ ⟨b, j, none⟩ hb)
  replace c0 := (hal1 _).trans c0
  replace c1 := (hal1 _).trans c1
  replace c2 := (hal1 _).trans c2
  replace c3 := (hal1 _).trans c3
  replace c4 := (hal1 _).trans c4
  replace c5 := (hal1 _).trans c5
  have hwa : IntKind.i64.wrap ((a : Int) + 1) = (a : Int) + 1 := wrap_id _ (by omega) (by omega)
  have hwm : IntKind.i64.wrap (m + 1) = m + 1 := wrap_id _ (by omega) (by omega)
  have hwn : IntKind.i64.wrap (m - 1) = m - 1 := wrap_id _ (by omega) (by omega)
  clear hal1 hc h ha
  go_enter Tryd.func33, Tryd.ntmps33
  go_wp2_with fail
  go_ret
  exact ⟨_, _, rfl, Lst.nil, Nat.le_refl _, below_al (below_al (below_al (Below.refl _ _) (Nat.le_refl _) _) (by simp) _) (by simp; omega) _, fun ad e => by cases e⟩
set_option maxRecDepth 100000 in
set_option maxHeartbeats 2000000 in
theorem steps_rest (op x y z nd ph : Int) (e4 : (op == 4) = false) (e5 : (op == 5) = false) (e8 : (op == 8) = false) (e6 : (op == 6) = false) (e10 : (op == 10) = false) (e13 : (op == 13) = false) (e16 : (op == 16) = false) (e17 : (op == 17) = false) (e18 : (op == 18) = false) (e19 : (op == 19) = false) (ha : l[a]? = some ⟨op, x, y, z, nd, ph⟩) (hl : (l.length : Int) ≤ 9000000000000000000) (hm : 0 ≤ m) (hm2 : m ≤ 9000000000000000000) (h : Ins w w.heap.size A l) :
    Calls Tryd.prog 33 #[.agg #[.slice A l.length c, .slice As ns cs, .slice Al nk ck, .int .i64 g], .int .i64 (a : Int), .int .i64 m] w fun e w' => GivesS w [((a : Int) + 1, m)] e w' := by
  have hlt : a < l.length := (List.getElem?_eq_some_iff.1 ha).1
  obtain ⟨b, off, rfl, hb, hc⟩ := h (by omega)
  obtain ⟨c0, c1, c2, c3, c4, c5⟩ := hc a _ ha
  dsimp only at c0 c1 c2 c3 c4 c5
  have hal1 : ∀ j : Nat, (w.alloc (.cells #[.slice (some ⟨b, off, none⟩) l.length c, .slice As ns cs, .slice Al nk ck, .int .i64 g] 26)).cell? ⟨b, j, none⟩ = w.cell? ⟨b, j, none⟩ := fun j => (World.cell?_alloc_lt w _ ⟨b, j, none⟩ hb)
  replace c0 := (hal1 _).trans c0
  replace c1 := (hal1 _).trans c1
  replace c2 := (hal1 _).trans c2
  replace c3 := (hal1 _).trans c3
  replace c4 := (hal1 _).trans c4
  replace c5 := (hal1 _).trans c5
  have hwa : IntKind.i64.wrap ((a : Int) + 1) = (a : Int) + 1 := wrap_id _ (by omega) (by omega)
  have hwm : IntKind.i64.wrap (m + 1) = m + 1 := wrap_id _ (by omega) (by omega)
  have hwn : IntKind.i64.wrap (m - 1) = m - 1 := wrap_id _ (by omega) (by omega)
  clear hal1 hc h ha
  go_enter Tryd.func33, Tryd.ntmps33
  go_wp2_with fail
  go_ret
  exact gives_new _ (by simp) rfl rfl (below_al (below_al (below_al (Below.refl _ _) (Nat.le_refl _) _) (by simp) _) (by simp; omega) _)
/-- **steps**. -/
theorem steps_any (i : In) (ha : l[a]? = some i) (hl : (l.length : Int) ≤ 9000000000000000000) (hm : 0 ≤ m) (hm2 : m ≤ 9000000000000000000) (h : Ins w w.heap.size A l) :
    Calls Tryd.prog 33 #[.agg #[.slice A l.length c, .slice As ns cs, .slice Al nk ck, .int .i64 g], .int .i64 (a : Int), .int .i64 m] w fun e w' => GivesS w (stepsP i a m) e w' := by
  obtain ⟨op, x, y, z, nd, ph⟩ := i
  unfold stepsP
  dsimp only
  by_cases h4 : op = 4
  · subst h4; simpa using steps_4 l As Al A c ns cs nk ck g m a w x y z nd ph ha hl hm hm2 h
  by_cases h5 : op = 5
  · subst h5
    by_cases hx : x = -1
    · subst hx; simpa using steps_5a l As Al A c ns cs nk ck g m a w y z nd ph ha hl hm hm2 h
    · simpa [hx] using steps_5b l As Al A c ns cs nk ck g m a w x y z nd ph (by simpa using hx) ha hl hm hm2 h
  by_cases h8 : op = 8
  · subst h8; simpa using steps_8 l As Al A c ns cs nk ck g m a w x y z nd ph ha hl hm hm2 h
  by_cases h6 : op = 6
  · subst h6; simpa using steps_6 l As Al A c ns cs nk ck g m a w x y z nd ph ha hl hm hm2 h
  by_cases h10 : op = 10
  · subst h10; simpa using steps_10 l As Al A c ns cs nk ck g m a w x y z nd ph ha hl hm hm2 h
  by_cases h13 : op = 13
  · subst h13
    by_cases hx : x = -1
    · subst hx; simpa using steps_13a l As Al A c ns cs nk ck g m a w y z nd ph ha hl hm hm2 h
    · simpa [hx] using steps_13b l As Al A c ns cs nk ck g m a w x y z nd ph (by simpa using hx) ha hl hm hm2 h
  by_cases h16 : op = 16
  · subst h16; simpa using steps_16 l As Al A c ns cs nk ck g m a w x y z nd ph ha hl hm hm2 h
  by_cases h17 : op = 17
  · subst h17; simpa using steps_17 l As Al A c ns cs nk ck g m a w x y z nd ph ha hl hm hm2 h
  by_cases h18 : op = 18
  · subst h18; simpa using steps_18 l As Al A c ns cs nk ck g m a w x y z nd ph ha hl hm hm2 h
  by_cases h19 : op = 19
  · subst h19; simpa using steps_19 l As Al A c ns cs nk ck g m a w x y z nd ph ha hl hm hm2 h
  simpa [h4, h5, h8, h6, h10, h13, h16, h17, h18, h19] using steps_rest l As Al A c ns cs nk ck g m a w op x y z nd ph (beq_eq_false_iff_ne.2 h4) (beq_eq_false_iff_ne.2 h5) (beq_eq_false_iff_ne.2 h8) (beq_eq_false_iff_ne.2 h6) (beq_eq_false_iff_ne.2 h10) (beq_eq_false_iff_ne.2 h13) (beq_eq_false_iff_ne.2 h16) (beq_eq_false_iff_ne.2 h17) (beq_eq_false_iff_ne.2 h18) (beq_eq_false_iff_ne.2 h19) ha hl hm hm2 h
end
end Go.Proofs.YtiaelaepfhiabaaDoor.Co
