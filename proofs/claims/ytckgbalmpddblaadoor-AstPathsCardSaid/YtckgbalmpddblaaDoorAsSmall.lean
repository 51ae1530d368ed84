/-
  The law's example, and its anchor (clewlaw06), walked: true. Conditions: those of the program's contracts.
-/
import Derived.Test.YtckgbalmpddblaaDoorAsSpec
import Derived.Test.YtckgbalmpddblaaDoorAsRefEnd
import Derived.Test.YtckgbalmpddblaaDoorAsOf
import Derived.Laws.Tables
set_option linter.unusedVariables false
set_option linter.unusedSimpArgs false
namespace Go.Proofs.YtckgbalmpddblaaDoor.As
open Go.RowKit Go.Proofs.YtckgbalmpddblaaDoor.Mem Go.Proofs.YtckgbalmpddblaaDoor.Rs

theorem build_n1 (a : Int) (A : Option Addr) (n k : Nat) (w : World) : Sem.run Tryd.prog (Instr.build 42 #[(0, .int .i64 a), (9, .slice A n k)]) w = .ok (.agg #[.int .i64 a, .int .i64 0, .int .i64 0, .int .i64 0, .int .i64 0, .int .i64 0, .int .i64 0, .string ⟨#[]⟩, .slice none 0 0, .slice A n k]) w := run_build w 42 _ _ (by kernel_rfl)
theorem build_n2 (a : Int) (w : World) : Sem.run Tryd.prog (Instr.build 42 #[(0, .int .i64 a)]) w = .ok (.agg #[.int .i64 a, .int .i64 0, .int .i64 0, .int .i64 0, .int .i64 0, .int .i64 0, .int .i64 0, .string ⟨#[]⟩, .slice none 0 0, .slice none 0 0]) w := run_build w 42 _ _ (by kernel_rfl)
theorem build_n3 (a b : Int) (A : Option Addr) (n k : Nat) (w : World) : Sem.run Tryd.prog (Instr.build 42 #[(0, .int .i64 a), (3, .int .i64 b), (9, .slice A n k)]) w = .ok (.agg #[.int .i64 a, .int .i64 0, .int .i64 0, .int .i64 b, .int .i64 0, .int .i64 0, .int .i64 0, .string ⟨#[]⟩, .slice none 0 0, .slice A n k]) w := run_build w 42 _ _ (by kernel_rfl)
theorem build_tr (A C : Option Addr) (n k m c : Nat) (g : Int) (w : World) : Sem.run Tryd.prog (Instr.build 25 #[(0, .slice A n k), (1, .int .i64 g), (2, .slice C m c)]) w = .ok (.agg #[.slice A n k, .int .i64 g, .slice C m c]) w := run_build w 25 _ _ (by kernel_rfl)
attribute [local go_sem] build_n1 build_n2 build_n3 build_tr

theorem kids_lit {F : World} {g : Nat} {l : List Int} (h : Blk F g 3 (l.map Mem.i64).toArray) (hb : l.length ≤ 10) : KidsV F F.heap.size l (.slice (some ⟨g, 0, none⟩) l.length l.length) :=
  ⟨_, _, rfl, Nat.le_refl _, by omega, by simp, fun _ => ⟨_, rfl, h.lt, fun j u hu => by
    rw [add_flat, Nat.zero_add, h.cell j]
    simpa using hu⟩⟩
theorem set_none {F : World} : SetV F F.heap.size [] (.slice none 0 0) := ⟨none, 0, rfl, Nat.le_refl _, by omega, Lst.nil⟩
theorem kids_none {F : World} : KidsV F F.heap.size [] (.slice none 0 0) := ⟨none, 0, rfl, Nat.le_refl _, by omega, Reads.none_⟩
theorem small_tree {F : World} {B1 B2 B3 B4 : Nat} (g1 : Blk F B1 3 #[.int .i64 1, .int .i64 2]) (g2 : Blk F B2 3 #[.int .i64 3])
    (g3 : Blk F B3 42 #[.int .i64 5, .int .i64 0, .int .i64 0, .int .i64 0, .int .i64 0, .int .i64 0, .int .i64 0, .string { data := #[] }, .slice none 0 0, .slice (some ⟨B1, 0, none⟩) 2 2, .int .i64 1, .int .i64 0, .int .i64 0, .int .i64 0, .int .i64 0, .int .i64 0, .int .i64 0, .string { data := #[] }, .slice none 0 0, .slice none 0 0, .int .i64 7, .int .i64 0, .int .i64 0, .int .i64 1, .int .i64 0, .int .i64 0, .int .i64 0, .string { data := #[] }, .slice none 0 0, .slice (some ⟨B2, 0, none⟩) 1 1, .int .i64 1, .int .i64 0, .int .i64 0, .int .i64 0, .int .i64 0, .int .i64 0, .int .i64 0, .string { data := #[] }, .slice none 0 0, .slice none 0 0]) (g4 : Blk F B4 9 #[.string { data := #[] }, .string { data := #[] }]) :
    TreeV F F.heap.size smallT (.agg #[.slice (some ⟨B3, 0, none⟩) 4 4, .int .i64 1, .slice (some ⟨B4, 0, none⟩) 2 2]) := by
  refine ⟨_, _, rfl, ⟨_, _, rfl, Nat.le_refl _, by simp [smallT], fun _ => ⟨B3, 0, rfl, g3.lt, fun k nd hk => ?_⟩⟩, ⟨_, _, rfl, Nat.le_refl _, by simp [smallT], fun _ => ⟨B4, 0, rfl, g4.lt, fun k s hk => ?_⟩⟩⟩
  · have hc := fun i => g3.cell i
    match k, hk with
    | 0, hk =>
      obtain rfl : nd0 5 0 [1, 2] = nd := by simpa [smallT] using hk
      exact ⟨hc _, hc _, hc _, hc _, hc _, hc _, hc _, hc _, ⟨_, hc _, set_none⟩, _, hc _, kids_lit (l := [1, 2]) g1 (by simp)⟩
    | 1, hk =>
      obtain rfl : nd0 1 0 [] = nd := by simpa [smallT] using hk
      exact ⟨hc _, hc _, hc _, hc _, hc _, hc _, hc _, hc _, ⟨_, hc _, set_none⟩, _, hc _, kids_none⟩
    | 2, hk =>
      obtain rfl : nd0 7 1 [3] = nd := by simpa [smallT] using hk
      exact ⟨hc _, hc _, hc _, hc _, hc _, hc _, hc _, hc _, ⟨_, hc _, set_none⟩, _, hc _, kids_lit (l := [3]) g2 (by simp)⟩
    | 3, hk =>
      obtain rfl : nd0 1 0 [] = nd := by simpa [smallT] using hk
      exact ⟨hc _, hc _, hc _, hc _, hc _, hc _, hc _, hc _, ⟨_, hc _, set_none⟩, _, hc _, kids_none⟩
    | k + 4, hk => simp [smallT] at hk
  · have hc := fun i => g4.cell i
    match k, hk with
    | 0, hk =>
      obtain rfl : [] = s := by simpa [smallT] using hk
      exact hc _
    | 1, hk =>
      obtain rfl : [] = s := by simpa [smallT] using hk
      exact hc _
    | k + 2, hk => simp [smallT] at hk


theorem size5 (w : World) : (((((w.alloc (.cells #[.slice none 0 0, .int .i64 0, .slice none 0 0] 25)).alloc (.cells #[.int .i64 1, .int .i64 2] 3)).alloc (.cells #[.int .i64 3] 3)).alloc (.cells #[.int .i64 5, .int .i64 0, .int .i64 0, .int .i64 0, .int .i64 0, .int .i64 0, .int .i64 0, .string { data := #[] }, .slice none 0 0, .slice (some ⟨w.heap.size + 1, 0, none⟩) 2 2, .int .i64 1, .int .i64 0, .int .i64 0, .int .i64 0, .int .i64 0, .int .i64 0, .int .i64 0, .string { data := #[] }, .slice none 0 0, .slice none 0 0, .int .i64 7, .int .i64 0, .int .i64 0, .int .i64 1, .int .i64 0, .int .i64 0, .int .i64 0, .string { data := #[] }, .slice none 0 0, .slice (some ⟨w.heap.size + 1 + 1, 0, none⟩) 1 1, .int .i64 1, .int .i64 0, .int .i64 0, .int .i64 0, .int .i64 0, .int .i64 0, .int .i64 0, .string { data := #[] }, .slice none 0 0, .slice none 0 0] 42)).alloc (.cells #[.string { data := #[] }, .string { data := #[] }] 9)).heap.size = w.heap.size + 1 + 1 + 1 + 1 + 1 := by simp only [World.size_alloc]
set_option maxRecDepth 100000 in
set_option maxHeartbeats 2000000 in
theorem small_any (w : World) : Calls Tryd.prog 17 #[] w fun e w' => ∃ v, e = .returned v ∧ TreeV w' w'.heap.size smallT v ∧ Below w.heap.size w w' := by
  have b0 := ((((Blk.new w 25 #[.slice none 0 0, .int .i64 0, .slice none 0 0]).alloc (.cells #[.int .i64 1, .int .i64 2] 3)).alloc (.cells #[.int .i64 3] 3)).alloc (.cells #[.int .i64 5, .int .i64 0, .int .i64 0, .int .i64 0, .int .i64 0, .int .i64 0, .int .i64 0, .string { data := #[] }, .slice none 0 0, .slice (some ⟨w.heap.size + 1, 0, none⟩) 2 2, .int .i64 1, .int .i64 0, .int .i64 0, .int .i64 0, .int .i64 0, .int .i64 0, .int .i64 0, .string { data := #[] }, .slice none 0 0, .slice none 0 0, .int .i64 7, .int .i64 0, .int .i64 0, .int .i64 1, .int .i64 0, .int .i64 0, .int .i64 0, .string { data := #[] }, .slice none 0 0, .slice (some ⟨w.heap.size + 1 + 1, 0, none⟩) 1 1, .int .i64 1, .int .i64 0, .int .i64 0, .int .i64 0, .int .i64 0, .int .i64 0, .int .i64 0, .string { data := #[] }, .slice none 0 0, .slice none 0 0] 42)).alloc (.cells #[.string { data := #[] }, .string { data := #[] }] 9)
  have HB0 := hide b0
  have d0 := b0.cell 0
  have d1 := b0.cell 1
  have d2 := b0.cell 2
  have f0 := b0.frozen 0
  have f1 := b0.frozen 1
  have f2 := b0.frozen 2
  clear b0
  go_enter Tryd.func17, Tryd.ntmps17
  go_wp2_with fail
  have hbb := ((((((((Below.refl w.heap.size w).alloc (Nat.le_refl _) (.cells #[.slice none 0 0, .int .i64 0, .slice none 0 0] 25)).alloc (by simp) (.cells #[.int .i64 1, .int .i64 2] 3)).alloc (by simp; omega) (.cells #[.int .i64 3] 3)).alloc (by simp; omega) (.cells #[.int .i64 5, .int .i64 0, .int .i64 0, .int .i64 0, .int .i64 0, .int .i64 0, .int .i64 0, .string { data := #[] }, .slice none 0 0, .slice (some ⟨w.heap.size + 1, 0, none⟩) 2 2, .int .i64 1, .int .i64 0, .int .i64 0, .int .i64 0, .int .i64 0, .int .i64 0, .int .i64 0, .string { data := #[] }, .slice none 0 0, .slice none 0 0, .int .i64 7, .int .i64 0, .int .i64 0, .int .i64 1, .int .i64 0, .int .i64 0, .int .i64 0, .string { data := #[] }, .slice none 0 0, .slice (some ⟨w.heap.size + 1 + 1, 0, none⟩) 1 1, .int .i64 1, .int .i64 0, .int .i64 0, .int .i64 0, .int .i64 0, .int .i64 0, .int .i64 0, .string { data := #[] }, .slice none 0 0, .slice none 0 0] 42)).alloc (by simp; omega) (.cells #[.string { data := #[] }, .string { data := #[] }] 9)).setCell (p := ⟨w.heap.size, 0, none⟩) (Nat.le_refl _) (.slice (some ⟨w.heap.size + 1 + 1 + 1, 0, none⟩) 4 4)).setCell (p := ⟨w.heap.size, 1, none⟩) (Nat.le_refl _) (.int .i64 1)).setCell (p := ⟨w.heap.size, 2, none⟩) (Nat.le_refl _) (.slice (some ⟨w.heap.size + 1 + 1 + 1 + 1, 0, none⟩) 2 2)
  have c1 := (((Blk.new (w.alloc (.cells #[.slice none 0 0, .int .i64 0, .slice none 0 0] 25)) 3 #[.int .i64 1, .int .i64 2]).alloc (.cells #[.int .i64 3] 3)).alloc (.cells #[.int .i64 5, .int .i64 0, .int .i64 0, .int .i64 0, .int .i64 0, .int .i64 0, .int .i64 0, .string { data := #[] }, .slice none 0 0, .slice (some ⟨w.heap.size + 1, 0, none⟩) 2 2, .int .i64 1, .int .i64 0, .int .i64 0, .int .i64 0, .int .i64 0, .int .i64 0, .int .i64 0, .string { data := #[] }, .slice none 0 0, .slice none 0 0, .int .i64 7, .int .i64 0, .int .i64 0, .int .i64 1, .int .i64 0, .int .i64 0, .int .i64 0, .string { data := #[] }, .slice none 0 0, .slice (some ⟨w.heap.size + 1 + 1, 0, none⟩) 1 1, .int .i64 1, .int .i64 0, .int .i64 0, .int .i64 0, .int .i64 0, .int .i64 0, .int .i64 0, .string { data := #[] }, .slice none 0 0, .slice none 0 0] 42)).alloc (.cells #[.string { data := #[] }, .string { data := #[] }] 9)
  have c2 := ((Blk.new ((w.alloc (.cells #[.slice none 0 0, .int .i64 0, .slice none 0 0] 25)).alloc (.cells #[.int .i64 1, .int .i64 2] 3)) 3 #[.int .i64 3]).alloc (.cells #[.int .i64 5, .int .i64 0, .int .i64 0, .int .i64 0, .int .i64 0, .int .i64 0, .int .i64 0, .string { data := #[] }, .slice none 0 0, .slice (some ⟨w.heap.size + 1, 0, none⟩) 2 2, .int .i64 1, .int .i64 0, .int .i64 0, .int .i64 0, .int .i64 0, .int .i64 0, .int .i64 0, .string { data := #[] }, .slice none 0 0, .slice none 0 0, .int .i64 7, .int .i64 0, .int .i64 0, .int .i64 1, .int .i64 0, .int .i64 0, .int .i64 0, .string { data := #[] }, .slice none 0 0, .slice (some ⟨w.heap.size + 1 + 1, 0, none⟩) 1 1, .int .i64 1, .int .i64 0, .int .i64 0, .int .i64 0, .int .i64 0, .int .i64 0, .int .i64 0, .string { data := #[] }, .slice none 0 0, .slice none 0 0] 42)).alloc (.cells #[.string { data := #[] }, .string { data := #[] }] 9)
  have c3 := (Blk.new (((w.alloc (.cells #[.slice none 0 0, .int .i64 0, .slice none 0 0] 25)).alloc (.cells #[.int .i64 1, .int .i64 2] 3)).alloc (.cells #[.int .i64 3] 3)) 42 #[.int .i64 5, .int .i64 0, .int .i64 0, .int .i64 0, .int .i64 0, .int .i64 0, .int .i64 0, .string { data := #[] }, .slice none 0 0, .slice (some ⟨w.heap.size + 1, 0, none⟩) 2 2, .int .i64 1, .int .i64 0, .int .i64 0, .int .i64 0, .int .i64 0, .int .i64 0, .int .i64 0, .string { data := #[] }, .slice none 0 0, .slice none 0 0, .int .i64 7, .int .i64 0, .int .i64 0, .int .i64 1, .int .i64 0, .int .i64 0, .int .i64 0, .string { data := #[] }, .slice none 0 0, .slice (some ⟨w.heap.size + 1 + 1, 0, none⟩) 1 1, .int .i64 1, .int .i64 0, .int .i64 0, .int .i64 0, .int .i64 0, .int .i64 0, .int .i64 0, .string { data := #[] }, .slice none 0 0, .slice none 0 0]).alloc (.cells #[.string { data := #[] }, .string { data := #[] }] 9)
  have c4 := Blk.new ((((w.alloc (.cells #[.slice none 0 0, .int .i64 0, .slice none 0 0] 25)).alloc (.cells #[.int .i64 1, .int .i64 2] 3)).alloc (.cells #[.int .i64 3] 3)).alloc (.cells #[.int .i64 5, .int .i64 0, .int .i64 0, .int .i64 0, .int .i64 0, .int .i64 0, .int .i64 0, .string { data := #[] }, .slice none 0 0, .slice (some ⟨w.heap.size + 1, 0, none⟩) 2 2, .int .i64 1, .int .i64 0, .int .i64 0, .int .i64 0, .int .i64 0, .int .i64 0, .int .i64 0, .string { data := #[] }, .slice none 0 0, .slice none 0 0, .int .i64 7, .int .i64 0, .int .i64 0, .int .i64 1, .int .i64 0, .int .i64 0, .int .i64 0, .string { data := #[] }, .slice none 0 0, .slice (some ⟨w.heap.size + 1 + 1, 0, none⟩) 1 1, .int .i64 1, .int .i64 0, .int .i64 0, .int .i64 0, .int .i64 0, .int .i64 0, .int .i64 0, .string { data := #[] }, .slice none 0 0, .slice none 0 0] 42)) 9 #[.string { data := #[] }, .string { data := #[] }]
  simp only [World.size_alloc] at c1 c2 c3 c4
  have g0 := (((unhide HB0).set_ 0 (.slice (some ⟨w.heap.size + 1 + 1 + 1, 0, none⟩) 4 4)).set_ 1 (.int .i64 1)).set_ 2 (.slice (some ⟨w.heap.size + 1 + 1 + 1 + 1, 0, none⟩) 2 2)
  have g1 := ((c1.far (p := ⟨w.heap.size, 0, none⟩) (by simp) (.slice (some ⟨w.heap.size + 1 + 1 + 1, 0, none⟩) 4 4)).far (p := ⟨w.heap.size, 1, none⟩) (by simp) (.int .i64 1)).far (p := ⟨w.heap.size, 2, none⟩) (by simp) (.slice (some ⟨w.heap.size + 1 + 1 + 1 + 1, 0, none⟩) 2 2)
  have g2 := ((c2.far (p := ⟨w.heap.size, 0, none⟩) (by simp; omega) (.slice (some ⟨w.heap.size + 1 + 1 + 1, 0, none⟩) 4 4)).far (p := ⟨w.heap.size, 1, none⟩) (by simp; omega) (.int .i64 1)).far (p := ⟨w.heap.size, 2, none⟩) (by simp; omega) (.slice (some ⟨w.heap.size + 1 + 1 + 1 + 1, 0, none⟩) 2 2)
  have g3 := ((c3.far (p := ⟨w.heap.size, 0, none⟩) (by simp; omega) (.slice (some ⟨w.heap.size + 1 + 1 + 1, 0, none⟩) 4 4)).far (p := ⟨w.heap.size, 1, none⟩) (by simp; omega) (.int .i64 1)).far (p := ⟨w.heap.size, 2, none⟩) (by simp; omega) (.slice (some ⟨w.heap.size + 1 + 1 + 1 + 1, 0, none⟩) 2 2)
  have g4 := ((c4.far (p := ⟨w.heap.size, 0, none⟩) (by simp; omega) (.slice (some ⟨w.heap.size + 1 + 1 + 1, 0, none⟩) 4 4)).far (p := ⟨w.heap.size, 1, none⟩) (by simp; omega) (.int .i64 1)).far (p := ⟨w.heap.size, 2, none⟩) (by simp; omega) (.slice (some ⟨w.heap.size + 1 + 1 + 1 + 1, 0, none⟩) 2 2)
  clear c1 c2 c3 c4
  have e0 := g0.cell 0
  have e1 := g0.cell 1
  have e2 := g0.cell 2
  refine bodyPost_ret (v := .agg #[.slice (some ⟨w.heap.size + 1 + 1 + 1, 0, none⟩) 4 4, .int .i64 1, .slice (some ⟨w.heap.size + 1 + 1 + 1 + 1, 0, none⟩) 2 2]) (by simp [results, Tryd.results17, go_sem, e0, e1, e2]) rfl ?_
  refine ⟨_, rfl, ?_, hbb⟩
  clear e0 e1 e2
  exact small_tree g1 g2 g3 g4

end Go.Proofs.YtckgbalmpddblaaDoor.As
