/-
  A pile's New, Push, Top, Pop, Bar, Cut and Clear, walked. No conditions but that the pile lies in memory.
-/
import Derived.Test.YtklmligfljakfaaPiSmall
set_option linter.unusedVariables false
set_option linter.unusedSimpArgs false
namespace Go.Proofs.Ytklmligfljakfaa.Pi
open Go.RowKit Go.Proofs.Ytklmligfljakfaa.Mem Go.Proofs.Ytklmligfljakfaa.Kp
def barE (l : List En) : En := if barZ l = -1 then en0 else (l[(barZ l).toNat]?).getD en0
def cutN (l : List En) : Nat := if barZ l = -1 then l.length else (barZ l).toNat
def pushL (l : List En) (lim : Nat) (x : En) : List En := if l.length < lim then l ++ [x] else l
theorem bar_none {l : List En} (h : barZ l = -1) : barE l = en0 ∧ cutN l = l.length ∧ decide (0 ≤ barZ l) = false := by
  unfold barE cutN
  rw [if_pos h, if_pos h, h]
  exact ⟨rfl, rfl, rfl⟩
theorem bar_some {l : List En} {k : Nat} (h : barZ l = (k : Int)) (hk : k < l.length) : l[k]? = some (barE l) ∧ cutN l = k ∧ decide (0 ≤ barZ l) = true := by
  unfold barE cutN
  rw [if_neg (by omega), if_neg (by omega), h, Int.toNat_natCast, List.getElem?_eq_getElem hk]
  exact ⟨rfl, rfl, by simp⟩
section
variable {K : Nat → Prop} {base bb lim most : Nat} {iv : Value} {l : List En} {w : World}
abbrev oEn (x : En) : Obj := .cells #[.bool x.bar, .int .i64 x.pc, .int .i64 x.pos, .int .i64 x.mark, .int .i64 x.orig, .int .i64 x.val] 30
abbrev zA : Array Value := #[.bool false, .int .i64 0, .int .i64 0, .int .i64 0, .int .i64 0, .int .i64 0]
theorem six {W : World} {g : Nat} (h : Blk W g 30 zA) : W.cell? ⟨g, 0, none⟩ = some (.bool false) ∧ W.cell? ⟨g, 1, none⟩ = some (.int .i64 0) ∧ W.cell? ⟨g, 2, none⟩ = some (.int .i64 0) ∧ W.cell? ⟨g, 3, none⟩ = some (.int .i64 0) ∧ W.cell? ⟨g, 4, none⟩ = some (.int .i64 0) ∧ W.cell? ⟨g, 5, none⟩ = some (.int .i64 0) ∧ W.frozen? ⟨g, 0, none⟩ = false ∧ W.frozen? ⟨g, 1, none⟩ = false ∧ W.frozen? ⟨g, 2, none⟩ = false ∧ W.frozen? ⟨g, 3, none⟩ = false ∧ W.frozen? ⟨g, 4, none⟩ = false ∧ W.frozen? ⟨g, 5, none⟩ = false :=
  ⟨h.cell 0, h.cell 1, h.cell 2, h.cell 3, h.cell 4, h.cell 5, h.frozen 0, h.frozen 1, h.frozen 2, h.frozen 3, h.frozen 4, h.frozen 5⟩
def put6 (W : World) (g : Nat) (x : En) : World := (((((W.setCell ⟨g, 0, none⟩ (.bool x.bar)).setCell ⟨g, 1, none⟩ (.int .i64 x.pc)).setCell ⟨g, 2, none⟩ (.int .i64 x.pos)).setCell ⟨g, 3, none⟩ (.int .i64 x.mark)).setCell ⟨g, 4, none⟩ (.int .i64 x.orig)).setCell ⟨g, 5, none⟩ (.int .i64 x.val)
theorem put6_blk {W : World} {g : Nat} (h : Blk W g 30 zA) (x : En) : Blk (put6 W g x) g 30 #[.bool x.bar, .int .i64 x.pc, .int .i64 x.pos, .int .i64 x.mark, .int .i64 x.orig, .int .i64 x.val] := (((((h.set_ 0 _).set_ 1 _).set_ 2 _).set_ 3 _).set_ 4 _).set_ 5 _
theorem put6_below {B g : Nat} {w0 W : World} (h : Below B w0 W) (hg : B ≤ g) (x : En) : Below B w0 (put6 W g x) := (((((h.setCell (p := ⟨g, 0, none⟩) hg _).setCell (p := ⟨g, 1, none⟩) hg _).setCell (p := ⟨g, 2, none⟩) hg _).setCell (p := ⟨g, 3, none⟩) hg _).setCell (p := ⟨g, 4, none⟩) hg _).setCell (p := ⟨g, 5, none⟩) hg _
set_option maxHeartbeats 1000000 in
theorem take_out (w : World) (bb : Nat) : Calls Try.prog 19 #[.pointer (some ⟨bb, 0, none⟩), .int .i64 (-1)] w fun e w' => e = .returned (.tuple #[enV en0, .bool false]) ∧ Below w.heap.size w w' := by
  have hb := below_box w zEn
  have C := hide (at_out (w.alloc zEn) bb)
  have HB := hide hb
  clear hb
  go_enter Try.func19, Try.ntmps19
  go_wp2_with fail
  refine (unhide C).mono ?_
  rintro e w1 ⟨rfl, hb1⟩
  have HBL := hide ((unhide HB).trans (hb1.mono (unhide HB).size))
  have hk2 := ((Blk.new w 30 zA).below hb1 (by simp)).alloc (oEn en0)
  have HK := hide hk2
  obtain ⟨c0, c1, c2, c3, c4, c5, f0, f1, f2, f3, f4, f5⟩ := six hk2
  have HWS := hide hb1.size
  clear C hb1 hk2 HB
  go_wp2_with fail
  exact bodyPost_ret (results_ct rfl _ _ w.heap.size _ _ _ rfl rfl (put6_blk (unhide HK) en0) Try.underlying30 rfl (by kernel_rfl)) rfl ⟨rfl, put6_below (((unhide HBL).alloc (by have := unhide HWS; simp at this; omega) _)) (Nat.le_refl _) en0⟩
set_option maxHeartbeats 1000000 in
theorem take_in (h : PX K base bb iv l lim most w) (k : Nat) (x : En) (hk : l[k]? = some x) : Calls Try.prog 19 #[.pointer (some ⟨bb, 0, none⟩), .int .i64 (k : Int)] w fun e w' => e = .returned (.tuple #[enV x, .bool true]) ∧ (∃ iv', PX K base bb iv' (l.take k) lim most w') ∧ Keep K w w' := by
  have hkl := (List.getElem?_eq_some_iff.1 hk).1
  have h1 := h.below (below_box w zEn)
  have C := hide (at_in h1 k x hk)
  have H := hide h
  have HKL := hide hkl
  clear h h1 hk hkl
  go_enter Try.func19, Try.ntmps19
  go_wp2_with fail
  refine (unhide C).mono ?_
  rintro e w1 ⟨rfl, hb1⟩
  have hz := hb1.size
  rw [World.size_alloc] at hz
  have hbA : Below w.heap.size w (w1.alloc (oEn x)) := ((below_box w zEn).trans (hb1.mono (by simp))).alloc (by omega) _
  have hm := (unhide H).more (K' := fun j => K j ∨ (w.heap.size ≤ j ∧ j < (w1.alloc (oEn x)).heap.size)) hbA (fun j h => .inl h) (fun j h => h)
  have CL := hide (leave_any hm k (by have := unhide HKL; omega))
  have HK1 := hide (((Blk.new w 30 zA).below hb1 (by simp)).alloc (oEn x))
  have HK2 := hide (Blk.new w1 30 #[.bool x.bar, .int .i64 x.pc, .int .i64 x.pos, .int .i64 x.mark, .int .i64 x.orig, .int .i64 x.val])
  have HB := hide hbA
  have HZ := hide hz
  clear C hb1 hz hbA hm
  obtain ⟨x0, x1, x2, x3, x4, x5⟩ := x
  go_wp2_with fail
  refine (unhide CL).mono ?_
  rintro e w2 ⟨rfl, ⟨iv2, h2⟩, k2⟩
  have hj := unhide HZ
  have b1 := k2.blk (unhide HK1) (.inr ⟨Nat.le_refl _, by rw [World.size_alloc]; omega⟩)
  have b2 := k2.blk (unhide HK2) (.inr ⟨by omega, by simp⟩)
  have HB1 := hide b1
  obtain ⟨c0, c1, c2, c3, c4, c5, f0, f1, f2, f3, f4, f5⟩ := six b1
  have d0 := b2.cell 0
  have d1 := b2.cell 1
  have d2 := b2.cell 2
  have d3 := b2.cell 3
  have d4 := b2.cell 4
  have d5 := b2.cell 5
  have HX2 := hide h2
  have HK3 := hide k2
  clear CL h2 k2 b1 b2 hj
  go_wp2_with fail
  refine bodyPost_ret (results_ct rfl _ _ w.heap.size _ _ _ rfl rfl (put6_blk (unhide HB1) ⟨x0, x1, x2, x3, x4, x5⟩) Try.underlying30 rfl (by kernel_rfl)) rfl ⟨rfl, ⟨iv2, ?_⟩, ?_⟩
  · have hh := unhide HX2
    have e : ∀ j, j = w.heap.size → (K j ∨ (w.heap.size ≤ j ∧ j < (w1.alloc (oEn ⟨x0, x1, x2, x3, x4, x5⟩)).heap.size)) := fun j e => .inr ⟨by omega, by rw [World.size_alloc]; have := unhide HZ; omega⟩
    have h3 := (((((hh.setK (p := ⟨w.heap.size, 0, none⟩) (e _ rfl) (.bool x0)).setK (p := ⟨w.heap.size, 1, none⟩) (e _ rfl) (.int .i64 x1)).setK (p := ⟨w.heap.size, 2, none⟩) (e _ rfl) (.int .i64 x2)).setK (p := ⟨w.heap.size, 3, none⟩) (e _ rfl) (.int .i64 x3)).setK (p := ⟨w.heap.size, 4, none⟩) (e _ rfl) (.int .i64 x4)).setK (p := ⟨w.heap.size, 5, none⟩) (e _ rfl) (.int .i64 x5)
    exact h3.fewer (fun j h => .inl h) (unhide H).lo
  · have hnk : ¬ K w.heap.size := fun h => by have := (unhide H).hi _ h; omega
    exact (((((((Keep.of_below (unhide HB) (unhide H).hi).trans ((unhide HK3).less fun j h => .inl h)).setCell (p := ⟨w.heap.size, 0, none⟩) hnk _).setCell (p := ⟨w.heap.size, 1, none⟩) hnk _).setCell (p := ⟨w.heap.size, 2, none⟩) hnk _).setCell (p := ⟨w.heap.size, 3, none⟩) hnk _).setCell (p := ⟨w.heap.size, 4, none⟩) hnk _).setCell (p := ⟨w.heap.size, 5, none⟩) hnk _
end
end Go.Proofs.Ytklmligfljakfaa.Pi
