/-
  A pile's New, Push, Top, Pop, Bar, Cut and Clear, walked. No conditions but that the pile lies in memory.
-/
import Derived.Test.YtklmligfljakfaaPiOps
import Derived.RangeFuncBox
import Derived.Test.YtklmligfljakfaaPlan
set_option linter.unusedVariables false
set_option linter.unusedSimpArgs false
namespace Go.Proofs.Ytklmligfljakfaa.Pi
open Go.RowKit Go.Proofs.Ytklmligfljakfaa.Mem Go.Proofs.Ytklmligfljakfaa.Kp
open Go.Proofs.Ytklmligfljakfaa.Plan (wp_plan plan pick pl_t pl_l pl_k pl_e pl_n)
theorem ret_en {fn : Func} (h : fn.results = #[.cell 2 30, .tmp 3]) {Q : Ending → World → Prop} (tmps : Array Value) (w W : World) (x : En) (b : Bool) (hp : tmps.getD 2 undef = .pointer (some ⟨w.heap.size, 0, none⟩)) (hv : tmps.getD 3 undef = .bool b) (hk : Blk W w.heap.size 30 zA)
    (hQ : Q (.returned (.tuple #[enV x, .bool b])) (put6 W w.heap.size x)) : bodyPost Try.prog fn Q .ret { tmps := tmps, defers := [] } (put6 W w.heap.size x) :=
  bodyPost_ret (results_ct h _ _ w.heap.size _ _ _ hp hv (put6_blk hk x) Try.underlying30 rfl (by kernel_rfl)) rfl hQ
section
variable {K : Nat → Prop} {base bb lim most : Nat} {iv : Value} {l : List En} {w : World}
def TopG (l : List En) (w : World) (e : Ending) (w' : World) : Prop := e = .returned (.tuple #[enV (lastE l), .bool (decide (0 < l.length))]) ∧ Below w.heap.size w w'
def BarG (l : List En) (w : World) (e : Ending) (w' : World) : Prop := e = .returned (.tuple #[enV (barE l), .bool (decide (0 ≤ barZ l))]) ∧ Below w.heap.size w w'
theorem at_top (h : PX K base bb iv l lim most w) : Calls Try.prog 22 #[.pointer (some ⟨bb, 0, none⟩), .int .i64 ((l.length : Int) - 1)] w (TopG l w) := by
  unfold TopG
  rcases Nat.eq_zero_or_pos l.length with h0 | h0
  · obtain rfl := List.eq_nil_of_length_eq_zero h0
    exact at_out w bb
  · rw [show ((l.length : Int) - 1) = ((l.length - 1 : Nat) : Int) by omega, show decide (0 < l.length) = true by simpa using h0]
    exact at_in h _ _ (lastE_at h0)
theorem at_bar (h : PX K base bb iv l lim most w) : Calls Try.prog 22 #[.pointer (some ⟨bb, 0, none⟩), .int .i64 (barZ l)] w (BarG l w) := by
  unfold BarG
  rcases barZ_form l with h0 | ⟨k, h0, hk⟩
  · obtain ⟨e1, -, e3⟩ := bar_none h0
    rw [e1, e3, h0]
    exact at_out w bb
  · obtain ⟨e1, -, e3⟩ := bar_some h0 hk
    rw [e3, h0]
    exact at_in h _ _ e1
def TakeG (K : Nat → Prop) (base bb lim most : Nat) (l' : List En) (x : En) (b : Bool) (w : World) (e : Ending) (w' : World) : Prop := e = .returned (.tuple #[enV x, .bool b]) ∧ (∃ iv', PX K base bb iv' l' lim most w') ∧ Keep K w w'
theorem take_top (h : PX K base bb iv l lim most w) : Calls Try.prog 19 #[.pointer (some ⟨bb, 0, none⟩), .int .i64 ((l.length : Int) - 1)] w (TakeG K base bb lim most (l.take (l.length - 1)) (lastE l) (decide (0 < l.length)) w) := by
  unfold TakeG
  rcases Nat.eq_zero_or_pos l.length with h0 | h0
  · obtain rfl := List.eq_nil_of_length_eq_zero h0
    exact (take_out w bb).mono fun e w' ⟨h1, h2⟩ => ⟨h1, ⟨iv, h.below h2⟩, Keep.of_below h2 h.hi⟩
  · rw [show ((l.length : Int) - 1) = ((l.length - 1 : Nat) : Int) by omega, show decide (0 < l.length) = true by simpa using h0]
    exact take_in h _ _ (lastE_at h0)
theorem take_bar (h : PX K base bb iv l lim most w) : Calls Try.prog 19 #[.pointer (some ⟨bb, 0, none⟩), .int .i64 (barZ l)] w (TakeG K base bb lim most (l.take (cutN l)) (barE l) (decide (0 ≤ barZ l)) w) := by
  unfold TakeG
  rcases barZ_form l with h0 | ⟨k, h0, hk⟩
  · obtain ⟨e1, e2, e3⟩ := bar_none h0
    rw [e1, e2, e3, h0, List.take_length]
    exact (take_out w bb).mono fun e w' ⟨h1, h2⟩ => ⟨h1, ⟨iv, h.below h2⟩, Keep.of_below h2 h.hi⟩
  · obtain ⟨e1, e2, e3⟩ := bar_some h0 hk
    rw [e2, e3, h0]
    exact take_in h _ _ e1
theorem PX.put6 {x : En} {g : Nat} (hh : PX K base bb iv l lim most w) (hg : K g) : PX K base bb iv l lim most (put6 w g x) :=
  (((((hh.setK (p := ⟨g, 0, none⟩) hg _).setK (p := ⟨g, 1, none⟩) hg _).setK (p := ⟨g, 2, none⟩) hg _).setK (p := ⟨g, 3, none⟩) hg _).setK (p := ⟨g, 4, none⟩) hg _).setK (p := ⟨g, 5, none⟩) hg _
theorem keep_put6 {W : World} {x : En} {g : Nat} (h : Keep K w W) (hg : ¬ K g) : Keep K w (Pi.put6 W g x) :=
  (((((h.setCell (p := ⟨g, 0, none⟩) hg _).setCell (p := ⟨g, 1, none⟩) hg _).setCell (p := ⟨g, 2, none⟩) hg _).setCell (p := ⟨g, 3, none⟩) hg _).setCell (p := ⟨g, 4, none⟩) hg _).setCell (p := ⟨g, 5, none⟩) hg _
set_option maxHeartbeats 1000000 in
theorem ptop_any (h : PX K base bb iv l lim most w) : Calls Try.prog 14 #[.pointer (some ⟨bb, 0, none⟩)] w (TopG l w) := by
  have h1 := h.below (below_box w zEn)
  have C1 := hide (top_any h1)
  have C2 := hide (at_top h1)
  unfold TopG at C2 ⊢
  clear h h1
  generalize (l.length : Int) - 1 = z at *
  generalize lastE l = x at *
  generalize decide (0 < l.length) = b at *
  go_enter Try.func14, Try.ntmps14
  go_wp2_with fail
  refine (unhide C1).mono ?_
  rintro e w1 ⟨rfl, rfl⟩
  clear C1
  go_wp2_with fail
  refine (unhide C2).mono ?_
  rintro e w2 ⟨rfl, hb2⟩
  have hk := (Blk.new w 30 zA).below hb2 (by simp)
  have HK := hide hk
  have HB := hide ((below_box w zEn).trans (hb2.mono (by simp)))
  obtain ⟨c0, c1, c2, c3, c4, c5, f0, f1, f2, f3, f4, f5⟩ := six hk
  clear C2 hb2 hk
  go_wp2_with fail
  exact ret_en rfl _ w w2 x b rfl rfl (unhide HK) ⟨rfl, put6_below (unhide HB) (Nat.le_refl _) x⟩
set_option maxHeartbeats 1000000 in
theorem pbar_any (h : PX K base bb iv l lim most w) : Calls Try.prog 15 #[.pointer (some ⟨bb, 0, none⟩)] w (BarG l w) := by
  have h1 := h.below (below_box w zEn)
  have C1 := hide (barrier_any h1)
  have C2 := hide (fun W (hW : Below (w.alloc zEn).heap.size (w.alloc zEn) W) => at_bar (h1.below hW))
  unfold BarG at C2 ⊢
  clear h h1
  generalize decide (0 ≤ barZ l) = b at *
  generalize barZ l = z at *
  generalize barE l = x at *
  go_enter Try.func15, Try.ntmps15
  go_wp2_with fail
  refine (unhide C1).mono ?_
  rintro e w1 ⟨rfl, hb1⟩
  have HB1 := hide hb1
  clear C1 hb1
  go_wp2_with fail
  refine ((unhide C2) _ (unhide HB1)).mono ?_
  rintro e w2 ⟨rfl, hb2⟩
  have hb := (unhide HB1).trans (hb2.mono (unhide HB1).size)
  have hk := (Blk.new w 30 zA).below hb (by simp)
  have HK := hide hk
  have HB := hide ((below_box w zEn).trans (hb.mono (by simp)))
  obtain ⟨c0, c1, c2, c3, c4, c5, f0, f1, f2, f3, f4, f5⟩ := six hk
  clear C2 hb2 hk hb
  go_wp2_with fail
  exact ret_en rfl _ w w2 x b rfl rfl (unhide HK) ⟨rfl, put6_below (unhide HB) (Nat.le_refl _) x⟩
set_option maxHeartbeats 1000000 in
theorem pop_any (h : PX K base bb iv l lim most w) : Calls Try.prog 10 #[.pointer (some ⟨bb, 0, none⟩)] w (TakeG K base bb lim most (l.take (l.length - 1)) (lastE l) (decide (0 < l.length)) w) := by
  have hb := below_box w zEn
  have h1 := h.more (K' := fun j => K j ∨ (w.heap.size ≤ j ∧ j < (w.alloc zEn).heap.size)) hb (fun j h => .inl h) (fun j h => h)
  have C1 := hide (top_any h1)
  have C2 := hide (take_top h1)
  unfold TakeG at C2 ⊢
  have H := hide h
  clear h h1 hb
  generalize (l.length : Int) - 1 = z at *
  generalize l.take (l.length - 1) = l' at *
  generalize lastE l = x at *
  generalize decide (0 < l.length) = b at *
  go_enter Try.func10, Try.ntmps10
  go_wp2_with fail
  refine (unhide C1).mono ?_
  rintro e w1 ⟨rfl, rfl⟩
  clear C1
  go_wp2_with fail
  refine (unhide C2).mono ?_
  rintro e w2 ⟨rfl, ⟨iv2, h2⟩, k2⟩
  have hk := k2.blk (Blk.new w 30 zA) (.inr ⟨Nat.le_refl _, by simp⟩)
  have HK := hide hk
  have HX := hide h2
  have HB := hide k2
  obtain ⟨c0, c1, c2, c3, c4, c5, f0, f1, f2, f3, f4, f5⟩ := six hk
  clear C2 h2 k2 hk
  go_wp2_with fail
  have hnk : ¬ K w.heap.size := fun h => by have := (unhide H).hi _ h; omega
  exact ret_en rfl _ w w2 x b rfl rfl (unhide HK) ⟨rfl, ⟨iv2, ((unhide HX).put6 (.inr ⟨Nat.le_refl _, by simp⟩)).fewer (fun j h => .inl h) (unhide H).lo⟩, keep_put6 ((Keep.of_below (below_box w zEn) (unhide H).hi).trans ((unhide HB).less fun j h => .inl h)) hnk⟩
set_option maxHeartbeats 1000000 in
theorem cut_any (h : PX K base bb iv l lim most w) : Calls Try.prog 12 #[.pointer (some ⟨bb, 0, none⟩)] w (TakeG K base bb lim most (l.take (cutN l)) (barE l) (decide (0 ≤ barZ l)) w) := by
  have hb := below_box w zEn
  have h1 := h.more (K' := fun j => K j ∨ (w.heap.size ≤ j ∧ j < (w.alloc zEn).heap.size)) hb (fun j h => .inl h) (fun j h => h)
  have C1 := hide (barrier_any h1)
  have C2 := hide (fun W (hW : Below (w.alloc zEn).heap.size (w.alloc zEn) W) => take_bar (h1.below hW))
  unfold TakeG at C2 ⊢
  have H := hide h
  clear h h1 hb
  generalize decide (0 ≤ barZ l) = b at *
  generalize barZ l = z at *
  generalize barE l = x at *
  generalize l.take (cutN l) = l' at *
  go_enter Try.func12, Try.ntmps12
  go_wp2_with fail
  refine (unhide C1).mono ?_
  rintro e w1 ⟨rfl, hb1⟩
  have HB1 := hide hb1
  clear C1 hb1
  go_wp2_with fail
  refine ((unhide C2) _ (unhide HB1)).mono ?_
  rintro e w2 ⟨rfl, ⟨iv2, h2⟩, k2⟩
  have hk := k2.blk ((Blk.new w 30 zA).below (unhide HB1) (by simp)) (.inr ⟨Nat.le_refl _, by simp⟩)
  have HK := hide hk
  have HX := hide h2
  have HB := hide k2
  obtain ⟨c0, c1, c2, c3, c4, c5, f0, f1, f2, f3, f4, f5⟩ := six hk
  clear C2 h2 k2 hk
  go_wp2_with fail
  have hnk : ¬ K w.heap.size := fun h => by have := (unhide H).hi _ h; omega
  exact ret_en rfl _ w w2 x b rfl rfl (unhide HK) ⟨rfl, ⟨iv2, ((unhide HX).put6 (.inr ⟨Nat.le_refl _, by simp⟩)).fewer (fun j h => .inl h) (unhide H).lo⟩, keep_put6 (((Keep.of_below (below_box w zEn) (unhide H).hi).trans (Keep.of_below (unhide HB1) (fun j h => by have := (unhide H).hi _ h; simp; omega))).trans ((unhide HB).less fun j h => .inl h)) hnk⟩
set_option maxHeartbeats 1000000 in
theorem clear_any (h : PX K base bb iv l lim most w) : Calls Try.prog 13 #[.pointer (some ⟨bb, 0, none⟩)] w fun e w' => e = .returned (.tuple #[]) ∧ (∃ iv', PX K base bb iv' [] lim most w') ∧ Keep K w w' := by
  have C := hide (leave_any h 0 (Nat.zero_le _))
  clear h
  go_enter Try.func13, Try.ntmps13
  go_wp2_with fail
  refine (unhide C).mono ?_
  rintro e w1 ⟨rfl, h1, k1⟩
  go_wp2_with fail
  exact bodyPost_end (v := .tuple #[]) (by simp [results, Try.f13]) rfl ⟨rfl, h1, k1⟩
section
attribute [local go_sem] build_pile
set_option maxHeartbeats 1000000 in
theorem new_in (K : Nat → Prop) (base n : Nat) (w : World) (hn : n ≤ 65536) (hlo : ∀ k, k < base → K k) (hhi : ∀ k, K k → k < w.heap.size) (hb : base ≤ w.heap.size) :
    Calls Try.prog 7 #[.int .i64 (n : Int)] w fun e w' => (e = .returned (.tuple #[.pointer (some ⟨w.heap.size, 0, none⟩), .int .i64 0]) ∧ PV K base w.heap.size [] n 0 w') ∧ Below w.heap.size w w' := by
  have d0 : decide ((n : Int) < 0) = false := by simp
  have d1 : decide (65536 < (n : Int)) = false := by simp; omega
  have HN := hide hn
  clear hn
  go_enter Try.func7, Try.ntmps7
  go_wp2_with fail
  go_ret2
  refine ⟨⟨rfl, .slice none 0 0, ⟨Blk.new w _ _, ⟨rfl, .inl ⟨rfl, rfl⟩⟩, fun h => ?_, fun g hg => (by cases hg), hlo, fun k hk => ?_, unhide HN, Nat.zero_le _, Nat.zero_le _⟩, Nat.zero_le _⟩, below_box _ _⟩
  · have := hhi _ h; omega
  · have := hhi _ hk; rw [World.size_alloc]; omega
set_option maxHeartbeats 1000000 in
theorem new_out (n : Int) (w : World) (hn : n < 0 ∨ 65536 < n) : Calls Try.prog 7 #[.int .i64 n] w fun e w' => e = .returned (.tuple #[.pointer none, .int .i64 10]) ∧ w' = w := by
  by_cases h0 : n < 0
  · clear hn
    go_enter Try.func7, Try.ntmps7
    go_wp2
    go_ret2
    exact ⟨rfl, rfl⟩
  · have h1 : 65536 < n := by omega
    clear hn
    go_enter Try.func7, Try.ntmps7
    go_wp2
    go_ret2
    exact ⟨rfl, rfl⟩
end
set_option maxHeartbeats 1000000 in
theorem push_full (h : PX K base bb iv l lim most w) (x : En) (hl : l.length = lim) : Calls Try.prog 9 #[.pointer (some ⟨bb, 0, none⟩), enV x] w fun e w' => e = .returned (.bool false) ∧ Below w.heap.size w w' := by
  have hb := below_box w (oEn x)
  have h1 := h.below hb
  have C := hide (show ∀ k, Calls Try.prog 16 #[.pointer (some ⟨bb, 0, none⟩)] ((w.alloc (oEn x)).drewN k) fun e w' => e = .returned (.int .i64 (lim : Int)) ∧ w' = (w.alloc (oEn x)).drewN k from fun k => by
    have := len_any (h1.below (below_drewN (Below.refl _ _) k))
    rw [hl] at this
    exact this)
  obtain ⟨c0, c1, c2⟩ := cells3 h1.box
  have HB := hide hb
  obtain ⟨x0, x1, x2, x3, x4, x5⟩ := x
  have dd : ((lim : Int) == (lim : Int)) = true := by simp
  clear h h1 hl hb c0
  go_enter Try.func9, Try.ntmps9
  go_wp2_with fail
  go_quiet ((go_at_call 16; exact Calls.quiet_of_same ((unhide C) _)))
  go_wp2_with fail
  go_ret
  exact ⟨rfl, below_drewN (unhide HB) _⟩
theorem wp_app_item {o : Oper} {a : Act} {K' : Act → World → Prop} {Q : Exit → Act → World → Prop} {so sn : Tmp} {x : En} {g : Nat} {z : Int} {n : Nat}
    (h : PX K base bb iv l lim most w) (hn : l.length = n) (hl : n < lim) (hz : z = barZ (l ++ [x])) (ho : o.op = .call { callee := .builtin .append, args := #[.tmp so, .tmp sn], argTypes := #[42, 42] })
    (hs : a.eval (.tmp so) = iv) (hx : a.eval (.tmp sn) = .slice (some ⟨g, 0, none⟩) 1 1) (hg : g = w.heap.size)
    (hK : ∀ g5 c5 w', PX K base bb (.slice (some ⟨g5, 0, none⟩) (n + 1) c5) (l ++ [x]) lim most (w'.setCell ⟨bb, 0, none⟩ (.slice (some ⟨g5, 0, none⟩) (n + 1) c5)) → Keep K w w' → Blk w' bb 44 #[iv, .int .i64 (lim : Int), .int .i64 (most : Int)] → K' (a.put o.dst (.slice (some ⟨g5, 0, none⟩) (n + 1) c5)) w') :
    Oper.wp Try.prog o a (w.alloc (.cells #[.bool x.bar, .int .i64 x.pc, .int .i64 x.pos, .int .i64 x.mark, .int .i64 x.orig, .int .i64 x.val, .int .i64 z] 46)) K' Q := by
  subst hg hn
  obtain ⟨i0, hi0, hz0, hz1, hz2⟩ := info_parts info_it
  have hbs := h.base_size
  have hsm := h.small
  have hA := h.below (below_box w (.cells #[.bool x.bar, .int .i64 x.pc, .int .i64 x.pos, .int .i64 x.mark, .int .i64 x.orig, .int .i64 x.val, .int .i64 z] 46))
  have hrd : Reads (w.alloc (.cells #[.bool x.bar, .int .i64 x.pc, .int .i64 x.pos, .int .i64 x.mark, .int .i64 x.orig, .int .i64 x.val, .int .i64 z] 46)) (w.heap.size + 1) 7 (some ⟨w.heap.size, 0, none⟩) 1 [.bool x.bar, .int .i64 x.pc, .int .i64 x.pos, .int .i64 x.mark, .int .i64 x.orig, .int .i64 x.val, .int .i64 z] := by
    refine ⟨rfl, fun _ => ⟨_, rfl, by simp, fun j u hj => ?_⟩⟩
    rw [add_flat, Nat.zero_add, World.cell?_alloc_new]
    simpa using hj
  refine wp_append_any _ (.tmp so) (.tmp sn) 42 ho base 46 i0 _ 7 56 Try.underlying42 hi0 hz0 hz1 hz2 rfl (by decide) iv l.length (cellsI l) hs hA.rows (w.heap.size + 1) (some ⟨w.heap.size, 0, none⟩) 1 1 [.bool x.bar, .int .i64 x.pc, .int .i64 x.pos, .int .i64 x.mark, .int .i64 x.orig, .int .i64 x.val, .int .i64 z] hx hrd (by simp [Value.oneCell']) (by unfold maxLen; omega) (by omega) (by rw [World.size_alloc]; omega) ?_
  intro tv' w' ho' hg' hn'
  have hbox : Blk w' bb 44 #[iv, .int .i64 (lim : Int), .int .i64 (most : Int)] := hA.box.grown hg' (fun e => hA.ne e.symm)
  have hkp : Keep K w w' := ((Keep.refl K w).alloc h.hi _).trans (Keep.of_grown hg' hA.hi (fun g e => h.kt g e))
  obtain ⟨g5, c5, rfl⟩ := ownsRow_succ ho'
  refine hK g5 c5 w' ?_ hkp hbox
  rw [hz, ← cellsI_snoc] at ho'
  refine ⟨hbox.set_ 0 _, ownsRow_setCell_other (by rw [List.length_append]; exact ho') (a := ⟨bb, 0, none⟩) (own_blk_ne ho' hbox (by decide)) _, h.kb, fun g e => ?_, h.lo, fun k hk => ?_, h.small, by rw [List.length_append]; exact hl, h.mx⟩
  · rcases hn' with e2 | e2
    · exact h.kt g (e2.symm.trans e)
    · intro hk
      have := h.hi g hk
      rw [e2] at e
      injection e with e
      rw [World.size_alloc] at e
      omega
  · have := Nat.lt_of_lt_of_le (h.hi k hk) hkp.size
    simpa [World.setCell] using this
theorem PX.setMost (h : PX K base bb iv l lim most w) (m : Nat) (hm : m ≤ lim) : PX K base bb iv l lim m (w.setCell ⟨bb, 2, none⟩ (.int .i64 (m : Int))) :=
  ⟨h.box.set_ 2 _, ownsRow_setCell_other h.rows (a := ⟨bb, 2, none⟩) h.ne _, h.kb, h.kt, h.lo, fun k hk => by simpa [World.setCell] using h.hi k hk, h.small, h.room, hm⟩
section
attribute [local go_sem] build_item
set_option maxHeartbeats 2000000 in
theorem push_room (h : PX K base bb iv l lim most w) (x : En) (hl : l.length < lim) : Calls Try.prog 9 #[.pointer (some ⟨bb, 0, none⟩), enV x] w fun e w' => e = .returned (.bool true) ∧ (∃ iv', PX K base bb iv' (l ++ [x]) lim (max most (l.length + 1)) w') ∧ Keep K w w' := by
  have hb := below_box w (oEn x)
  have h1 := h.below hb
  have hsm := h.small
  obtain ⟨n, hn⟩ : ∃ n, l.length = n := ⟨_, rfl⟩
  have C := hide (show ∀ k, Calls Try.prog 16 #[.pointer (some ⟨bb, 0, none⟩)] ((w.alloc (oEn x)).drewN k) fun e w' => e = .returned (.int .i64 (n : Int)) ∧ w' = (w.alloc (oEn x)).drewN k from fun k => by
    have := len_any (h1.below (below_drewN (Below.refl _ _) k))
    rw [hn] at this
    exact this)
  have hbz := barZ_snoc l x
  obtain ⟨A, cap, rfl, r1, r2, r3, -⟩ := own_form h.rows
  obtain ⟨c0, c1, c2⟩ := cells3 h1.box
  rw [hn] at c0 hbz h h1
  have HB := hide hb
  have HX1 := hide h1
  have HN := hide hn
  have HX := hide (Blk.new w 30 #[.bool x.bar, .int .i64 x.pc, .int .i64 x.pos, .int .i64 x.mark, .int .i64 x.orig, .int .i64 x.val])
  have HL := hide hl
  have HBZ := hide hbz
  have H := hide h
  have dd : ((n : Int) == (lim : Int)) = false := by rw [beq_eq_false_iff_ne]; omega
  have HW := hide (show n + 1 ≤ 65536 by omega)
  clear h h1 hl hb hn hbz r1 r2 r3
  go_enter Try.func9, Try.ntmps9
  go_wp2_with fail
  go_quiet ((go_at_call 16; exact Calls.quiet_of_same ((unhide C) _)))
  have hb3 : Below (w.alloc (oEn x)).heap.size (w.alloc (oEn x)) ((w.alloc (oEn x)).drewN nq) := below_drewN (Below.refl _ _) nq
  have CB := hide (barrier_any ((unhide HX1).below hb3))
  have HB3 := hide hb3
  clear hb3 C c0 c1 c2
  go_wp2_with fail
  refine (unhide CB).mono ?_
  rintro e w4 ⟨rfl, hb4⟩
  have hb14 := (unhide HB3).trans (hb4.mono (unhide HB3).size)
  have hx4 := (unhide HX1).below hb14
  have hk4 := (unhide HX).below hb14 (by simp)
  have C := hide (len_any hx4)
  rw [unhide HN] at C
  obtain ⟨c0, c1, c2⟩ := cells3 hx4.box
  have HX4 := hide hx4
  have HK4 := hide ((Keep.of_below (unhide HB) (unhide H).hi).trans (Keep.of_below hb14 (fun k h => by have := (unhide H).hi k h; simp; omega)))
  have a0 := hk4.cell 0
  have a1 := hk4.cell 1
  have a2 := hk4.cell 2
  have a3 := hk4.cell 3
  have a4 := hk4.cell 4
  have a5 := hk4.cell 5
  have HKX := hide hk4
  clear CB hb4 hb14 hx4 hk4
  obtain ⟨x0, x1, x2, x3, x4, x5⟩ := x
  obtain ⟨zb, hzb⟩ : ∃ zb, barZ l = zb := ⟨_, rfl⟩
  rw [hzb] at HBZ ⊢
  clear hzb HX HX1 HB3
  obtain ⟨z, hz⟩ : ∃ z, barZ (l ++ [⟨x0, x1, x2, x3, x4, x5⟩]) = z := ⟨_, rfl⟩
  rw [hz] at HBZ
  have HZ := hide hz
  clear hz
  have hx4 := unhide HX4
  have g0 : w4.drew.cell? ⟨bb, 0, none⟩ = some (.slice A n cap) := c0
  have b0 : w4.drew.cell? ⟨w.heap.size, 0, none⟩ = some (.bool x0) := a0
  have b1 : w4.drew.cell? ⟨w.heap.size, 1, none⟩ = some (.int .i64 x1) := a1
  have b2 : w4.drew.cell? ⟨w.heap.size, 2, none⟩ = some (.int .i64 x2) := a2
  have b3 : w4.drew.cell? ⟨w.heap.size, 3, none⟩ = some (.int .i64 x3) := a3
  have b4 : w4.drew.cell? ⟨w.heap.size, 4, none⟩ = some (.int .i64 x4) := a4
  have b5 : w4.drew.cell? ⟨w.heap.size, 5, none⟩ = some (.int .i64 x5) := a5
  clear hx4
  obtain ⟨m2, hm2⟩ : ∃ m2, max most (n + 1) = m2 := ⟨_, rfl⟩
  have HM2 := hide hm2
  have HMX := hide (show max (most : Int) ((n : Int) + 1) = (m2 : Int) by omega)
  clear hm2
  cases x0 with
  | true =>
    obtain rfl : z = (n : Int) := by simpa using unhide HBZ
    clear HBZ
    go_wp2_with fail
    refine (unhide C).mono ?_
    rintro e w5 ⟨rfl, rfl⟩
    clear C
    go_wp2_with fail
    refine wp_region_noPanic ?_
    refine wp_plan (fun wx => wx.cell? ⟨bb, 0, none⟩ = some (.slice A n cap) ∧ wx.cell? ⟨w.heap.size, 0, none⟩ = some (.bool true) ∧ wx.cell? ⟨w.heap.size, 1, none⟩ = some (.int .i64 x1) ∧ wx.cell? ⟨w.heap.size, 2, none⟩ = some (.int .i64 x2) ∧ wx.cell? ⟨w.heap.size, 3, none⟩ = some (.int .i64 x3) ∧ wx.cell? ⟨w.heap.size, 4, none⟩ = some (.int .i64 x4) ∧ wx.cell? ⟨w.heap.size, 5, none⟩ = some (.int .i64 x5)) [(.t, 0), (.t, 1), (.t, 2), (.t, 3), (.l, 4), (.l, 5), (.t, 6), (.t, 7), (.k, 8), (.e, 9), (.t, 10), (.t, 11), (.e, 12)] (by kernel_rfl) (by kernel_rfl) (fun _ _ _ _ _ h => h) ?_
    simp only [plan, pick]
    repeat ((first | (apply pl_t; (· rfl); (· (intro w; go_simp; try with_reducible rfl))) | (apply pl_l; (· rfl); (· exact ⟨g0, b0, b1, b2, b3, b4, b5⟩); (· (rintro w ⟨c0, c1, c2, c3, c4, c5, c6⟩; go_simp; try with_reducible rfl)))); try simp only [Act.put, List.setIfInBounds_toArray, List.set_cons_zero, List.set_cons_succ])
    refine pl_k fun K1 hK => ?_
    go_simp
    refine hK.out _ _ ?_ ?_
    · have l1 := (unhide HX4).box.lt
      have l2 : w.heap.size < w5.heap.size := (unhide HKX).lt
      exact ⟨(World.cell?_alloc_lt _ _ ⟨bb, 0, none⟩ l1).trans g0, (World.cell?_alloc_lt _ _ ⟨w.heap.size, 0, none⟩ l2).trans b0, (World.cell?_alloc_lt _ _ ⟨w.heap.size, 1, none⟩ l2).trans b1, (World.cell?_alloc_lt _ _ ⟨w.heap.size, 2, none⟩ l2).trans b2, (World.cell?_alloc_lt _ _ ⟨w.heap.size, 3, none⟩ l2).trans b3, (World.cell?_alloc_lt _ _ ⟨w.heap.size, 4, none⟩ l2).trans b4, (World.cell?_alloc_lt _ _ ⟨w.heap.size, 5, none⟩ l2).trans b5⟩
    clear hK K1
    refine pl_e fun K1 hK => ?_
    rw [if_pos (by rfl)]
    refine wp_app_item (so := 23) (sn := 27) (x := ⟨true, x1, x2, x3, x4, x5⟩) (unhide HX4).drew (unhide HN) (by have := unhide HL; rw [unhide HN] at this; exact this) (unhide HZ).symm rfl rfl rfl rfl ?_
    intro g5 c5 w6 hpx hkp hbox
    have HPX := hide hpx
    have HKP := hide hkp
    obtain ⟨e0, e1, e2⟩ := cells3 hbox
    have f1 := hbox.frozen 0
    clear hpx hkp hbox
    refine hK.out _ _ ?_
    clear hK K1
    simp only [Act.put, List.setIfInBounds_toArray, List.set_cons_zero, List.set_cons_succ]
    repeat ((apply pl_t; (· rfl); (· (intro w; go_simp; try with_reducible rfl))); try simp only [Act.put, List.setIfInBounds_toArray, List.set_cons_zero, List.set_cons_succ])
    refine pl_e fun K1 hK => ?_
    go_simp
    refine hK.out _ _ ?_
    clear hK K1
    refine pl_n (NoPanic.normal ?_)
    go_wp2_with fail
    have hmx := unhide HMX
    have hc0 := (unhide HPX).box.cell 2
    have g2 : (w6.setCell ⟨bb, 0, none⟩ (.slice (some ⟨g5, 0, none⟩) (n + 1) c5)).drew.cell? ⟨bb, 2, none⟩ = some (.int .i64 (most : Int)) := hc0
    have CL := hide (show Calls Try.prog 16 #[.pointer (some ⟨bb, 0, none⟩)] (w6.setCell ⟨bb, 0, none⟩ (.slice (some ⟨g5, 0, none⟩) (n + 1) c5)).drew fun e w' => e = .returned (.int .i64 ((n : Int) + 1)) ∧ w' = (w6.setCell ⟨bb, 0, none⟩ (.slice (some ⟨g5, 0, none⟩) (n + 1) c5)).drew from by
      have := len_any (unhide HPX).drew
      rw [List.length_append, unhide HN] at this
      exact this)
    clear hc0
    refine wp_region_noPanic ?_
    refine wp_plan (fun wx => wx.cell? ⟨bb, 2, none⟩ = some (.int .i64 (most : Int))) [(.t, 0), (.t, 1), (.t, 2), (.t, 3), (.l, 4), (.t, 5), (.k, 6), (.t, 7), (.t, 8), (.t, 9), (.e, 10)] (by kernel_rfl) (by kernel_rfl) (fun _ _ _ _ _ h => h) ?_
    simp only [plan, pick]
    repeat ((first | (apply pl_t; (· rfl); (· (intro w; go_simp; try with_reducible rfl))) | (apply pl_l; (· rfl); (· exact g2); (· (rintro w c0; go_simp; try with_reducible rfl)))); try simp only [Act.put, List.setIfInBounds_toArray, List.set_cons_zero, List.set_cons_succ])
    refine pl_k fun K1 hK => ?_
    go_simp
    refine (unhide CL).mono ?_
    rintro e w7 ⟨rfl, rfl⟩
    go_simp
    refine hK.out _ _ g2 ?_
    clear hK K1 CL
    refine pl_t (v := .int .i64 (m2 : Int)) rfl ?_ ?_
    · intro wm
      have hm := unhide HMX
      go_simp
      clear hmx
      split <;> omega
    try simp only [Act.put, List.setIfInBounds_toArray, List.set_cons_zero, List.set_cons_succ]
    repeat ((apply pl_t; (· rfl); (· (intro w; go_simp; try with_reducible rfl))); try simp only [Act.put, List.setIfInBounds_toArray, List.set_cons_zero, List.set_cons_succ])
    have f3 : (w6.setCell ⟨bb, 0, none⟩ (.slice (some ⟨g5, 0, none⟩) (n + 1) c5)).drew.frozen? ⟨bb, 2, none⟩ = false := (unhide HPX).box.frozen 2
    refine pl_e fun K1 hK => ?_
    go_simp
    refine hK.out _ _ ?_
    clear hK K1
    refine pl_n (NoPanic.normal ?_)
    go_wp2_with fail
    go_ret
    refine ⟨rfl, ⟨.slice (some ⟨g5, 0, none⟩) (n + 1) c5, ?_⟩, ?_⟩
    · rw [unhide HN, unhide HM2]
      exact (unhide HPX).drew.setMost _ (by rw [← unhide HM2]; have := (unhide H).mx; have := unhide HL; rw [unhide HN] at this; omega)
    · exact (((unhide HK4).drew.trans (unhide HKP)).setCell (p := ⟨bb, 0, none⟩) (unhide H).kb (.slice (some ⟨g5, 0, none⟩) (n + 1) c5)).drew.setCell (p := ⟨bb, 2, none⟩) (unhide H).kb (.int .i64 (m2 : Int))
  | false =>
    obtain rfl : z = zb := by simpa using unhide HBZ
    clear HBZ
    go_wp2_with fail
    refine wp_region_noPanic ?_
    refine wp_plan (fun wx => wx.cell? ⟨bb, 0, none⟩ = some (.slice A n cap) ∧ wx.cell? ⟨w.heap.size, 0, none⟩ = some (.bool false) ∧ wx.cell? ⟨w.heap.size, 1, none⟩ = some (.int .i64 x1) ∧ wx.cell? ⟨w.heap.size, 2, none⟩ = some (.int .i64 x2) ∧ wx.cell? ⟨w.heap.size, 3, none⟩ = some (.int .i64 x3) ∧ wx.cell? ⟨w.heap.size, 4, none⟩ = some (.int .i64 x4) ∧ wx.cell? ⟨w.heap.size, 5, none⟩ = some (.int .i64 x5)) [(.t, 0), (.t, 1), (.t, 2), (.t, 3), (.l, 4), (.l, 5), (.t, 6), (.t, 7), (.k, 8), (.e, 9), (.t, 10), (.t, 11), (.e, 12)] (by kernel_rfl) (by kernel_rfl) (fun _ _ _ _ _ h => h) ?_
    simp only [plan, pick]
    repeat ((first | (apply pl_t; (· rfl); (· (intro w; go_simp; try with_reducible rfl))) | (apply pl_l; (· rfl); (· exact ⟨g0, b0, b1, b2, b3, b4, b5⟩); (· (rintro w ⟨c0, c1, c2, c3, c4, c5, c6⟩; go_simp; try with_reducible rfl)))); try simp only [Act.put, List.setIfInBounds_toArray, List.set_cons_zero, List.set_cons_succ])
    refine pl_k fun K1 hK => ?_
    go_simp
    refine hK.out _ _ ?_ ?_
    · have l1 := (unhide HX4).box.lt
      have l2 : w.heap.size < w4.heap.size := (unhide HKX).lt
      exact ⟨(World.cell?_alloc_lt _ _ ⟨bb, 0, none⟩ l1).trans g0, (World.cell?_alloc_lt _ _ ⟨w.heap.size, 0, none⟩ l2).trans b0, (World.cell?_alloc_lt _ _ ⟨w.heap.size, 1, none⟩ l2).trans b1, (World.cell?_alloc_lt _ _ ⟨w.heap.size, 2, none⟩ l2).trans b2, (World.cell?_alloc_lt _ _ ⟨w.heap.size, 3, none⟩ l2).trans b3, (World.cell?_alloc_lt _ _ ⟨w.heap.size, 4, none⟩ l2).trans b4, (World.cell?_alloc_lt _ _ ⟨w.heap.size, 5, none⟩ l2).trans b5⟩
    clear hK K1
    refine pl_e fun K1 hK => ?_
    rw [if_pos (by rfl)]
    refine wp_app_item (so := 23) (sn := 27) (x := ⟨false, x1, x2, x3, x4, x5⟩) (unhide HX4).drew (unhide HN) (by have := unhide HL; rw [unhide HN] at this; exact this) (unhide HZ).symm rfl rfl rfl rfl ?_
    intro g5 c5 w6 hpx hkp hbox
    have HPX := hide hpx
    have HKP := hide hkp
    obtain ⟨e0, e1, e2⟩ := cells3 hbox
    have f1 := hbox.frozen 0
    clear hpx hkp hbox
    refine hK.out _ _ ?_
    clear hK K1
    simp only [Act.put, List.setIfInBounds_toArray, List.set_cons_zero, List.set_cons_succ]
    repeat ((apply pl_t; (· rfl); (· (intro w; go_simp; try with_reducible rfl))); try simp only [Act.put, List.setIfInBounds_toArray, List.set_cons_zero, List.set_cons_succ])
    refine pl_e fun K1 hK => ?_
    go_simp
    refine hK.out _ _ ?_
    clear hK K1
    refine pl_n (NoPanic.normal ?_)
    go_wp2_with fail
    have hmx := unhide HMX
    have hc0 := (unhide HPX).box.cell 2
    have g2 : (w6.setCell ⟨bb, 0, none⟩ (.slice (some ⟨g5, 0, none⟩) (n + 1) c5)).drew.cell? ⟨bb, 2, none⟩ = some (.int .i64 (most : Int)) := hc0
    have CL := hide (show Calls Try.prog 16 #[.pointer (some ⟨bb, 0, none⟩)] (w6.setCell ⟨bb, 0, none⟩ (.slice (some ⟨g5, 0, none⟩) (n + 1) c5)).drew fun e w' => e = .returned (.int .i64 ((n : Int) + 1)) ∧ w' = (w6.setCell ⟨bb, 0, none⟩ (.slice (some ⟨g5, 0, none⟩) (n + 1) c5)).drew from by
      have := len_any (unhide HPX).drew
      rw [List.length_append, unhide HN] at this
      exact this)
    clear hc0
    refine wp_region_noPanic ?_
    refine wp_plan (fun wx => wx.cell? ⟨bb, 2, none⟩ = some (.int .i64 (most : Int))) [(.t, 0), (.t, 1), (.t, 2), (.t, 3), (.l, 4), (.t, 5), (.k, 6), (.t, 7), (.t, 8), (.t, 9), (.e, 10)] (by kernel_rfl) (by kernel_rfl) (fun _ _ _ _ _ h => h) ?_
    simp only [plan, pick]
    repeat ((first | (apply pl_t; (· rfl); (· (intro w; go_simp; try with_reducible rfl))) | (apply pl_l; (· rfl); (· exact g2); (· (rintro w c0; go_simp; try with_reducible rfl)))); try simp only [Act.put, List.setIfInBounds_toArray, List.set_cons_zero, List.set_cons_succ])
    refine pl_k fun K1 hK => ?_
    go_simp
    refine (unhide CL).mono ?_
    rintro e w7 ⟨rfl, rfl⟩
    go_simp
    refine hK.out _ _ g2 ?_
    clear hK K1 CL
    refine pl_t (v := .int .i64 (m2 : Int)) rfl ?_ ?_
    · intro wm
      have hm := unhide HMX
      go_simp
      clear hmx
      split <;> omega
    try simp only [Act.put, List.setIfInBounds_toArray, List.set_cons_zero, List.set_cons_succ]
    repeat ((apply pl_t; (· rfl); (· (intro w; go_simp; try with_reducible rfl))); try simp only [Act.put, List.setIfInBounds_toArray, List.set_cons_zero, List.set_cons_succ])
    have f3 : (w6.setCell ⟨bb, 0, none⟩ (.slice (some ⟨g5, 0, none⟩) (n + 1) c5)).drew.frozen? ⟨bb, 2, none⟩ = false := (unhide HPX).box.frozen 2
    refine pl_e fun K1 hK => ?_
    go_simp
    refine hK.out _ _ ?_
    clear hK K1
    refine pl_n (NoPanic.normal ?_)
    go_wp2_with fail
    go_ret
    refine ⟨rfl, ⟨.slice (some ⟨g5, 0, none⟩) (n + 1) c5, ?_⟩, ?_⟩
    · rw [unhide HN, unhide HM2]
      exact (unhide HPX).drew.setMost _ (by rw [← unhide HM2]; have := (unhide H).mx; have := unhide HL; rw [unhide HN] at this; omega)
    · exact (((unhide HK4).drew.trans (unhide HKP)).setCell (p := ⟨bb, 0, none⟩) (unhide H).kb (.slice (some ⟨g5, 0, none⟩) (n + 1) c5)).drew.setCell (p := ⟨bb, 2, none⟩) (unhide H).kb (.int .i64 (m2 : Int))
end
end
theorem push_any {K : Nat → Prop} {base bb lim most : Nat} {l : List En} {w : World} (h : PV K base bb l lim most w) (x : En) : Calls Try.prog 9 #[.pointer (some ⟨bb, 0, none⟩), enV x] w fun e w' => e = .returned (.bool (decide (l.length < lim))) ∧ PV K base bb (pushL l lim x) lim (max most (pushL l lim x).length) w' ∧ Keep K w w' := by
  obtain ⟨iv, h, hm⟩ := h
  unfold pushL
  by_cases hl : l.length < lim
  · rw [if_pos hl, show decide (l.length < lim) = true by simpa using hl]
    refine (push_room h x hl).mono fun e w' ⟨h1, ⟨iv', h2⟩, h3⟩ => ⟨h1, ⟨iv', ?_, Nat.le_max_right _ _⟩, h3⟩
    rw [List.length_append]
    exact h2
  · rw [if_neg hl, show decide (l.length < lim) = false by simpa using hl]
    refine (push_full h x (by have := h.room; omega)).mono fun e w' ⟨h1, h2⟩ => ⟨h1, ⟨iv, ?_, Nat.le_max_right _ _⟩, Keep.of_below h2 h.hi⟩
    rw [Nat.max_eq_left hm]
    exact h.below h2
section
variable {K : Nat → Prop} {base bb lim most : Nat} {l : List En} {w : World}
theorem vlen_any (h : PV K base bb l lim most w) : Calls Try.prog 16 #[.pointer (some ⟨bb, 0, none⟩)] w fun e w' => e = .returned (.int .i64 (l.length : Int)) ∧ w' = w := by
  obtain ⟨iv, h, hm⟩ := h
  exact len_any h
theorem vmost_any (h : PV K base bb l lim most w) : Calls Try.prog 17 #[.pointer (some ⟨bb, 0, none⟩)] w fun e w' => e = .returned (.int .i64 (most : Int)) ∧ w' = w := by
  obtain ⟨iv, h, hm⟩ := h
  exact most_any h
theorem vtop_any (h : PV K base bb l lim most w) : Calls Try.prog 14 #[.pointer (some ⟨bb, 0, none⟩)] w fun e w' => e = .returned (.tuple #[enV (lastE l), .bool (decide (0 < l.length))]) ∧ Below w.heap.size w w' := by
  obtain ⟨iv, h, hm⟩ := h
  exact ptop_any h
theorem vbar_any (h : PV K base bb l lim most w) : Calls Try.prog 15 #[.pointer (some ⟨bb, 0, none⟩)] w fun e w' => e = .returned (.tuple #[enV (barE l), .bool (decide (0 ≤ barZ l))]) ∧ Below w.heap.size w w' := by
  obtain ⟨iv, h, hm⟩ := h
  exact pbar_any h
theorem take_le (l : List En) (k : Nat) : (l.take k).length ≤ l.length := by rw [List.length_take]; omega
theorem vpop_any (h : PV K base bb l lim most w) : Calls Try.prog 10 #[.pointer (some ⟨bb, 0, none⟩)] w fun e w' => e = .returned (.tuple #[enV (lastE l), .bool (decide (0 < l.length))]) ∧ PV K base bb (l.take (l.length - 1)) lim most w' ∧ Keep K w w' := by
  obtain ⟨iv, h, hm⟩ := h
  exact (pop_any h).mono fun e w' ⟨h1, ⟨iv', h2⟩, h3⟩ => ⟨h1, ⟨iv', h2, Nat.le_trans (take_le _ _) hm⟩, h3⟩
theorem vcut_any (h : PV K base bb l lim most w) : Calls Try.prog 12 #[.pointer (some ⟨bb, 0, none⟩)] w fun e w' => e = .returned (.tuple #[enV (barE l), .bool (decide (0 ≤ barZ l))]) ∧ PV K base bb (l.take (cutN l)) lim most w' ∧ Keep K w w' := by
  obtain ⟨iv, h, hm⟩ := h
  exact (cut_any h).mono fun e w' ⟨h1, ⟨iv', h2⟩, h3⟩ => ⟨h1, ⟨iv', h2, Nat.le_trans (take_le _ _) hm⟩, h3⟩
theorem vclear_any (h : PV K base bb l lim most w) : Calls Try.prog 13 #[.pointer (some ⟨bb, 0, none⟩)] w fun e w' => e = .returned (.tuple #[]) ∧ PV K base bb [] lim most w' ∧ Keep K w w' := by
  obtain ⟨iv, h, hm⟩ := h
  exact (clear_any h).mono fun e w' ⟨h1, ⟨iv', h2⟩, h3⟩ => ⟨h1, ⟨iv', h2, Nat.zero_le _⟩, h3⟩
end
end Go.Proofs.Ytklmligfljakfaa.Pi
