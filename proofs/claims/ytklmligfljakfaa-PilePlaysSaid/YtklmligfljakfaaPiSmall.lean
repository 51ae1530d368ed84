/-
  Len, Most, top, barrier, at, leave and take of a pile, walked. No conditions but that the pile lies in memory.
-/
import Derived.Test.YtklmligfljakfaaPiMem
import Derived.Deep.QuietTactic
import Derived.BigQuiet
set_option linter.unusedVariables false
set_option linter.unusedSimpArgs false
namespace Go.Proofs.Ytklmligfljakfaa.Pi
open Go.RowKit Go.Proofs.Ytklmligfljakfaa.Mem Go.Proofs.Ytklmligfljakfaa.Kp
section
variable {K : Nat → Prop} {base bb lim most : Nat} {iv : Value} {l : List En} {w : World}
set_option maxHeartbeats 400000 in
theorem len_any (h : PX K base bb iv l lim most w) : Calls Try.prog 16 #[.pointer (some ⟨bb, 0, none⟩)] w fun e w' => e = .returned (.int .i64 (l.length : Int)) ∧ w' = w := by
  obtain ⟨A, cap, rfl, -⟩ := own_form h.rows
  obtain ⟨c0, c1, c2⟩ := cells3 h.box
  generalize l.length = n at *
  clear h
  go_enter Try.func16, Try.ntmps16
  go_wp2
  go_ret
  exact ⟨rfl, rfl⟩
set_option maxHeartbeats 400000 in
theorem most_any (h : PX K base bb iv l lim most w) : Calls Try.prog 17 #[.pointer (some ⟨bb, 0, none⟩)] w fun e w' => e = .returned (.int .i64 (most : Int)) ∧ w' = w := by
  obtain ⟨c0, c1, c2⟩ := cells3 h.box
  clear h
  go_enter Try.func17, Try.ntmps17
  go_wp2
  go_ret
  exact ⟨rfl, rfl⟩
set_option maxHeartbeats 400000 in
theorem top_any (h : PX K base bb iv l lim most w) : Calls Try.prog 20 #[.pointer (some ⟨bb, 0, none⟩)] w fun e w' => e = .returned (.int .i64 ((l.length : Int) - 1)) ∧ w' = w := by
  have C := hide (len_any h)
  have h1 := h.room
  have h2 := h.small
  clear h
  generalize l.length = n at *
  by_cases h0 : n = 0
  · subst h0
    go_enter Try.func20, Try.ntmps20
    go_wp2_with fail
    refine (unhide C).mono ?_
    rintro e w1 ⟨rfl, rfl⟩
    go_wp2
    go_ret
    exact ⟨rfl, rfl⟩
  · have d0 : ((n : Int) == 0) = false := by simpa using h0
    have ws : IntKind.i64.wrap ((n : Int) - 1) = (n : Int) - 1 := by rw [IntKind.wrap_i64]; omega
    have HN := hide h0
    clear h0
    go_enter Try.func20, Try.ntmps20
    go_wp2_with fail
    refine (unhide C).mono ?_
    rintro e w1 ⟨rfl, rfl⟩
    go_wp2_with fail
    refine (unhide C).mono ?_
    rintro e w1 ⟨rfl, rfl⟩
    go_wp2
    go_ret
    exact ⟨rfl, rfl⟩
set_option maxHeartbeats 800000 in
theorem barrier_any (h : PX K base bb iv l lim most w) : Calls Try.prog 18 #[.pointer (some ⟨bb, 0, none⟩)] w fun e w' => e = .returned (.int .i64 (barZ l)) ∧ Below w.heap.size w w' := by
  have C := hide (len_any h)
  have h1 := h.room
  have h2 := h.small
  rcases Nat.eq_zero_or_pos l.length with h0 | h0
  · obtain rfl := List.eq_nil_of_length_eq_zero h0
    clear h h0 h1
    go_enter Try.func18, Try.ntmps18
    go_wp2_with fail
    refine (unhide C).mono ?_
    rintro e w1 ⟨rfl, rfl⟩
    go_wp2
    go_ret
    exact ⟨rfl, Below.refl _ _⟩
  · have hh := h
    obtain ⟨A, cap, rfl, r1, r2, r3, -⟩ := own_form h.rows
    obtain ⟨g, rfl, hg, hc⟩ := r3 h0
    obtain ⟨c0, c1, c2⟩ := cells3 h.box
    have q6 := hc _ _ (cellsI_at (lastE_at h0)).2.2.2.2.2.2
    rw [show l.length - 1 + 1 = l.length by omega, List.take_length] at q6
    have d0 : ((l.length : Int) == 0) = false := by rw [beq_eq_false_iff_ne]; omega
    obtain ⟨n, hn⟩ : ∃ n, l.length - 1 = n := ⟨_, rfl⟩
    have e1 : l.length = n + 1 := by omega
    have e2 : ((l.length : Int) - 1) = (n : Int) := by omega
    rw [hn] at q6
    have CT := hide (show ∀ k, Calls Try.prog 20 #[.pointer (some ⟨bb, 0, none⟩)] (w.drewN k) fun e w' => e = .returned (.int .i64 (n : Int)) ∧ w' = w.drewN k from fun k => by
      have := top_any (hh.below (below_drewN (Below.refl _ _) k))
      rw [e2] at this
      exact this)
    rw [e1] at C d0 c0
    have hnl : (n : Int) < ((n + 1 : Nat) : Int) := by omega
    generalize barZ l = z at *
    clear h hh hc h0 hn e1 e2 r1
    go_enter Try.func18, Try.ntmps18
    go_wp2_with fail
    refine (unhide C).mono ?_
    rintro e w1 ⟨rfl, rfl⟩
    clear C
    go_wp2_with fail
    go_quiet ((go_at_call 20; exact Calls.quiet_of_same ((unhide CT) _)))
    go_wp2
    go_ret
    exact ⟨rfl, below_drewN (Below.refl _ _) _⟩
abbrev zEn : Obj := .cells #[.bool false, .int .i64 0, .int .i64 0, .int .i64 0, .int .i64 0, .int .i64 0] 30
section
attribute [local go_sem] build_en0
set_option maxHeartbeats 800000 in
theorem at_out (w : World) (bb : Nat) : Calls Try.prog 22 #[.pointer (some ⟨bb, 0, none⟩), .int .i64 (-1)] w fun e w' => e = .returned (.tuple #[enV en0, .bool false]) ∧ Below w.heap.size w w' := by
  go_enter Try.func22, Try.ntmps22
  go_wp2_with fail
  exact bodyPost_ret (results_ct rfl _ _ w.heap.size _ _ _ rfl rfl (Blk.new w _ _) Try.underlying30 rfl (by kernel_rfl)) rfl ⟨rfl, below_box _ _⟩
end
set_option maxHeartbeats 1000000 in
theorem at_in (h : PX K base bb iv l lim most w) (k : Nat) (x : En) (hk : l[k]? = some x) : Calls Try.prog 22 #[.pointer (some ⟨bb, 0, none⟩), .int .i64 (k : Int)] w fun e w' => e = .returned (.tuple #[enV x, .bool true]) ∧ Below w.heap.size w w' := by
  have hb := below_box w zEn
  have h1 := h.below hb
  have hkl := (List.getElem?_eq_some_iff.1 hk).1
  obtain ⟨A, cap, rfl, r1, r2, r3, -⟩ := own_form h1.rows
  obtain ⟨g, rfl, hg, hc⟩ := r3 (by omega)
  obtain ⟨c0, c1, c2⟩ := cells3 h1.box
  obtain ⟨q0, q1, q2, q3, q4, q5, -⟩ := cellsI_at hk
  replace q0 := hc _ _ q0
  replace q1 := hc _ _ q1
  replace q2 := hc _ _ q2
  replace q3 := hc _ _ q3
  replace q4 := hc _ _ q4
  replace q5 := hc _ _ q5
  have d0 : ((k : Int) == -1) = false := by rw [beq_eq_false_iff_ne]; omega
  have hki : (k : Int) < (l.length : Int) := by omega
  generalize l.length = n at *
  obtain ⟨x0, x1, x2, x3, x4, x5⟩ := x
  simp only at q0 q1 q2 q3 q4 q5
  clear h h1 hc hk hb r1 r3
  go_enter Try.func22, Try.ntmps22
  go_wp2_with fail
  exact bodyPost_ret (results_ct rfl _ _ w.heap.size _ _ _ rfl rfl (Blk.new w _ _) Try.underlying30 rfl (by kernel_rfl)) rfl ⟨rfl, below_box _ _⟩
theorem PX.cut0 {K : Nat → Prop} {base bb lim most : Nat} {w : World} (h : PX K base bb (.slice none 0 0) [] lim most w) : PX K base bb (.slice none 0 0) [] lim most (w.setCell ⟨bb, 0, none⟩ (.slice none 0 0)) :=
  ⟨h.box.set_ 0 _, ⟨rfl, .inl ⟨rfl, rfl⟩⟩, h.kb, h.kt, h.lo, fun k hk => by simpa [World.setCell] using h.hi k hk, h.small, h.room, h.mx⟩
section
attribute [local go_sem high] slice_tail slice_head
set_option maxHeartbeats 1000000 in
theorem leave_any (h : PX K base bb iv l lim most w) (m : Nat) (hm : m ≤ l.length) : Calls Try.prog 21 #[.pointer (some ⟨bb, 0, none⟩), .int .i64 (m : Int)] w fun e w' => e = .returned (.tuple #[]) ∧ (∃ iv', PX K base bb iv' (l.take m) lim most w') ∧ Keep K w w' := by
  obtain ⟨A, cap, rfl, r1, r2, r3, r4⟩ := own_form h.rows
  obtain ⟨c0, c1, c2⟩ := cells3 h.box
  have hlen : (l.take m).length = m := by rw [List.length_take]; omega
  have HL := hide hlen
  rcases r4 with ⟨rfl, hn, rfl⟩ | ⟨g, rfl⟩
  · obtain rfl := List.eq_nil_of_length_eq_zero hn
    obtain rfl : m = 0 := by simpa using hm
    have H := hide h
    have f0 := h.box.frozen 0
    have ck := fun ty W => run_clear_none (P := Try.prog) 42 ty 46 Try.underlying42 none 0 W
    clear h hn hm hlen r1 r3
    go_enter Try.func21, Try.ntmps21
    go_wp2_with fail
    exact bodyPost_end (v := .tuple #[]) (by simp [results, Try.f21]) rfl ⟨rfl, ⟨_, (unhide H).cut0⟩, (Keep.refl K w).setCell (p := ⟨bb, 0, none⟩) (unhide H).kb _⟩
  · have H := hide h
    have HM := hide hm
    have HC : 0 < l.length - m → cutC (some ⟨g, 0, none⟩) m cap = some ⟨g, m * 7, none⟩ := fun h0 => by
      unfold cutC
      rw [if_neg (by omega), Option.map_some, add_flat, Nat.zero_add]
    have HCC := hide HC
    have f0 := h.box.frozen 0
    obtain ⟨n, hn⟩ : ∃ n, l.length = n := ⟨_, rfl⟩
    have HN := hide hn
    rw [hn] at c0 r1 hm
    have hmi : (m : Int) ≤ (n : Int) := by omega
    clear h hlen r3 HC hn
    go_enter Try.func21, Try.ntmps21
    go_wp2_with (refine wpList_clear_own rfl (.tmp 9) 42 rfl rfl 46 _ Try.underlying42 Try.zeroValue46 (by simp [Value.cells, Value.oneCell']) rfl m (unhide HM) (unhide H).rows _ _ _ rfl (by rw [unhide HN]) (by rw [← unhide HN]; exact unhide HCC) ?_; intro w2 ho hgr; have HO := hide ho; have HG := hide hgr; have e0 : w2.cell? ⟨bb, 0, none⟩ = some (.slice (some ⟨g, 0, none⟩) n cap) := (World.cell?_of_block (hgr.block bb (unhide H).box.lt (fun e => (unhide H).ne e.symm))).trans c0; have e1 : w2.frozen? ⟨bb, 0, none⟩ = false := ((unhide H).box.grown hgr (fun e => (unhide H).ne e.symm)).frozen 0; clear ho hgr)
    have hu : w2.grownBy (w2.setCell ⟨bb, 0, none⟩ (.slice (some ⟨g, 0, none⟩) m cap)) (some bb) := only_setCell (World.grownBy.refl w2 _) (.inl rfl) _
    have h := unhide H
    have hbx := h.box.grown (unhide HG) (fun e => h.ne e.symm)
    have ho := unhide HO
    refine bodyPost_end (v := .tuple #[]) (by simp [results, Try.f21]) rfl ⟨rfl, ⟨.slice (some ⟨g, 0, none⟩) m cap, ⟨hbx.set_ 0 _, ?_, h.kb, fun g' e => h.kt g' e, h.lo, fun k hk => ?_, h.small, by have := h.room; have := unhide HM; rw [unhide HL]; omega, h.mx⟩⟩, (Keep.of_grown (unhide HG) h.hi (fun g' e => h.kt g' e)).setCell (p := ⟨bb, 0, none⟩) h.kb _⟩
    · rw [unhide HL, cellsI_take]
      exact ownsRow_setCell_other ho (a := ⟨bb, 0, none⟩) (own_blk_ne ho hbx (by decide)) _
    · have := Nat.lt_of_lt_of_le (h.hi k hk) (unhide HG).size
      simpa [World.setCell] using this
end
end
end Go.Proofs.Ytklmligfljakfaa.Pi
