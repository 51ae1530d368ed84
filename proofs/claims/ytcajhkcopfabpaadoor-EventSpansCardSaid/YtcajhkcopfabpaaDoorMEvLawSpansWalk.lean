/-
  EventSpans, walked: true at any state and any group.
-/
import Derived.Test.YtcajhkcopfabpaaDoorMEvAnchor
import Derived.Test.YtcajhkcopfabpaaDoorMEvSpan
set_option linter.unusedSimpArgs false
set_option linter.unusedVariables false
namespace Go.Proofs.YtcajhkcopfabpaaDoor.Ev
open Go.RowKit Go.Proofs.YtcajhkcopfabpaaDoor.Mem
section
attribute [local go_sem] run_not_true run_not_false
set_option maxRecDepth 100000 in
set_option maxHeartbeats 4000000 in
theorem spans_neg (s : St) (A : Option Addr) (c : Nat) (g : Int) (w : World) (hN : Nm w) (hC : CV s.caps A c w) (h : g < 0) :
    Calls Tryd.prog 4 #[.agg #[.int .i64 s.kind, .int .i64 s.node, .int .i64 s.phase, .int .i64 s.pos, .int .i64 s.start, .int .i64 s.depth, .int .i64 s.origin, .slice A s.caps.length c], .int .i64 g] w fun e w' => e = .returned (.bool true) ∧ Below w.heap.size w w' := by
  have hb0 := below_box w (.cells #[.int .i64 s.kind, .int .i64 s.node, .int .i64 s.phase, .int .i64 s.pos, .int .i64 s.start, .int .i64 s.depth, .int .i64 s.origin, .slice A s.caps.length c] 24)
  have CA := hide (anchor_any _ (hN.below hb0 (Nat.le_refl _)))
  have HC := hide (hC.below hb0)
  have HBX := hide (Blk.new w 24 #[.int .i64 s.kind, .int .i64 s.node, .int .i64 s.phase, .int .i64 s.pos, .int .i64 s.start, .int .i64 s.depth, .int .i64 s.origin, .slice A s.caps.length c])
  have HB := hide hb0
  have hroom := hC.room
  have htop := hC.top
  clear hN hC hb0
  have HE := hide (show spanZ s.caps g = (0, 0, false) by unfold spanZ; rw [if_neg (by omega)])
  go_enter Tryd.func4, Tryd.ntmps4
  go_wp2_with fail
  refine (unhide CA).mono ?_
  rintro e w1 ⟨rfl, hb1⟩
  have HC1 := hide ((unhide HC).below hb1)
  have hbx := (unhide HBX).below hb1 (unhide HBX).lt
  have HB1 := hide ((unhide HB).trans (hb1.mono (unhide HB).size))
  have CS := hide (span_any s A c g w1 (unhide HC1))
  rw [unhide HE] at CS
  obtain ⟨c0, c1, c2, c3, c4, c5, c6, c7⟩ := cells8 hbx
  have HBX1 := hide hbx
  clear CA HC HBX HB hb1 hbx
  go_wp2_with fail
  refine (unhide CS).mono ?_
  rintro e w2 ⟨rfl, hb2⟩
  clear c0 c1 c2 c3 c4 c5 c6 c7
  have HB2 := hide ((unhide HB1).trans (hb2.mono (unhide HB1).size))
  have c7 := ((unhide HBX1).below hb2 (unhide HBX1).lt).cell 7
  clear CS hb2
  go_wp2
  go_ret
  exact ⟨rfl, unhide HB2⟩
set_option maxRecDepth 100000 in
set_option maxHeartbeats 4000000 in
theorem spans_big (s : St) (A : Option Addr) (c : Nat) (g : Int) (w : World) (hN : Nm w) (hC : CV s.caps A c w) (h0 : 0 ≤ g) (h : (s.caps.length : Int) / 2 ≤ g) :
    Calls Tryd.prog 4 #[.agg #[.int .i64 s.kind, .int .i64 s.node, .int .i64 s.phase, .int .i64 s.pos, .int .i64 s.start, .int .i64 s.depth, .int .i64 s.origin, .slice A s.caps.length c], .int .i64 g] w fun e w' => e = .returned (.bool true) ∧ Below w.heap.size w w' := by
  have hb0 := below_box w (.cells #[.int .i64 s.kind, .int .i64 s.node, .int .i64 s.phase, .int .i64 s.pos, .int .i64 s.start, .int .i64 s.depth, .int .i64 s.origin, .slice A s.caps.length c] 24)
  have CA := hide (anchor_any _ (hN.below hb0 (Nat.le_refl _)))
  have HC := hide (hC.below hb0)
  have HBX := hide (Blk.new w 24 #[.int .i64 s.kind, .int .i64 s.node, .int .i64 s.phase, .int .i64 s.pos, .int .i64 s.start, .int .i64 s.depth, .int .i64 s.origin, .slice A s.caps.length c])
  have HB := hide hb0
  have hroom := hC.room
  have htop := hC.top
  clear hN hC hb0
  have HE := hide (show spanZ s.caps g = (0, 0, false) by unfold spanZ; rw [if_neg (by omega)])
  have d0 : decide (g < 0) = false := by simp; omega
  have hd : (s.caps.length : Int).tdiv 2 = (s.caps.length : Int) / 2 := Int.tdiv_eq_ediv_of_nonneg (by omega)
  have hw : IntKind.i64.wrap ((s.caps.length : Int) / 2) = (s.caps.length : Int) / 2 := by rw [IntKind.wrap_i64]; omega
  go_enter Tryd.func4, Tryd.ntmps4
  go_wp2_with fail
  refine (unhide CA).mono ?_
  rintro e w1 ⟨rfl, hb1⟩
  have HC1 := hide ((unhide HC).below hb1)
  have hbx := (unhide HBX).below hb1 (unhide HBX).lt
  have HB1 := hide ((unhide HB).trans (hb1.mono (unhide HB).size))
  have CS := hide (span_any s A c g w1 (unhide HC1))
  rw [unhide HE] at CS
  obtain ⟨c0, c1, c2, c3, c4, c5, c6, c7⟩ := cells8 hbx
  have HBX1 := hide hbx
  clear CA HC HBX HB hb1 hbx
  go_wp2_with fail
  refine (unhide CS).mono ?_
  rintro e w2 ⟨rfl, hb2⟩
  clear c0 c1 c2 c3 c4 c5 c6 c7
  have HB2 := hide ((unhide HB1).trans (hb2.mono (unhide HB1).size))
  have c7 := ((unhide HBX1).below hb2 (unhide HBX1).lt).cell 7
  generalize s.caps.length = n at *
  clear CS hb2
  go_wp2
  go_ret
  exact ⟨rfl, unhide HB2⟩
set_option maxRecDepth 100000 in
set_option maxHeartbeats 4000000 in
theorem spans_in (s : St) (A : Option Addr) (c : Nat) (k : Nat) (w : World) (hN : Nm w) (hC : CV s.caps A c w) (h : (k : Int) < (s.caps.length : Int) / 2) :
    Calls Tryd.prog 4 #[.agg #[.int .i64 s.kind, .int .i64 s.node, .int .i64 s.phase, .int .i64 s.pos, .int .i64 s.start, .int .i64 s.depth, .int .i64 s.origin, .slice A s.caps.length c], .int .i64 (k : Int)] w fun e w' => e = .returned (.bool true) ∧ Below w.heap.size w w' := by
  have d0 : decide ((k : Int) < 0) = false := by simp
  have hd : (s.caps.length : Int).tdiv 2 = (s.caps.length : Int) / 2 := Int.tdiv_eq_ediv_of_nonneg (by omega)
  have hsmall := hC.room
  have hsmall2 := hC.top
  have hw : IntKind.i64.wrap ((s.caps.length : Int) / 2) = (s.caps.length : Int) / 2 := by rw [IntKind.wrap_i64]; omega
  have hge : decide ((s.caps.length : Int) / 2 ≤ (k : Int)) = false := by simp; omega
  obtain ⟨f, hf⟩ : ∃ f, s.caps[2 * k]? = some f := ⟨_, List.getElem?_eq_getElem (by omega)⟩
  obtain ⟨t, ht⟩ : ∃ t, s.caps[2 * k + 1]? = some t := ⟨_, List.getElem?_eq_getElem (by omega)⟩
  have HE0 := hide (show spanZ s.caps (k : Int) = if f < 0 ∨ t < 0 then (0, 0, false) else (f, t, true) by
    unfold spanZ
    rw [if_pos (by omega), Int.toNat_natCast, List.getD, List.getD, hf, ht]
    rfl)
  obtain ⟨j, hj⟩ : ∃ j, j = 2 * k := ⟨_, rfl⟩
  obtain ⟨i, hi⟩ : ∃ i, i = 2 * k + 1 := ⟨_, rfl⟩
  have w1 : IntKind.i64.wrap (2 * (k : Int)) = (j : Int) := by rw [IntKind.wrap_i64]; omega
  have w2 : IntKind.i64.wrap ((j : Int) + 1) = (i : Int) := by rw [IntKind.wrap_i64]; omega
  have b1 : (j : Int) < (s.caps.length : Int) := by omega
  have b2 : (i : Int) < (s.caps.length : Int) := by omega
  rw [← hj] at hf
  rw [← hi] at ht
  have HF := hide hf
  have HTT := hide ht
  have H := hide h
  clear hj hi hf ht hsmall hsmall2 h
  have hb0 := below_box w (.cells #[.int .i64 s.kind, .int .i64 s.node, .int .i64 s.phase, .int .i64 s.pos, .int .i64 s.start, .int .i64 s.depth, .int .i64 s.origin, .slice A s.caps.length c] 24)
  have CA := hide (anchor_any _ (hN.below hb0 (Nat.le_refl _)))
  have HC := hide (hC.below hb0)
  have HBX := hide (Blk.new w 24 #[.int .i64 s.kind, .int .i64 s.node, .int .i64 s.phase, .int .i64 s.pos, .int .i64 s.start, .int .i64 s.depth, .int .i64 s.origin, .slice A s.caps.length c])
  have HB := hide hb0
  have hroom := hC.room
  have htop := hC.top
  clear hN hC hb0
  by_cases q1 : f < 0
  · have HE := hide ((unhide HE0).trans (if_pos (.inl q1)))
    go_enter Tryd.func4, Tryd.ntmps4
    go_wp2_with fail
    refine (unhide CA).mono ?_
    rintro e w1 ⟨rfl, hb1⟩
    have HC1 := hide ((unhide HC).below hb1)
    have hbx := (unhide HBX).below hb1 (unhide HBX).lt
    have HB1 := hide ((unhide HB).trans (hb1.mono (unhide HB).size))
    have CS := hide (span_any s A c (k : Int) w1 (unhide HC1))
    rw [unhide HE] at CS
    obtain ⟨c0, c1, c2, c3, c4, c5, c6, c7⟩ := cells8 hbx
    have HBX1 := hide hbx
    clear CA HC HBX HB hb1 hbx
    go_wp2_with fail
    refine (unhide CS).mono ?_
    rintro e w2 ⟨rfl, hb2⟩
    clear c0 c1 c2 c3 c4 c5 c6 c7
    have HB2 := hide ((unhide HB1).trans (hb2.mono (unhide HB1).size))
    have c7 := ((unhide HBX1).below hb2 (unhide HBX1).lt).cell 7
    obtain ⟨b, off, e, hb, hc⟩ := (unhide HC1).reads.flat (by have := (List.getElem?_eq_some_iff.1 (unhide HF)).1; omega)
    subst e
    have p1 := (hb2.cell (p := ⟨b, off + j, none⟩) hb).trans (hc j (.int .i64 f) (by rw [List.getElem?_map, unhide HF]; rfl))
    have p2 := (hb2.cell (p := ⟨b, off + i, none⟩) hb).trans (hc i (.int .i64 t) (by rw [List.getElem?_map, unhide HTT]; rfl))
    clear hb hc
    generalize s.caps.length = n at *
    clear CS hb2
    go_wp2
    go_ret
    exact ⟨rfl, unhide HB2⟩
  · have e1 : decide (f < 0) = false := by simp; omega
    by_cases q2 : t < 0
    · have HE := hide ((unhide HE0).trans (if_pos (.inr q2)))
      go_enter Tryd.func4, Tryd.ntmps4
      go_wp2_with fail
      refine (unhide CA).mono ?_
      rintro e w1 ⟨rfl, hb1⟩
      have HC1 := hide ((unhide HC).below hb1)
      have hbx := (unhide HBX).below hb1 (unhide HBX).lt
      have HB1 := hide ((unhide HB).trans (hb1.mono (unhide HB).size))
      have CS := hide (span_any s A c (k : Int) w1 (unhide HC1))
      rw [unhide HE] at CS
      obtain ⟨c0, c1, c2, c3, c4, c5, c6, c7⟩ := cells8 hbx
      have HBX1 := hide hbx
      clear CA HC HBX HB hb1 hbx
      go_wp2_with fail
      refine (unhide CS).mono ?_
      rintro e w2 ⟨rfl, hb2⟩
      clear c0 c1 c2 c3 c4 c5 c6 c7
      have HB2 := hide ((unhide HB1).trans (hb2.mono (unhide HB1).size))
      have c7 := ((unhide HBX1).below hb2 (unhide HBX1).lt).cell 7
      obtain ⟨b, off, e, hb, hc⟩ := (unhide HC1).reads.flat (by have := (List.getElem?_eq_some_iff.1 (unhide HF)).1; omega)
      subst e
      have p1 := (hb2.cell (p := ⟨b, off + j, none⟩) hb).trans (hc j (.int .i64 f) (by rw [List.getElem?_map, unhide HF]; rfl))
      have p2 := (hb2.cell (p := ⟨b, off + i, none⟩) hb).trans (hc i (.int .i64 t) (by rw [List.getElem?_map, unhide HTT]; rfl))
      clear hb hc
      generalize s.caps.length = n at *
      clear CS hb2
      go_wp2
      go_ret
      exact ⟨rfl, unhide HB2⟩
    · have e2 : decide (t < 0) = false := by simp; omega
      have HE := hide ((unhide HE0).trans (if_neg (by omega)))
      go_enter Tryd.func4, Tryd.ntmps4
      go_wp2_with fail
      refine (unhide CA).mono ?_
      rintro e w1 ⟨rfl, hb1⟩
      have HC1 := hide ((unhide HC).below hb1)
      have hbx := (unhide HBX).below hb1 (unhide HBX).lt
      have HB1 := hide ((unhide HB).trans (hb1.mono (unhide HB).size))
      have CS := hide (span_any s A c (k : Int) w1 (unhide HC1))
      rw [unhide HE] at CS
      obtain ⟨c0, c1, c2, c3, c4, c5, c6, c7⟩ := cells8 hbx
      have HBX1 := hide hbx
      clear CA HC HBX HB hb1 hbx
      go_wp2_with fail
      refine (unhide CS).mono ?_
      rintro e w2 ⟨rfl, hb2⟩
      clear c0 c1 c2 c3 c4 c5 c6 c7
      have HB2 := hide ((unhide HB1).trans (hb2.mono (unhide HB1).size))
      have c7 := ((unhide HBX1).below hb2 (unhide HBX1).lt).cell 7
      obtain ⟨b, off, e, hb, hc⟩ := (unhide HC1).reads.flat (by have := (List.getElem?_eq_some_iff.1 (unhide HF)).1; omega)
      subst e
      have p1 := (hb2.cell (p := ⟨b, off + j, none⟩) hb).trans (hc j (.int .i64 f) (by rw [List.getElem?_map, unhide HF]; rfl))
      have p2 := (hb2.cell (p := ⟨b, off + i, none⟩) hb).trans (hc i (.int .i64 t) (by rw [List.getElem?_map, unhide HTT]; rfl))
      clear hb hc
      generalize s.caps.length = n at *
      clear CS hb2
      go_wp2
      go_ret
      exact ⟨rfl, unhide HB2⟩
theorem walkSpans (s : St) (A : Option Addr) (c : Nat) (g : Int) (w : World) (hN : Nm w) (hC : CV s.caps A c w) :
    Calls Tryd.prog 4 #[.agg #[.int .i64 s.kind, .int .i64 s.node, .int .i64 s.phase, .int .i64 s.pos, .int .i64 s.start, .int .i64 s.depth, .int .i64 s.origin, .slice A s.caps.length c], .int .i64 g] w fun e w' => e = .returned (.bool true) ∧ Below w.heap.size w w' := by
  by_cases h0 : g < 0
  · exact spans_neg s A c g w hN hC h0
  · by_cases h1 : (s.caps.length : Int) / 2 ≤ g
    · exact spans_big s A c g w hN hC (by omega) h1
    · obtain ⟨k, rfl⟩ : ∃ k : Nat, g = (k : Int) := ⟨g.toNat, by omega⟩
      exact spans_in s A c k w hN hC (by omega)
end
end Go.Proofs.YtcajhkcopfabpaaDoor.Ev
