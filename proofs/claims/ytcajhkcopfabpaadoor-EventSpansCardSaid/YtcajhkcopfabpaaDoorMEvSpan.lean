/-
  Span, walked: where a group's span begins and ends.
-/
import Derived.Test.YtcajhkcopfabpaaDoorMEvCaps
set_option linter.unusedSimpArgs false
set_option linter.unusedVariables false
namespace Go.Proofs.YtcajhkcopfabpaaDoor.Ev
open Go.RowKit Go.Proofs.YtcajhkcopfabpaaDoor.Mem
def spanZ (l : List Int) (g : Int) : Int × Int × Bool :=
  if 0 ≤ g ∧ g < (l.length : Int) / 2 then (if l.getD (2 * g.toNat) 0 < 0 ∨ l.getD (2 * g.toNat + 1) 0 < 0 then (0, 0, false) else (l.getD (2 * g.toNat) 0, l.getD (2 * g.toNat + 1) 0, true)) else (0, 0, false)
def Spans (x : Int × Int × Bool) (w : World) (e : Ending) (w' : World) : Prop := e = .returned (.tuple #[.int .i64 x.1, .int .i64 x.2.1, .bool x.2.2]) ∧ Below w.heap.size w w'
theorem spans_of {x y : Int × Int × Bool} {w w' : World} {e : Ending} (h : x = y) (h1 : Spans y w e w') : Spans x w e w' := by rw [h]; exact h1
set_option maxRecDepth 100000 in
set_option maxHeartbeats 4000000 in
theorem span_neg (s : St) (A : Option Addr) (c : Nat) (g : Int) (w : World) (h : g < 0) :
    Calls Tryd.prog 10 #[.agg #[.int .i64 s.kind, .int .i64 s.node, .int .i64 s.phase, .int .i64 s.pos, .int .i64 s.start, .int .i64 s.depth, .int .i64 s.origin, .slice A s.caps.length c], .int .i64 g] w (Spans (spanZ s.caps g) w) := by
  have HE := hide (show spanZ s.caps g = (0, 0, false) by unfold spanZ; rw [if_neg (by omega)])
  go_enter Tryd.func10, Tryd.ntmps10
  go_wp2
  go_ret3
  exact spans_of (unhide HE) ⟨rfl, below_box _ _⟩
set_option maxRecDepth 100000 in
set_option maxHeartbeats 4000000 in
theorem span_big (s : St) (A : Option Addr) (c : Nat) (g : Int) (w : World) (hC : CV s.caps A c w) (h0 : 0 ≤ g) (h : (s.caps.length : Int) / 2 ≤ g) :
    Calls Tryd.prog 10 #[.agg #[.int .i64 s.kind, .int .i64 s.node, .int .i64 s.phase, .int .i64 s.pos, .int .i64 s.start, .int .i64 s.depth, .int .i64 s.origin, .slice A s.caps.length c], .int .i64 g] w (Spans (spanZ s.caps g) w) := by
  have HE := hide (show spanZ s.caps g = (0, 0, false) by unfold spanZ; rw [if_neg (by omega)])
  have d0 : decide (g < 0) = false := by simp; omega
  have hroom := hC.room
  have htop := hC.top
  have hd : (s.caps.length : Int).tdiv 2 = (s.caps.length : Int) / 2 := Int.tdiv_eq_ediv_of_nonneg (by omega)
  have hw : IntKind.i64.wrap ((s.caps.length : Int) / 2) = (s.caps.length : Int) / 2 := by rw [IntKind.wrap_i64]; omega
  clear hC
  generalize s.caps.length = n at *
  go_enter Tryd.func10, Tryd.ntmps10
  go_wp2
  go_ret3
  exact spans_of (unhide HE) ⟨rfl, below_box _ _⟩
set_option maxRecDepth 100000 in
set_option maxHeartbeats 4000000 in
theorem span_in (s : St) (A : Option Addr) (c k : Nat) (w : World) (hC : CV s.caps A c w) (h : (k : Int) < (s.caps.length : Int) / 2) :
    Calls Tryd.prog 10 #[.agg #[.int .i64 s.kind, .int .i64 s.node, .int .i64 s.phase, .int .i64 s.pos, .int .i64 s.start, .int .i64 s.depth, .int .i64 s.origin, .slice A s.caps.length c], .int .i64 (k : Int)] w (Spans (spanZ s.caps (k : Int)) w) := by
  have d0 : decide ((k : Int) < 0) = false := by simp
  have hroom := hC.room
  have htop := hC.top
  have hd : (s.caps.length : Int).tdiv 2 = (s.caps.length : Int) / 2 := Int.tdiv_eq_ediv_of_nonneg (by omega)
  have hw : IntKind.i64.wrap ((s.caps.length : Int) / 2) = (s.caps.length : Int) / 2 := by rw [IntKind.wrap_i64]; omega
  have hge : decide ((s.caps.length : Int) / 2 ≤ (k : Int)) = false := by simp; omega
  obtain ⟨f, hf⟩ : ∃ f, s.caps[2 * k]? = some f := ⟨_, List.getElem?_eq_getElem (by omega)⟩
  obtain ⟨t, ht⟩ : ∃ t, s.caps[2 * k + 1]? = some t := ⟨_, List.getElem?_eq_getElem (by omega)⟩
  have HE := hide (show spanZ s.caps (k : Int) = if f < 0 ∨ t < 0 then (0, 0, false) else (f, t, true) by
    unfold spanZ
    rw [if_pos (by omega), Int.toNat_natCast, List.getD, List.getD, hf, ht]
    rfl)
  have hb0 := below_box w (.cells #[.int .i64 s.kind, .int .i64 s.node, .int .i64 s.phase, .int .i64 s.pos, .int .i64 s.start, .int .i64 s.depth, .int .i64 s.origin, .slice A s.caps.length c] 24)
  obtain ⟨b, off, rfl, hb, hc⟩ := (hC.below hb0).reads.flat (by omega)
  obtain ⟨j, hj⟩ : ∃ j, j = 2 * k := ⟨_, rfl⟩
  obtain ⟨i, hi⟩ : ∃ i, i = 2 * k + 1 := ⟨_, rfl⟩
  have c1 := hc (2 * k) (.int .i64 f) (by rw [List.getElem?_map, hf]; rfl)
  have c2 := hc (2 * k + 1) (.int .i64 t) (by rw [List.getElem?_map, ht]; rfl)
  have w1 : IntKind.i64.wrap (2 * (k : Int)) = (j : Int) := by rw [IntKind.wrap_i64]; omega
  have w2 : IntKind.i64.wrap ((j : Int) + 1) = (i : Int) := by rw [IntKind.wrap_i64]; omega
  rw [← hj] at c1
  rw [← hi] at c2
  have b1 : (j : Int) < (s.caps.length : Int) := by omega
  have b2 : (i : Int) < (s.caps.length : Int) := by omega
  have HB0 := hide hb0
  clear hf ht hj hi hC hc hb hb0
  generalize s.caps.length = n at *
  have H := hide h
  clear h
  by_cases p1 : f < 0
  · have HE := hide ((unhide HE).trans (if_pos (.inl p1)))
    go_enter Tryd.func10, Tryd.ntmps10
    go_wp2_with fail
    go_quiet (fail)
    go_wp2
    go_ret3
    exact spans_of (unhide HE) ⟨rfl, below_drewN (unhide HB0) _⟩
  · have q1 : decide (f < 0) = false := by simp; omega
    by_cases p2 : t < 0
    · have HE := hide ((unhide HE).trans (if_pos (.inr p2)))
      go_enter Tryd.func10, Tryd.ntmps10
      go_wp2_with fail
      go_quiet (fail)
      go_wp2
      go_ret3
      exact spans_of (unhide HE) ⟨rfl, below_drewN (unhide HB0) _⟩
    · have q2 : decide (t < 0) = false := by simp; omega
      have HE := hide ((unhide HE).trans (if_neg (by omega)))
      go_enter Tryd.func10, Tryd.ntmps10
      go_wp2_with fail
      go_quiet (fail)
      go_wp2
      go_ret3
      exact spans_of (unhide HE) ⟨rfl, below_drewN (unhide HB0) _⟩
theorem span_any (s : St) (A : Option Addr) (c : Nat) (g : Int) (w : World) (hC : CV s.caps A c w) :
    Calls Tryd.prog 10 #[.agg #[.int .i64 s.kind, .int .i64 s.node, .int .i64 s.phase, .int .i64 s.pos, .int .i64 s.start, .int .i64 s.depth, .int .i64 s.origin, .slice A s.caps.length c], .int .i64 g] w (Spans (spanZ s.caps g) w) := by
  by_cases h0 : g < 0
  · exact span_neg s A c g w h0
  · by_cases h1 : (s.caps.length : Int) / 2 ≤ g
    · exact span_big s A c g w hC (by omega) h1
    · obtain ⟨k, rfl⟩ : ∃ k : Nat, g = (k : Int) := ⟨g.toNat, by omega⟩
      exact span_in s A c k w hC (by omega)
end Go.Proofs.YtcajhkcopfabpaaDoor.Ev
