/-
  Right, walked; what a right tree is. Conditions: the table of forms lies; the tree lies in memory.
-/
import Derived.Test.YtckgbalmpddblaaDoorAsNode
import Derived.Test.YtckgbalmpddblaaDoorAsNamed
import Derived.Test.YtckgbalmpddblaaDoorAsOrdered
import Derived.Test.YtckgbalmpddblaaDoorAsSame
set_option linter.unusedVariables false
set_option linter.unusedSimpArgs false
namespace Go.Proofs.YtckgbalmpddblaaDoor.As
open Go.RowKit Go.Proofs.YtckgbalmpddblaaDoor.Mem Go.Proofs.YtckgbalmpddblaaDoor.Rs

attribute [local go_sem] run_not_true run_not_false
def rightT (t : Tr) : Bool := decide (0 < t.nodes.length) && (t.nodes.all nodeB && (ordB t.nodes && namedB t))
theorem right_laid {t : Tr} (h : rightT t = true) : Laid t.nodes := by
  unfold rightT at h
  simp only [Bool.and_eq_true, decide_eq_true_eq] at h
  have h2 := h.2.2.1
  unfold ordB at h2
  simp only [Bool.and_eq_true, decide_eq_true_eq] at h2
  exact ⟨h.1, h2.2⟩
theorem right_least {t : Tr} (h : rightT t = true) : ∀ nd ∈ t.nodes, Least nd.set := fun nd hnd => by
  unfold rightT at h
  simp only [Bool.and_eq_true, decide_eq_true_eq] at h
  have h2 := List.all_eq_true.1 h.2.1 nd hnd
  unfold nodeB formedB at h2
  simp only [Bool.and_eq_true, decide_eq_true_eq] at h2
  exact h2.2.1.1.2.2
theorem right_small : rightT smallT = true := by decide +kernel
/-- a slice in a cell -/
def slAt (w : World) (p : Addr) : Sl := match w.cell? p with
  | some (.slice a n c) => ⟨a, n, c⟩
  | _ => ⟨none, 0, 0⟩
theorem slAt_eq {w : World} {p : Addr} {a : Option Addr} {n c : Nat} (h : w.cell? p = some (.slice a n c)) : slAt w p = ⟨a, n, c⟩ := by unfold slAt; rw [h]
/-- **ordered** -/
theorem ordered_any (t : Tr) (v : Value) (B : Nat) (w : World) (hB : B ≤ w.heap.size) (hpos : 0 < t.nodes.length) (hlen : t.nodes.length ≤ 100000) (hT : TreeV w B t v) :
    Calls Tryd.prog 21 #[v] w fun e w' => e = .returned (.bool (ordB t.nodes)) ∧ Below w.heap.size w w' := by
  obtain ⟨av, cv, rfl, ⟨A, cap, rfl, hc1, hc2, hn⟩, hns⟩ := hT
  obtain ⟨b, off, rfl, hbb, hcs⟩ := hn hpos
  refine ordered_in t.nodes hpos hlen b off cap hc1 hc2 t.groups cv (fun k => slAt w ⟨b, off + k * 10 + 8, none⟩) (fun k => slAt w ⟨b, off + k * 10 + 9, none⟩) w (by omega) (fun k nd hk => ?_) (fun k nd hk => ?_)
  · obtain ⟨h0, h1, h2, h3, h4, h5, h6, h7, ⟨v8, h8, S, cs, rfl, hs1, hs2, hsa⟩, v9, h9, K, ck, rfl, hk1, hk2, hka9⟩ := hcs k nd hk
    have h8' : w.cell? ⟨b, off + k * 10 + 8, none⟩ = some (.slice S nd.set.length cs) := h8
    have h9' : w.cell? ⟨b, off + k * 10 + 9, none⟩ = some (.slice K nd.kids.length ck) := h9
    exact ⟨h0, h1, h2, h3, h4, h5, h6, h7, by simp only [slAt_eq h8']; exact h8', by simp only [slAt_eq h9']; exact h9'⟩
  · obtain ⟨h0, h1, h2, h3, h4, h5, h6, h7, ⟨v8, h8, S, cs, rfl, hs1, hs2, hsa⟩, v9, h9, K, ck, rfl, hk1, hk2, hka9⟩ := hcs k nd hk
    have h9' : w.cell? ⟨b, off + k * 10 + 9, none⟩ = some (.slice K nd.kids.length ck) := h9
    simp only [slAt_eq h9']
    exact ⟨K, ck, rfl, hk1, hk2, hka9.more hB⟩
set_option maxRecDepth 100000 in
set_option maxHeartbeats 2000000 in
/-- **Right** -/
theorem right_any (t : Tr) (v : Value) (B : Nat) (w : World) (hB : B ≤ w.heap.size) (hf : Fit t) (hT : TreeV w B t v) (hFm : Fm w) :
    Calls Tryd.prog 7 #[v] w fun e w' => e = .returned (.bool (rightT t)) ∧ Below w.heap.size w w' := by
  have HT := hide hT
  obtain ⟨av, cv, rfl, ⟨A, cap, rfl, hc1, hc2, hn⟩, hns⟩ := hT
  have hb0 : Below w.heap.size w (w.alloc (.cells #[.slice A t.nodes.length cap, .int .i64 t.groups, cv] 25)) := (Below.refl _ _).alloc (Nat.le_refl _) _
  have HB0 := hide hb0
  have bT := Blk.new w 25 #[.slice A t.nodes.length cap, .int .i64 t.groups, cv]
  have HBT := hide bT
  by_cases hpos : 0 < t.nodes.length
  · have e0 : decide (0 < t.nodes.length) = true := by simpa using hpos
    have CC := hide (contains_any t.nodes A cap B (w.alloc (.cells #[.slice A t.nodes.length cap, .int .i64 t.groups, cv] 25)) (Nat.le_trans hB hb0.size) (hFm.below hb0 (Nat.le_refl _)) hf.2.1 (NodesV.keep (w := w) ⟨A, cap, rfl, hc1, hc2, hn⟩ fun p hp => hb0.cell (by omega)))
    have CO := hide (fun (wx : World) (hx : Below w.heap.size w wx) => ordered_any t (.agg #[.slice A t.nodes.length cap, .int .i64 t.groups, cv]) B wx (Nat.le_trans hB hx.size) hpos hf.1 ((unhide HT).keep fun p hp => hx.cell (by omega)))
    have CN := hide (fun (wx : World) (hx : Below w.heap.size w wx) => named_any t (.agg #[.slice A t.nodes.length cap, .int .i64 t.groups, cv]) B wx (Nat.le_trans hB hx.size) hf.1 ((unhide HT).keep fun p hp => hx.cell (by omega)))
    obtain ⟨q1, hq1⟩ : ∃ q, t.nodes.all nodeB = q := ⟨_, rfl⟩
    obtain ⟨q2, hq2⟩ : ∃ q, ordB t.nodes = q := ⟨_, rfl⟩
    obtain ⟨q3, hq3⟩ : ∃ q, namedB t = q := ⟨_, rfl⟩
    have HR := hide (show rightT t = (q1 && (q2 && q3)) from by unfold rightT; rw [e0, hq1, hq2, hq3, Bool.true_and])
    rw [hq1] at CC
    rw [hq2] at CO
    rw [hq3] at CN
    clear hpos hq1 hq2 hq3 hn hns hb0 bT hFm hf
    go_enter Tryd.func7, Tryd.ntmps7
    go_wp2_with fail
    refine (unhide CC).mono ?_
    rintro e w2 ⟨rfl, hb2⟩
    have hb2' := (unhide HB0).trans (hb2.mono (unhide HB0).size)
    have HB2 := hide hb2'
    have bT2 := (unhide HBT).below hb2 (by simp)
    have c0 := bT2.cell 0
    have c1 := bT2.cell 1
    have c2 := bT2.cell 2
    have HBT2 := hide bT2
    clear CC hb2 hb2' bT2
    cases q1 with
    | false =>
      go_wp2_with fail
      go_ret
      exact ⟨by rw [unhide HR]; rfl, unhide HB2⟩
    | true =>
      go_wp2_with fail
      refine ((unhide CO) w2 (unhide HB2)).mono ?_
      rintro e w3 ⟨rfl, hb3⟩
      have HB3 := hide ((unhide HB2).trans (hb3.mono (unhide HB2).size))
      have bT3 := (unhide HBT2).below hb3 (unhide HBT2).lt
      have c0 := bT3.cell 0
      have c1 := bT3.cell 1
      have c2 := bT3.cell 2
      clear CO hb3 bT3
      cases q2 with
      | false =>
        go_wp2_with fail
        go_ret
        exact ⟨by rw [unhide HR]; rfl, unhide HB3⟩
      | true =>
        go_wp2_with fail
        refine ((unhide CN) w3 (unhide HB3)).mono ?_
        rintro e w4 ⟨rfl, hb4⟩
        have HB4 := hide ((unhide HB3).trans (hb4.mono (unhide HB3).size))
        clear CN hb4
        go_wp2_with fail
        go_ret
        exact ⟨by rw [unhide HR]; simp, unhide HB4⟩
  · have e0 : decide (0 < t.nodes.length) = false := by simpa using hpos
    have HR := hide (show rightT t = false from by unfold rightT; rw [e0, Bool.false_and])
    clear hpos hn hns hb0 bT hFm hf
    go_enter Tryd.func7, Tryd.ntmps7
    go_wp2_with fail
    go_ret
    exact ⟨by rw [unhide HR]; rfl, unhide HB0⟩
end Go.Proofs.YtckgbalmpddblaaDoor.As
