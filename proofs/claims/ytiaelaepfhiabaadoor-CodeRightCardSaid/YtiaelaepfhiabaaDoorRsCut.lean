/-
  rset.overlap, rset.empty, rset.within, walked.
-/
import Derived.Test.YtiaelaepfhiabaaDoorRsMem
import Derived.Laws.Tables
import Derived.IntWalk
set_option linter.unusedVariables false
set_option linter.unusedSimpArgs false
namespace Go.Proofs.YtiaelaepfhiabaaDoor.Rs
open Go.RowKit Go.Proofs.YtiaelaepfhiabaaDoor.Mem

theorem build_range (a b : Int) (w : World) : Sem.run Tryd.prog (Instr.build 52 #[(0, .int .i64 a), (1, .int .i64 b)]) w = .ok (.agg #[.int .i64 a, .int .i64 b]) w := run_build w 52 _ _ (by kernel_rfl)
attribute [local go_sem] build_range run_not_true run_not_false

set_option maxHeartbeats 1000000 in
theorem overlap_any (a b : R) (w : World) : Calls Tryd.prog 57 #[.agg #[.int .i64 a.1, .int .i64 a.2], .agg #[.int .i64 b.1, .int .i64 b.2]] w fun e w' => e = .returned (.agg #[.int .i64 (ovR a b).1, .int .i64 (ovR a b).2]) ∧ Below w.heap.size w w' := by
  unfold ovR
  have c0 := ((Blk.new w 52 #[.int .i64 a.1, .int .i64 a.2]).alloc (.cells #[.int .i64 b.1, .int .i64 b.2] 52)).alloc (.cells #[.int .i64 0, .int .i64 0] 52)
  have c1 := c0.cell 0
  have c2 := c0.cell 1
  have C0 := hide c0
  clear c0
  go_enter Tryd.func57, Tryd.ntmps57
  go_wp2
  all_goals
    (try simp only [Exit.inBlock, Exit.then])
    refine bodyPost_ret (results_cell_row rfl _ _ (w.heap.size + 1 + 1) 52 _ (0, 0) _ rfl (by simpa using heap_alloc_new ((w.alloc _).alloc _) _) Tryd.underlying52 rfl (by kernel_rfl)) rfl ?_
    refine ⟨?_, below_al (below_al (below_al (Below.refl _ _) (Nat.le_refl _) _) (by simp) _) (by simp; omega) _⟩
    simp only [Ending.returned.injEq, Value.agg.injEq, Array.mk.injEq, List.cons.injEq, Value.int.injEq, true_and, and_true]
    omega

set_option maxHeartbeats 1000000 in
theorem empty_any (a : R) (w : World) : Calls Tryd.prog 58 #[.agg #[.int .i64 a.1, .int .i64 a.2]] w fun e w' => e = .returned (.bool (decide (a.2 < a.1))) ∧ Below w.heap.size w w' := by
  go_enter Tryd.func58, Tryd.ntmps58
  go_wp2
  go_ret
  exact ⟨rfl, below_al (Below.refl _ _) (Nat.le_refl _) _⟩

theorem within_take {l : List R} {k : Nat} {r q : R} (hlt : k < l.length) (hr : l[k]? = some r) (hq : cutR r = q) : withinL (l.take (k + 1)) = withinL (l.take k) ++ (if q.1 ≤ q.2 then [q] else []) := by
  have e : l[k] = r := by simpa [List.getElem?_eq_getElem hlt] using hr
  rw [List.take_succ_eq_append_getElem hlt, e, withinL_concat, hq]
theorem within_len (l : List R) : (withinL l).length ≤ l.length := by
  unfold withinL
  exact Nat.le_trans (List.length_filter_le _ _) (by simp)

/-- what within has made so far -/
def Cut (w : World) (l : List R) (v : Value) (w' : World) : Prop := w'.ownsRow w.heap.size 52 2 v l.length (flat l) ∧ Below w.heap.size w w'

def WRel (l : List R) (w : World) (v i : Value) (wr : World) : Prop := ∃ k : Nat, i = .int .i64 k ∧ k ≤ l.length ∧ Cut w (withinL (l.take k)) v wr

set_option maxRecDepth 100000 in
set_option maxHeartbeats 2000000 in
theorem within_flat (l : List R) (b off cap : Nat) (w : World) (hlen : l.length ≤ 8796093021952) (hcap : l.length ≤ cap) (hb : b < w.heap.size)
    (hc : ∀ k r, l[k]? = some r → w.cell? ⟨b, off + k * 2, none⟩ = some (.int .i64 r.1) ∧ w.cell? ⟨b, off + k * 2 + 1, none⟩ = some (.int .i64 r.2)) :
    Calls Tryd.prog 48 #[.slice (some ⟨b, off, none⟩) l.length cap] w fun e w' => ∃ v, e = .returned v ∧ Cut w (withinL l) v w' := by
  have HC := hide hc
  have HLB := hide hb
  clear hc hb
  go_enter Tryd.func48, Tryd.ntmps48
  go_wp2
  go_loopw [3, 8] (fun v i wr => WRel l w v i wr) (fun _ i _ => l.length - (intOf i).toNat)
  case atStart => exact ⟨0, rfl, Nat.zero_le _, World.ownsRow_nil _ _ _ _, Below.refl _ _⟩
  case round =>
    obtain ⟨k, rfl, hk, hrow⟩ := hrel
    by_cases hlt : k < l.length
    · obtain ⟨r, hr⟩ : ∃ r, l[k]? = some r := ⟨_, List.getElem?_eq_getElem hlt⟩
      have HR := hide hr
      have c1 : wr.cell? ⟨b, off + k * 2, none⟩ = some (.int .i64 r.1) := (hrow.2.cell (p := ⟨b, off + k * 2, none⟩) (unhide HLB)).trans ((unhide HC) k r hr).1
      have c2 : wr.cell? ⟨b, off + k * 2 + 1, none⟩ = some (.int .i64 r.2) := (hrow.2.cell (p := ⟨b, off + k * 2 + 1, none⟩) (unhide HLB)).trans ((unhide HC) k r hr).2
      have hlt' : (k : Int) < (l.length : Int) := by omega
      have HROW := hide hrow
      clear hrow hr
      go_wp2_with fail
      refine (overlap_any r (0, 1114367) _).mono ?_
      rintro e w1 ⟨rfl, hb1⟩
      rw [show ovR r (0, 1114367) = cutR r from rfl]
      obtain ⟨q, hq⟩ : ∃ q, cutR r = q := ⟨_, rfl⟩
      rw [hq]
      have hb := (Blk.new wr 52 #[.int .i64 r.1, .int .i64 r.2]).below hb1 (by simp)
      have d0 := hb.cell 0
      have d1 := hb.cell 1
      have f0 := hb.frozen 0
      have f1 := hb.frozen 1
      have hbw : Below wr.heap.size wr ((w1.setCell ⟨wr.heap.size, 0, none⟩ (.int .i64 q.1)).setCell ⟨wr.heap.size, 1, none⟩ (.int .i64 q.2)) :=
        (((below_al (Below.refl _ _) (Nat.le_refl _) _).trans (hb1.mono (by simp))).setCell (Nat.le_refl _) _).setCell (Nat.le_refl _) _
      have hbk : Blk ((w1.setCell ⟨wr.heap.size, 0, none⟩ (.int .i64 q.1)).setCell ⟨wr.heap.size, 1, none⟩ (.int .i64 q.2)) wr.heap.size 52 #[.int .i64 q.1, .int .i64 q.2] := (hb.set_ 0 _).set_ 1 _
      have HBW := hide hbw
      have HBK := hide hbk
      have HQ := hide hq
      clear hb1 hb c1 c2 hbw hbk hq
      go_wp2_with fail
      clear d0 d1 f0 f1
      generalize (w1.setCell ⟨wr.heap.size, 0, none⟩ (.int .i64 q.1)).setCell ⟨wr.heap.size, 1, none⟩ (.int .i64 q.2) = w2 at HBW HBK ⊢
      refine (empty_any q w2).mono ?_
      rintro e w3 ⟨rfl, hb3⟩
      have hb4 : Below wr.heap.size wr w3 := (unhide HBW).trans (hb3.mono (unhide HBW).size)
      have hbk := (unhide HBK).below hb3 (unhide HBK).lt
      have d0 := hbk.cell 0
      have d1 := hbk.cell 1
      have hcut : Cut w (withinL (l.take k)) u3 w3 := ⟨own_below (unhide HROW).1 hb4, (unhide HROW).2.trans (hb4.mono (unhide HROW).2.size)⟩
      have HW := hide (within_take hlt (unhide HR) (unhide HQ))
      have HCUT := hide hcut
      clear hb3 hb4 hbk hcut HBW HBK HROW
      by_cases hqe : q.2 < q.1
      · rw [decide_eq_true hqe]
        have HQE := hide hqe
        go_wp2
        go_roundw
        case rel => exact ⟨k + 1, by go_num, by omega, by rw [unhide HW, if_neg (by omega), List.append_nil]; exact unhide HCUT⟩
        case measure => simp [intOf]; omega
      · rw [decide_eq_false hqe]
        have HQE := hide hqe
        have hlen3 : (withinL (l.take k)).length + 1 ≤ 8796093021953 := by have := within_len (l.take k); have h2 : (l.take k).length ≤ k := List.length_take_le _ _; omega
        have hmx : (withinL (l.take k)).length + 1 ≤ maxLen := by unfold maxLen; omega
        have hone : ∀ u ∈ (#[.int .i64 q.1, .int .i64 q.2] : Array Value).toList, u.oneCell' = true := by simp [Value.oneCell']
        have hw3 := (unhide HCUT).2.size
        obtain ⟨i0, hi, hz0, hz1, hz2⟩ := info_parts info_range
        go_wp2_with (at_builtin; refine wpList_append_any _ rfl (.tmp 18) (.tmp 20) 50 rfl w.heap.size 52 i0 (.agg #[.int .i64 0, .int .i64 0]) 2 16 Tryd.underlying50 hi hz0 hz1 hz2 rfl (by decide) _ (withinL (l.take k)).length _ rfl ((unhide HCUT).1.alloc _) _ _ 1 1 _ rfl (reads_new w3 #[.int .i64 q.1, .int .i64 q.2] 52 1 2 rfl) hone hmx (by omega) (by rw [World.size_alloc]; omega) ?_; intro v5 w5 ho5 hg5 hn5; have HO5 := hide ho5; have HG5 := hide hg5; clear ho5 hg5 hn5)
        refine ⟨⟨_, _, _, ?rel, rfl, rfl, rfl⟩, ?measure⟩
        case rel => 
          refine ⟨k + 1, by go_num, by omega, ?_⟩
          rw [unhide HW, if_pos (by omega)]
          exact ⟨by rw [flat_append, List.length_append]; exact unhide HO5, below_app (unhide HCUT).2 (unhide HCUT).1 (unhide HG5)⟩
        case measure => simp [intOf]; omega
    · obtain rfl : k = l.length := by omega
      rw [List.take_length] at hrow
      have HROW := hide hrow
      clear hrow
      go_wp2
      go_ret
      exact ⟨_, rfl, unhide HROW⟩

set_option maxHeartbeats 1000000 in
theorem within_none (A : Option Addr) (cap : Nat) (w : World) : Calls Tryd.prog 48 #[.slice A 0 cap] w fun e w' => ∃ v, e = .returned v ∧ Cut w [] v w' := by
  go_enter Tryd.func48, Tryd.ntmps48
  go_wp2
  go_loop [3, 8] (fun v i => v = .slice none 0 0 ∧ i = .int .i64 0) (fun _ _ => 0)
  case atStart => exact ⟨rfl, rfl⟩
  case round =>
    obtain ⟨rfl, rfl⟩ := hrel
    go_wp2
    go_ret
    exact ⟨_, rfl, World.ownsRow_nil _ _ _ _, Below.refl _ _⟩

theorem within_any (l : List R) (A : Option Addr) (cap : Nat) (w : World) (hlen : l.length ≤ 8796093021952) (hcap : l.length ≤ cap) (h : Lst w w.heap.size A l) :
    Calls Tryd.prog 48 #[.slice A l.length cap] w fun e w' => ∃ v, e = .returned v ∧ Cut w (withinL l) v w' := by
  by_cases hn : l.length = 0
  · rw [List.eq_nil_of_length_eq_zero hn]; exact within_none A cap w
  · obtain ⟨b, off, rfl, hb, hc⟩ := h (by omega)
    exact within_flat l b off cap w hlen hcap hb hc
end Go.Proofs.YtiaelaepfhiabaaDoor.Rs
