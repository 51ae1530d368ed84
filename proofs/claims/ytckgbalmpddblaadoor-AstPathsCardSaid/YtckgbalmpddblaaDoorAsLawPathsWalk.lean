/-
  The law AstPaths, walked: true at any tree, any two numbers. Conditions: the tree lies in memory, and is not too great to be read; the numbers are ints; the table of forms holds what the program's text lays.
-/
import Derived.Test.YtckgbalmpddblaaDoorAsLawPartsWalk
import Derived.Test.YtckgbalmpddblaaDoorAsPath
set_option linter.unusedVariables false
set_option linter.unusedSimpArgs false
namespace Go.Proofs.YtckgbalmpddblaaDoor.As
open Go.RowKit Go.Proofs.YtckgbalmpddblaaDoor.Mem Go.Proofs.YtckgbalmpddblaaDoor.Rs

set_option maxRecDepth 100000 in
set_option maxHeartbeats 2000000 in
theorem paths_many (t : Tr) (A An : Option Addr) (cap cn : Nat) (i stop : Int) (w : World) (hG : Given t w A An cap cn) (hi : in64 i) (hj : in64 stop) (hn : 200 < (t.nodes.length : Int)) :
    Calls Tryd.prog 4 #[.agg #[.slice A t.nodes.length cap, .int .i64 t.groups, .slice An t.names.length cn], .int .i64 i, .int .i64 stop] w fun e w' => e = .returned (.bool true) ∧ Below w.heap.size w w' := by
  refine (callsIn_wide (n := 3)).1 ?_
  obtain ⟨hT, hc1, hc2, hset, hin, hfm⟩ := hG
  have HT0 := hide hT
  have HSET := hide hset
  have HIN := hide hin
  have HI := hide hi
  have HJ := hide hj
  have HFM := hide hfm
  clear hT hset hin hi hj hfm
  refine callsIn_of_wp_marks Tryd.func4 rfl trivial ?_ rfl
  simp only [Tryd.ntmps4, List.size_toArray, List.length_cons, List.length_nil, Nat.reduceAdd, Nat.reduceSub, Array.replicate_succ, Array.replicate_zero, List.push_toArray, List.append_toArray, List.nil_append, List.cons_append]
  have d200 : decide (200 < (t.nodes.length : Int)) = true := decide_eq_true (by omega)
  gi_wp2_with fail
  refine ⟨trivial, ?_⟩
  obtain ⟨wA, hwA⟩ : ∃ wA, (((w.alloc (.cells #[.slice A t.nodes.length cap, .int .i64 t.groups, .slice An t.names.length cn] 25)).alloc (.cells #[.int .i64 i] 3)).alloc (.cells #[.int .i64 stop] 3)).alloc (.cells #[.bool false] 4) = wA := ⟨_, rfl⟩
  have hzA : wA.heap.size = w.heap.size + 4 := by rw [← hwA]; simp
  have bA : Below w.heap.size w wA := by rw [← hwA]; exact ((((Below.refl _ w).alloc (Nat.le_refl _) _).alloc (by simp) _).alloc (by simp; omega) _).alloc (by simp; omega) _
  have b3 : Blk wA w.heap.size 25 #[.slice A t.nodes.length cap, .int .i64 t.groups, .slice An t.names.length cn] := by rw [← hwA]; exact (((Blk.new w _ _).alloc _).alloc _).alloc _
  have b4 : Boxed wA (w.heap.size + 1) 3 (.int .i64 i) := by
    have := Boxed.new (w.alloc (.cells #[.slice A t.nodes.length cap, .int .i64 t.groups, .slice An t.names.length cn] 25)) 3 (.int .i64 i)
    rw [World.size_alloc] at this
    rw [← hwA]; exact (this.alloc _).alloc _
  have b5 : Boxed wA (w.heap.size + 1 + 1) 3 (.int .i64 stop) := by
    have := Boxed.new ((w.alloc (.cells #[.slice A t.nodes.length cap, .int .i64 t.groups, .slice An t.names.length cn] 25)).alloc (.cells #[.int .i64 i] 3)) 3 (.int .i64 stop)
    rw [World.size_alloc, World.size_alloc] at this
    rw [← hwA]; exact this.alloc _
  have b6 : Boxed wA (w.heap.size + 1 + 1 + 1) 4 (.bool false) := by
    have := Boxed.new (((w.alloc (.cells #[.slice A t.nodes.length cap, .int .i64 t.groups, .slice An t.names.length cn] 25)).alloc (.cells #[.int .i64 i] 3)).alloc (.cells #[.int .i64 stop] 3)) 4 (.bool false)
    rw [World.size_alloc, World.size_alloc, World.size_alloc] at this
    rw [← hwA]; exact this
  rw [hwA]
  have HTA := hide ((unhide HT0).below bA)
  have HFA := hide ((unhide HFM).below bA (Nat.le_refl _))
  have HZ := hide hzA
  have HB := hide bA
  have H3 := hide b3
  have H4 := hide b4
  have H5 := hide b5
  have H6 := hide b6
  clear hwA hzA bA b3 b4 b5 b6 HT0 HFM HSET HIN
  refine (callsIn_wide.2 (anchor_any wA (unhide HFA))).mono ?_
  rintro e w1 ⟨rfl, hb⟩
  have hz1 : w.heap.size + 4 ≤ w1.heap.size := by have := hb.size; have := unhide HZ; omega
  have HB1 := hide ((unhide HB).trans (hb.mono (unhide HB).size))
  have HT1 := hide ((unhide HTA).keep (w' := w1) fun p hp => hb.cell (by have := unhide HZ; omega))
  have k3 := (unhide H3).below hb (by have := unhide HZ; omega)
  have c0 := k3.cell 0
  have c1 := k3.cell 1
  have c2 := k3.cell 2
  have HK3 := hide k3
  have HK4 := hide ((unhide H4).kept (below_iff.1 hb) (by simp))
  have HK5 := hide ((unhide H5).kept (below_iff.1 hb) (by simp))
  have HK6 := hide ((unhide H6).kept (below_iff.1 hb) (by simp))
  have HF1 := hide ((unhide HFA).below hb (Nat.le_refl _))
  clear hb k3 HB HTA H3 H4 H5 H6 HFA HZ
  have hc6 := World.cell?_setCell_same' w1 ⟨w.heap.size + 1 + 1 + 1, 0, none⟩ (.bool true) (by rw [(unhide HK6).cell]; rfl)
  have c6 := (unhide HK6).cell
  have f6 := (unhide HK6).frozen
  have HC6 := hide hc6
  clear hc6
  gi_wp2_with fail
  refine ⟨trivial, ?_⟩
  gi_wp2
  have hc6 := unhide HC6
  refine ⟨.bool true, ?_, rfl, (unhide HB1).setCell (p := ⟨w.heap.size + 1 + 1 + 1, 0, none⟩) (by show w.heap.size ≤ w.heap.size + 1 + 1 + 1; omega) _⟩
  simp [results, Tryd.f4, go_sem, hc6]

set_option maxRecDepth 100000 in
set_option maxHeartbeats 2000000 in
theorem paths_wrong (t : Tr) (A An : Option Addr) (cap cn : Nat) (i stop : Int) (w : World) (hG : Given t w A An cap cn) (hi : in64 i) (hj : in64 stop) (hn : (t.nodes.length : Int) ≤ 200) (hr : rightT t = false) :
    Calls Tryd.prog 4 #[.agg #[.slice A t.nodes.length cap, .int .i64 t.groups, .slice An t.names.length cn], .int .i64 i, .int .i64 stop] w fun e w' => e = .returned (.bool true) ∧ Below w.heap.size w w' := by
  refine (callsIn_wide (n := 3)).1 ?_
  obtain ⟨hT, hc1, hc2, hset, hin, hfm⟩ := hG
  have HT0 := hide hT
  have HSET := hide hset
  have HIN := hide hin
  have HI := hide hi
  have HJ := hide hj
  have HFM := hide hfm
  clear hT hset hin hi hj hfm
  refine callsIn_of_wp_marks Tryd.func4 rfl trivial ?_ rfl
  simp only [Tryd.ntmps4, List.size_toArray, List.length_cons, List.length_nil, Nat.reduceAdd, Nat.reduceSub, Array.replicate_succ, Array.replicate_zero, List.push_toArray, List.append_toArray, List.nil_append, List.cons_append]
  have d200 : decide (200 < (t.nodes.length : Int)) = false := decide_eq_false (by omega)
  gi_wp2_with fail
  refine ⟨trivial, ?_⟩
  obtain ⟨wA, hwA⟩ : ∃ wA, (((w.alloc (.cells #[.slice A t.nodes.length cap, .int .i64 t.groups, .slice An t.names.length cn] 25)).alloc (.cells #[.int .i64 i] 3)).alloc (.cells #[.int .i64 stop] 3)).alloc (.cells #[.bool false] 4) = wA := ⟨_, rfl⟩
  have hzA : wA.heap.size = w.heap.size + 4 := by rw [← hwA]; simp
  have bA : Below w.heap.size w wA := by rw [← hwA]; exact ((((Below.refl _ w).alloc (Nat.le_refl _) _).alloc (by simp) _).alloc (by simp; omega) _).alloc (by simp; omega) _
  have b3 : Blk wA w.heap.size 25 #[.slice A t.nodes.length cap, .int .i64 t.groups, .slice An t.names.length cn] := by rw [← hwA]; exact (((Blk.new w _ _).alloc _).alloc _).alloc _
  have b4 : Boxed wA (w.heap.size + 1) 3 (.int .i64 i) := by
    have := Boxed.new (w.alloc (.cells #[.slice A t.nodes.length cap, .int .i64 t.groups, .slice An t.names.length cn] 25)) 3 (.int .i64 i)
    rw [World.size_alloc] at this
    rw [← hwA]; exact (this.alloc _).alloc _
  have b5 : Boxed wA (w.heap.size + 1 + 1) 3 (.int .i64 stop) := by
    have := Boxed.new ((w.alloc (.cells #[.slice A t.nodes.length cap, .int .i64 t.groups, .slice An t.names.length cn] 25)).alloc (.cells #[.int .i64 i] 3)) 3 (.int .i64 stop)
    rw [World.size_alloc, World.size_alloc] at this
    rw [← hwA]; exact this.alloc _
  have b6 : Boxed wA (w.heap.size + 1 + 1 + 1) 4 (.bool false) := by
    have := Boxed.new (((w.alloc (.cells #[.slice A t.nodes.length cap, .int .i64 t.groups, .slice An t.names.length cn] 25)).alloc (.cells #[.int .i64 i] 3)).alloc (.cells #[.int .i64 stop] 3)) 4 (.bool false)
    rw [World.size_alloc, World.size_alloc, World.size_alloc] at this
    rw [← hwA]; exact this
  rw [hwA]
  have HTA := hide ((unhide HT0).below bA)
  have HFA := hide ((unhide HFM).below bA (Nat.le_refl _))
  have HF := hide (⟨by omega, unhide HSET, unhide HIN⟩ : Fit t)
  have HZ := hide hzA
  have HB := hide bA
  have H3 := hide b3
  have H4 := hide b4
  have H5 := hide b5
  have H6 := hide b6
  clear hwA hzA bA b3 b4 b5 b6 HT0 HFM HSET HIN
  refine (callsIn_wide.2 (anchor_any wA (unhide HFA))).mono ?_
  rintro e w1 ⟨rfl, hb⟩
  have hz1 : w.heap.size + 4 ≤ w1.heap.size := by have := hb.size; have := unhide HZ; omega
  have HB1 := hide ((unhide HB).trans (hb.mono (unhide HB).size))
  have HT1 := hide ((unhide HTA).keep (w' := w1) fun p hp => hb.cell (by have := unhide HZ; omega))
  have k3 := (unhide H3).below hb (by have := unhide HZ; omega)
  have c0 := k3.cell 0
  have c1 := k3.cell 1
  have c2 := k3.cell 2
  have HK3 := hide k3
  have HK4 := hide ((unhide H4).kept (below_iff.1 hb) (by simp))
  have HK5 := hide ((unhide H5).kept (below_iff.1 hb) (by simp))
  have HK6 := hide ((unhide H6).kept (below_iff.1 hb) (by simp))
  have HF1 := hide ((unhide HFA).below hb (Nat.le_refl _))
  clear hb k3 HB HTA H3 H4 H5 H6 HFA HZ
  gi_wp2_with fail
  refine ⟨trivial, ?_⟩
  refine (callsIn_wide.2 (right_any t _ w.heap.size w1 (by omega) (unhide HF) (unhide HT1) (unhide HF1))).mono ?_
  rintro e w2 ⟨rfl, hb⟩
  rw [hr]
  have hz2 : w.heap.size + 4 ≤ w2.heap.size := by have := hb.size; omega
  have HB2 := hide ((unhide HB1).trans (hb.mono (unhide HB1).size))
  have HT2 := hide ((unhide HT1).keep (w' := w2) fun p hp => hb.cell (by omega))
  have k3 := (unhide HK3).below hb (by omega)
  clear c0 c1 c2
  have HK3 := hide k3
  have HK4 := hide ((unhide HK4).kept (below_iff.1 hb) (by simp))
  have HK5 := hide ((unhide HK5).kept (below_iff.1 hb) (by simp))
  have HK6 := hide ((unhide HK6).kept (below_iff.1 hb) (by simp))
  clear hb k3 HB1 HT1 HF1 hz1
  have hc6 := World.cell?_setCell_same' w2 ⟨w.heap.size + 1 + 1 + 1, 0, none⟩ (.bool true) (by rw [(unhide HK6).cell]; rfl)
  have c6 := (unhide HK6).cell
  have f6 := (unhide HK6).frozen
  have HC6 := hide hc6
  clear hc6
  gi_wp2
  have hc6 := unhide HC6
  refine ⟨.bool true, ?_, rfl, (unhide HB2).setCell (p := ⟨w.heap.size + 1 + 1 + 1, 0, none⟩) (by show w.heap.size ≤ w.heap.size + 1 + 1 + 1; omega) _⟩
  simp [results, Tryd.f4, go_sem, hc6]

end Go.Proofs.YtckgbalmpddblaaDoor.As
