/-
  The law AstParts, walked: true at any tree, any two numbers. Conditions: the tree lies in memory, and is not too great to be read; the numbers are ints.
-/
import Derived.Test.YtckgbalmpddblaaDoorAsAnchor
import Derived.Test.YtckgbalmpddblaaDoorAsOfWalk
import Derived.Test.YtckgbalmpddblaaDoorAsRefParent
import Derived.Deep.RegionHeld3
set_option linter.unusedVariables false
set_option linter.unusedSimpArgs false
namespace Go.Proofs.YtckgbalmpddblaaDoor.As
open Go.RowKit Go.Proofs.YtckgbalmpddblaaDoor.Mem Go.Proofs.YtckgbalmpddblaaDoor.Rs

theorem leastF_len : ∀ (l : List R) (p : Int), -2 ≤ p → LeastF p l → 2 * (l.length : Int) ≤ max 0 (1114367 - p)
  | [], p, _, _ => by simp; omega
  | r :: l, p, hp, h => by
    have h1 := LeastF.lo h r (List.mem_cons_self)
    have h2 := leastF_len l r.2 (by omega) h.2.2.2
    rw [List.length_cons]
    omega
theorem least_len {l : List R} (h : Least l) : l.length ≤ 1000000 := by
  have := leastF_len l (-2) (by omega) h
  omega

/-- what is known of a tree that a law is given -/
def Given (t : Tr) (w : World) (A An : Option Addr) (cap cn : Nat) : Prop := TreeV w w.heap.size t (.agg #[.slice A t.nodes.length cap, .int .i64 t.groups, .slice An t.names.length cn]) ∧ t.nodes.length ≤ cap ∧ cap ≤ 9223372036854775807 ∧ (∀ nd ∈ t.nodes, nd.set.length ≤ 8796093021952) ∧ TrIn t ∧ Fm w

set_option maxRecDepth 100000 in
set_option maxHeartbeats 2000000 in
theorem parts_many (t : Tr) (A An : Option Addr) (cap cn : Nat) (i j : Int) (w : World) (hG : Given t w A An cap cn) (hi : in64 i) (hj : in64 j) (hn : 200 < (t.nodes.length : Int)) :
    Calls Tryd.prog 3 #[.agg #[.slice A t.nodes.length cap, .int .i64 t.groups, .slice An t.names.length cn], .int .i64 i, .int .i64 j] w fun e w' => e = .returned (.bool true) ∧ Below w.heap.size w w' := by
  obtain ⟨hT, hc1, hc2, hset, hin, hfm⟩ := hG
  have hb0 : Below w.heap.size w (w.alloc (.cells #[.slice A t.nodes.length cap, .int .i64 t.groups, .slice An t.names.length cn] 25)) := (Below.refl _ _).alloc (Nat.le_refl _) _
  have HT0 := hide (hT.below hb0)
  have HB0 := hide hb0
  have HSET := hide hset
  have HIN := hide hin
  have HK0 := hide (Blk.new w 25 #[.slice A t.nodes.length cap, .int .i64 t.groups, .slice An t.names.length cn])
  have HI := hide hi
  have HJ := hide hj
  have HFM := hide (hfm.below hb0 (Nat.le_refl _))
  clear hT hset hin hb0 hi hj hfm
  go_enter Tryd.func3, Tryd.ntmps3
  go_wp2_with fail
  refine (anchor_any _ (unhide HFM)).mono ?_
  rintro e w1 ⟨rfl, hb⟩
  have HB1 := hide ((unhide HB0).trans (hb.mono (unhide HB0).size))
  have hk := (unhide HK0).below hb (by simp)
  have HT1 := hide ((unhide HT0).keep (w' := w1) fun p hp => hb.cell (by simp; omega))
  have hw1 : w.heap.size ≤ w1.heap.size := (unhide HB1).size
  have k0 := hk.cell 0
  have k1 := hk.cell 1
  have k2 := hk.cell 2
  have HK1 := hide hk
  have HFM1 := hide ((unhide HFM).below hb (Nat.le_refl _))
  clear hb hk HB0 HK0 HT0 HFM
  go_wp2_with fail
  go_ret
  exact ⟨rfl, unhide HB1⟩

set_option maxRecDepth 100000 in
set_option maxHeartbeats 2000000 in
theorem parts_wrong (t : Tr) (A An : Option Addr) (cap cn : Nat) (i j : Int) (w : World) (hG : Given t w A An cap cn) (hi : in64 i) (hj : in64 j) (hn : (t.nodes.length : Int) ≤ 200) (hr : rightT t = false) :
    Calls Tryd.prog 3 #[.agg #[.slice A t.nodes.length cap, .int .i64 t.groups, .slice An t.names.length cn], .int .i64 i, .int .i64 j] w fun e w' => e = .returned (.bool true) ∧ Below w.heap.size w w' := by
  obtain ⟨hT, hc1, hc2, hset, hin, hfm⟩ := hG
  have hb0 : Below w.heap.size w (w.alloc (.cells #[.slice A t.nodes.length cap, .int .i64 t.groups, .slice An t.names.length cn] 25)) := (Below.refl _ _).alloc (Nat.le_refl _) _
  have HT0 := hide (hT.below hb0)
  have HB0 := hide hb0
  have HSET := hide hset
  have HIN := hide hin
  have HK0 := hide (Blk.new w 25 #[.slice A t.nodes.length cap, .int .i64 t.groups, .slice An t.names.length cn])
  have HI := hide hi
  have HJ := hide hj
  have HFM := hide (hfm.below hb0 (Nat.le_refl _))
  clear hT hset hin hb0 hi hj hfm
  go_enter Tryd.func3, Tryd.ntmps3
  go_wp2_with fail
  refine (anchor_any _ (unhide HFM)).mono ?_
  rintro e w1 ⟨rfl, hb⟩
  have HB1 := hide ((unhide HB0).trans (hb.mono (unhide HB0).size))
  have hk := (unhide HK0).below hb (by simp)
  have HT1 := hide ((unhide HT0).keep (w' := w1) fun p hp => hb.cell (by simp; omega))
  have hw1 : w.heap.size ≤ w1.heap.size := (unhide HB1).size
  have k0 := hk.cell 0
  have k1 := hk.cell 1
  have k2 := hk.cell 2
  have HK1 := hide hk
  have HFM1 := hide ((unhide HFM).below hb (Nat.le_refl _))
  clear hb hk HB0 HK0 HT0 HFM
  have hfit : Fit t := ⟨by omega, unhide HSET, unhide HIN⟩
  have HF := hide hfit
  clear hfit
  go_wp2_with fail
  refine (right_any t _ w.heap.size w1 hw1 (unhide HF) (unhide HT1) (unhide HFM1)).mono ?_
  rintro e w2 ⟨rfl, hb⟩
  rw [hr]
  have HB2 := hide ((unhide HB1).trans (hb.mono (unhide HB1).size))
  have hk := (unhide HK1).below hb (by have := (unhide HK1).lt; omega)
  have HT2 := hide ((unhide HT1).keep (w' := w2) fun p hp => hb.cell (by omega))
  have hw2 : w.heap.size ≤ w2.heap.size := (unhide HB2).size
  clear k0 k1 k2
  have k0 := hk.cell 0
  have k1 := hk.cell 1
  have k2 := hk.cell 2
  have HK2 := hide hk
  clear hb hk HB1 HK1 HT1 hw1
  go_wp2_with fail
  go_ret
  exact ⟨rfl, unhide HB2⟩

set_option maxRecDepth 100000 in
set_option maxHeartbeats 2000000 in
theorem parts_out (t : Tr) (A An : Option Addr) (cap cn : Nat) (i j : Int) (w : World) (hG : Given t w A An cap cn) (hi : in64 i) (hj : in64 j) (hn : (t.nodes.length : Int) ≤ 200) (hr : rightT t = true) (ho : i < 0 ∨ (t.nodes.length : Int) ≤ i) :
    Calls Tryd.prog 3 #[.agg #[.slice A t.nodes.length cap, .int .i64 t.groups, .slice An t.names.length cn], .int .i64 i, .int .i64 j] w fun e w' => e = .returned (.bool true) ∧ Below w.heap.size w w' := by
  obtain ⟨hT, hc1, hc2, hset, hin, hfm⟩ := hG
  have hb0 : Below w.heap.size w (w.alloc (.cells #[.slice A t.nodes.length cap, .int .i64 t.groups, .slice An t.names.length cn] 25)) := (Below.refl _ _).alloc (Nat.le_refl _) _
  have HT0 := hide (hT.below hb0)
  have HB0 := hide hb0
  have HSET := hide hset
  have HIN := hide hin
  have HK0 := hide (Blk.new w 25 #[.slice A t.nodes.length cap, .int .i64 t.groups, .slice An t.names.length cn])
  have HI := hide hi
  have HJ := hide hj
  have HFM := hide (hfm.below hb0 (Nat.le_refl _))
  clear hT hset hin hb0 hi hj hfm
  go_enter Tryd.func3, Tryd.ntmps3
  go_wp2_with fail
  refine (anchor_any _ (unhide HFM)).mono ?_
  rintro e w1 ⟨rfl, hb⟩
  have HB1 := hide ((unhide HB0).trans (hb.mono (unhide HB0).size))
  have hk := (unhide HK0).below hb (by simp)
  have HT1 := hide ((unhide HT0).keep (w' := w1) fun p hp => hb.cell (by simp; omega))
  have hw1 : w.heap.size ≤ w1.heap.size := (unhide HB1).size
  have k0 := hk.cell 0
  have k1 := hk.cell 1
  have k2 := hk.cell 2
  have HK1 := hide hk
  have HFM1 := hide ((unhide HFM).below hb (Nat.le_refl _))
  clear hb hk HB0 HK0 HT0 HFM
  have hfit : Fit t := ⟨by omega, unhide HSET, unhide HIN⟩
  have HF := hide hfit
  clear hfit
  go_wp2_with fail
  refine (right_any t _ w.heap.size w1 hw1 (unhide HF) (unhide HT1) (unhide HFM1)).mono ?_
  rintro e w2 ⟨rfl, hb⟩
  rw [hr]
  have HB2 := hide ((unhide HB1).trans (hb.mono (unhide HB1).size))
  have hk := (unhide HK1).below hb (by have := (unhide HK1).lt; omega)
  have HT2 := hide ((unhide HT1).keep (w' := w2) fun p hp => hb.cell (by omega))
  have hw2 : w.heap.size ≤ w2.heap.size := (unhide HB2).size
  clear k0 k1 k2
  have k0 := hk.cell 0
  have k1 := hk.cell 1
  have k2 := hk.cell 2
  have HK2 := hide hk
  clear hb hk HB1 HK1 HT1 hw1
  have HLA := hide (right_laid hr)
  have HLE := hide (fun nd hnd => least_len (right_least hr nd hnd))
  clear hr
  go_wp2_with fail
  refine (of_any t _ w.heap.size (by omega) (unhide HLE) w2 hw2 (unhide HT2)).mono ?_
  rintro e w3 ⟨v3, rfl, hT3, hb⟩
  have HB3 := hide ((unhide HB2).trans (hb.mono (unhide HB2).size))
  have hk := (unhide HK2).below hb (by have := (unhide HK2).lt; omega)
  have HT3 := hide ((unhide HT2).keep (w' := w3) fun p hp => hb.cell (by omega))
  have hw3 : w.heap.size < w3.heap.size := hk.lt
  have HX3 := hide hT3
  obtain ⟨xa, xc, rfl, ⟨XA, xcap, rfl, -⟩, XC, xcn, rfl, -⟩ := hT3
  clear k0 k1 k2
  have k0 := hk.cell 0
  have k1 := hk.cell 1
  have k2 := hk.cell 2
  have HK3 := hide hk
  clear hb hk HB2 HK2 HT2 hw2
  have E1 := hide (endI_out (L := t.nodes) ho)
  have E2 := hide ((unhide HLA).noParent (j := i) (by omega))
  have E3 := hide (insideI_out (L := t.nodes) (i := i) (f := j) (by have := ho; omega))
  have E4 := hide (insideI_out (L := t.nodes) (i := j) (f := i) (by have := ho; omega))
  have jc : j < 0 ∨ (0 ≤ j ∧ decide (j < (t.nodes.length : Int)) = true) ∨ (0 ≤ j ∧ decide (j < (t.nodes.length : Int)) = false) := by simp only [decide_eq_true_eq, decide_eq_false_iff_not]; omega
  have ho : i < 0 ∨ (0 ≤ i ∧ decide (i < (t.nodes.length : Int)) = false) := by simp only [decide_eq_false_iff_not]; omega
  rcases ho with ho | ⟨ho, ho2⟩ <;> rcases jc with jc | ⟨jc, jc2⟩ | ⟨jc, jc2⟩
  all_goals
    go_wp2_with fail
    have hbA : Below w3.heap.size w3 (w3.alloc (.cells #[.slice XA t.nodes.length xcap, .int .i64 t.groups, .slice XC t.names.length xcn] 29)) := (Below.refl _ _).alloc (Nat.le_refl _) _
    have HB4 := hide ((unhide HB3).trans (hbA.mono (unhide HB3).size))
    have HT4 := hide ((unhide HT3).keep (w' := w3.alloc (.cells #[.slice XA t.nodes.length xcap, .int .i64 t.groups, .slice XC t.names.length xcn] 29)) fun p hp => hbA.cell (by omega))
    have HK4 := hide ((unhide HK3).alloc (.cells #[.slice XA t.nodes.length xcap, .int .i64 t.groups, .slice XC t.names.length xcn] 29))
    have hw4 : w.heap.size < (w3.alloc (.cells #[.slice XA t.nodes.length xcap, .int .i64 t.groups, .slice XC t.names.length xcn] 29)).heap.size := by simp; omega
    refine (pend_any t _ w.heap.size _ (by omega) (unhide HF) (unhide HLA) (unhide HT4) i (unhide HI)).mono ?_
    rintro e w5 ⟨rfl, hb⟩
    rw [unhide E1]
    have HB5 := hide ((unhide HB4).trans (hb.mono (unhide HB4).size))
    have hk := (unhide HK4).below hb (by have := (unhide HK4).lt; omega)
    have HT5 := hide ((unhide HT4).keep (w' := w5) fun p hp => hb.cell (by omega))
    have hw5 : w.heap.size < w5.heap.size := hk.lt
    clear k0 k1 k2
    have k0 := hk.cell 0
    have k1 := hk.cell 1
    have k2 := hk.cell 2
    have HK5 := hide hk
    clear hb hk HB4 HK4 HT4 hw4
    go_wp2_with fail
    refine (ppar_any t _ w.heap.size _ (by omega) (unhide HF) (unhide HLA) (unhide HT5) i (unhide HI)).mono ?_
    rintro e w6 ⟨rfl, hb⟩
    rw [unhide E2]
    have HB6 := hide ((unhide HB5).trans (hb.mono (unhide HB5).size))
    have hk := (unhide HK5).below hb (by have := (unhide HK5).lt; omega)
    have HT6 := hide ((unhide HT5).keep (w' := w6) fun p hp => hb.cell (by omega))
    have hw6 : w.heap.size < w6.heap.size := hk.lt
    clear k0 k1 k2
    have k0 := hk.cell 0
    have k1 := hk.cell 1
    have k2 := hk.cell 2
    have HK6 := hide hk
    clear hb hk HB5 HK5 HT5 hw5
    go_wp2_with fail
    refine (pin_any t _ w.heap.size _ (by omega) (unhide HF) (unhide HLA) (unhide HT6) i j (unhide HI) (unhide HJ)).mono ?_
    rintro e w7 ⟨rfl, hb⟩
    rw [unhide E3]
    have HB7 := hide ((unhide HB6).trans (hb.mono (unhide HB6).size))
    have hk := (unhide HK6).below hb (by have := (unhide HK6).lt; omega)
    have HT7 := hide ((unhide HT6).keep (w' := w7) fun p hp => hb.cell (by omega))
    have hw7 : w.heap.size < w7.heap.size := hk.lt
    clear k0 k1 k2
    have k0 := hk.cell 0
    have k1 := hk.cell 1
    have k2 := hk.cell 2
    have HK7 := hide hk
    clear hb hk HB6 HK6 HT6 hw6
    go_wp2_with fail
    refine (pin_any t _ w.heap.size _ (by omega) (unhide HF) (unhide HLA) (unhide HT7) j i (unhide HJ) (unhide HI)).mono ?_
    rintro e w8 ⟨rfl, hb⟩
    rw [unhide E4]
    have HB8 := hide ((unhide HB7).trans (hb.mono (unhide HB7).size))
    have hk := (unhide HK7).below hb (by have := (unhide HK7).lt; omega)
    have HT8 := hide ((unhide HT7).keep (w' := w8) fun p hp => hb.cell (by omega))
    have hw8 : w.heap.size < w8.heap.size := hk.lt
    clear k0 k1 k2
    have k0 := hk.cell 0
    have k1 := hk.cell 1
    have k2 := hk.cell 2
    have HK8 := hide hk
    clear hb hk HB7 HK7 HT7 hw7
    go_wp2_with fail
    go_ret
    exact ⟨rfl, unhide HB8⟩
end Go.Proofs.YtckgbalmpddblaaDoor.As
