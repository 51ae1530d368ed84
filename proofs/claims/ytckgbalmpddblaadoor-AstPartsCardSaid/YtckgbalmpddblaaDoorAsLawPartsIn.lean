/-
  The law AstParts, where the first number is a node: true. Conditions: the tree lies in memory, and is not too great to be read; the numbers are ints.
-/
import Derived.Test.YtckgbalmpddblaaDoorAsLawPartsWalk
import Derived.Deep.CutRange
import Derived.Deep.RegionHeld3
set_option linter.unusedVariables false
set_option linter.unusedSimpArgs false
namespace Go.Proofs.YtckgbalmpddblaaDoor.As
open Go.RowKit Go.Proofs.YtckgbalmpddblaaDoor.Mem Go.Proofs.YtckgbalmpddblaaDoor.Rs

/-- what is known at the last test: both boxes, both trees -/
structure PMid (t : Tr) (w w3 : World) (A An XA XC : Option Addr) (cap cn xcap xcn : Nat) (wx : World) : Prop where
  box : Blk wx w.heap.size 25 #[.slice A t.nodes.length cap, .int .i64 t.groups, .slice An t.names.length cn]
  boy : Blk wx w3.heap.size 29 #[.slice XA t.nodes.length xcap, .int .i64 t.groups, .slice XC t.names.length xcn]
  tree : TreeV wx w.heap.size t (.agg #[.slice A t.nodes.length cap, .int .i64 t.groups, .slice An t.names.length cn])
  ref : TreeV wx w3.heap.size t (.agg #[.slice XA t.nodes.length xcap, .int .i64 t.groups, .slice XC t.names.length xcn])
  bel : Below w.heap.size w wx
  siz : w.heap.size < w3.heap.size ∧ w3.heap.size < wx.heap.size
theorem PMid.below {t : Tr} {w w3 wx wy : World} {A An XA XC : Option Addr} {cap cn xcap xcn : Nat} (h : PMid t w w3 A An XA XC cap cn xcap xcn wx) (hb : Below wx.heap.size wx wy) : PMid t w w3 A An XA XC cap cn xcap xcn wy :=
  ⟨h.box.below hb (by have := h.siz; omega), h.boy.below hb h.siz.2, h.tree.keep fun p hp => hb.cell (by have := h.siz; omega), h.ref.keep fun p hp => hb.cell (by have := h.siz; omega), h.bel.trans (hb.mono h.bel.size), h.siz.1, Nat.lt_of_lt_of_le h.siz.2 hb.size⟩
theorem PMid.held {t : Tr} {w w3 wx : World} {A An XA XC : Option Addr} {cap cn xcap xcn : Nat} (h : PMid t w w3 A An XA XC cap cn xcap xcn wx) : Hid (PMid t w w3 A An XA XC cap cn xcap xcn wx) ∧ wx.cell? ⟨w.heap.size, 0, none⟩ = some (.slice A t.nodes.length cap) ∧ wx.cell? ⟨w.heap.size, 1, none⟩ = some (.int .i64 t.groups) ∧ wx.cell? ⟨w.heap.size, 2, none⟩ = some (.slice An t.names.length cn) ∧ wx.cell? ⟨w3.heap.size, 0, none⟩ = some (.slice XA t.nodes.length xcap) ∧ wx.cell? ⟨w3.heap.size, 1, none⟩ = some (.int .i64 t.groups) ∧ wx.cell? ⟨w3.heap.size, 2, none⟩ = some (.slice XC t.names.length xcn) :=
  ⟨hide h, h.box.cell 0, h.box.cell 1, h.box.cell 2, h.boy.cell 0, h.boy.cell 1, h.boy.cell 2⟩

set_option maxRecDepth 100000 in
set_option maxHeartbeats 2000000 in
theorem parts_in (t : Tr) (A An : Option Addr) (cap cn : Nat) (i j : Int) (w : World) (hG : Given t w A An cap cn) (hi : in64 i) (hj : in64 j) (hn : (t.nodes.length : Int) ≤ 200) (hr : rightT t = true) (h0 : 0 ≤ i) (h1 : decide (i < (t.nodes.length : Int)) = true) :
    Calls Tryd.prog 3 #[.agg #[.slice A t.nodes.length cap, .int .i64 t.groups, .slice An t.names.length cn], .int .i64 i, .int .i64 j] w fun e w' => e = .returned (.bool true) ∧ Below w.heap.size w w' := by
  obtain ⟨p, rfl⟩ := Int.eq_ofNat_of_zero_le h0
  have h1n : decide (p < t.nodes.length) = true := by simp at h1 ⊢; omega
  obtain ⟨hT, hc1, hc2, hset, hin, hfm⟩ := hG
  have hb0 : Below w.heap.size w (w.alloc (.cells #[.slice A t.nodes.length cap, .int .i64 t.groups, .slice An t.names.length cn] 25)) := (Below.refl _ _).alloc (Nat.le_refl _) _
  have HT0 := hide (hT.below hb0)
  have HB0 := hide hb0
  have HSET := hide hset
  have HIN := hide hin
  have HK0 := hide (Blk.new w 25 #[.slice A t.nodes.length cap, .int .i64 t.groups, .slice An t.names.length cn])
  have HI := hide hi
  have HJ := hide hj
  have HFM := hide (hfm.below hb0 (Nat.le_refl _))
  clear hT hset hin hb0 hi hj hfm
  go_enter Tryd.func3, Tryd.ntmps3
  go_wp2_with fail
  refine (anchor_any _ (unhide HFM)).mono ?_
  rintro e w1 ⟨rfl, hb⟩
  have HB1 := hide ((unhide HB0).trans (hb.mono (unhide HB0).size))
  have hk := (unhide HK0).below hb (by simp)
  have HT1 := hide ((unhide HT0).keep (w' := w1) fun p hp => hb.cell (by simp; omega))
  have hw1 : w.heap.size ≤ w1.heap.size := (unhide HB1).size
  have k0 := hk.cell 0
  have k1 := hk.cell 1
  have k2 := hk.cell 2
  have HK1 := hide hk
  have HFM1 := hide ((unhide HFM).below hb (Nat.le_refl _))
  clear hb hk HB0 HK0 HT0 HFM
  have hfit : Fit t := ⟨by omega, unhide HSET, unhide HIN⟩
  have HF := hide hfit
  clear hfit
  go_wp2_with fail
  refine (right_any t _ w.heap.size w1 hw1 (unhide HF) (unhide HT1) (unhide HFM1)).mono ?_
  rintro e w2 ⟨rfl, hb⟩
  rw [hr]
  have HB2 := hide ((unhide HB1).trans (hb.mono (unhide HB1).size))
  have hk := (unhide HK1).below hb (by have := (unhide HK1).lt; omega)
  have HT2 := hide ((unhide HT1).keep (w' := w2) fun p hp => hb.cell (by omega))
  have hw2 : w.heap.size ≤ w2.heap.size := (unhide HB2).size
  clear k0 k1 k2
  have k0 := hk.cell 0
  have k1 := hk.cell 1
  have k2 := hk.cell 2
  have HK2 := hide hk
  clear hb hk HB1 HK1 HT1 hw1
  have HLA := hide (right_laid hr)
  have HLE := hide (fun nd hnd => least_len (right_least hr nd hnd))
  clear hr
  go_wp2_with fail
  refine (of_any t _ w.heap.size (by omega) (unhide HLE) w2 hw2 (unhide HT2)).mono ?_
  rintro e w3 ⟨v3, rfl, hT3, hb⟩
  have HB3 := hide ((unhide HB2).trans (hb.mono (unhide HB2).size))
  have hk := (unhide HK2).below hb (by have := (unhide HK2).lt; omega)
  have HT3 := hide ((unhide HT2).keep (w' := w3) fun p hp => hb.cell (by omega))
  have hw3 : w.heap.size < w3.heap.size := hk.lt
  have HX3 := hide hT3
  obtain ⟨xa, xc, rfl, ⟨XA, xcap, rfl, -⟩, XC, xcn, rfl, -⟩ := hT3
  clear k0 k1 k2
  have k0 := hk.cell 0
  have k1 := hk.cell 1
  have k2 := hk.cell 2
  have HK3 := hide hk
  clear hb hk HB2 HK2 HT2 hw2
  go_upto_region 7 with (fail)
  go_cut [9] from 33 to 41 (fun q wx => q = .bool (decide (0 ≤ j) && decide (j < (t.nodes.length : Int))) ∧ wx = w3.alloc (.cells #[.slice XA t.nodes.length xcap, .int .i64 t.groups, .slice XC t.names.length xcn] 29))
  case first =>
    by_cases hj0 : 0 ≤ j
    · have e : (decide (0 ≤ j) && decide (j < (t.nodes.length : Int))) = decide (j < (t.nodes.length : Int)) := by simp [hj0]
      have HE := hide e
      clear e
      go_wp2_with fail
      go_meet
      exact ⟨by rw [unhide HE], rfl⟩
    · have e : (decide (0 ≤ j) && decide (j < (t.nodes.length : Int))) = false := by simp; omega
      have HE := hide e
      clear e
      go_wp2_with fail
      go_meet
      exact ⟨by rw [unhide HE], rfl⟩
  case rest =>
    obtain ⟨rfl, rfl⟩ := hcut
    have hP : PMid t w w3 A An XA XC cap cn xcap xcn (w3.alloc (.cells #[.slice XA t.nodes.length xcap, .int .i64 t.groups, .slice XC t.names.length xcn] 29)) := by
      have hbA : Below w3.heap.size w3 (w3.alloc (.cells #[.slice XA t.nodes.length xcap, .int .i64 t.groups, .slice XC t.names.length xcn] 29)) := (Below.refl _ _).alloc (Nat.le_refl _) _
      exact ⟨(unhide HK3).alloc _, Blk.new _ _ _, (unhide HT3).keep fun p hp => hbA.cell (by omega), (unhide HX3).below hbA, (unhide HB3).trans (hbA.mono (unhide HB3).size), hw3, by simp⟩
    have HP := hide hP
    clear hP k0 k1 k2 HT3 HX3 HB3 HK3
    generalize hW : w3.alloc (.cells #[.slice XA t.nodes.length xcap, .int .i64 t.groups, .slice XC t.names.length xcn] 29) = W at HP ⊢
    obtain ⟨q, hq⟩ : ∃ q, (decide (0 ≤ j) && decide (j < (t.nodes.length : Int))) = q := ⟨_, rfl⟩
    rw [hq]
    have HQ := hide hq
    clear hq hW
    have e0 := (unhide HP).boy.cell 0
    have e1 := (unhide HP).boy.cell 1
    have e2 := (unhide HP).boy.cell 2
    go_upto_region 10 with (fail)
    go_cut [10] from 68 to 80 (fun z wx => z = .bool (insideI t.nodes j p) ∧ PMid t w w3 A An XA XC cap cn xcap xcn wx)
    case first =>
      cases q with
      | false =>
        have HR := hide (show insideI t.nodes j p = false from insideI_out (by have := unhide HQ; simp at this; omega))
        clear e0 e1 e2
        go_wp2_with fail
        go_meet
        exact ⟨by rw [unhide HR], unhide HP⟩
      | true =>
        by_cases hji : (p : Int) ≤ j
        · have HR := hide (show insideI t.nodes j p = decide (j < endN t.nodes t.nodes.length p) by
            have h := unhide HQ
            simp at h
            unfold insideI
            rw [decide_eq_true (show (0 : Int) ≤ (p : Int) by omega), decide_eq_true hji, decide_eq_true h.2]
            rfl)
          have C := hide (endE_any t _ w3.heap.size (by omega) p W (by have := of_decide_eq_true h1; omega) (Nat.le_of_lt (unhide HP).siz.2) (unhide HP).ref)
          generalize endN t.nodes t.nodes.length p = m at C HR
          go_wp2_with fail
          refine (unhide C).mono ?_
          rintro e w5 ⟨rfl, hb⟩
          have HP5 := hide ((unhide HP).below hb)
          clear hb e0 e1 e2
          go_wp2_with fail
          go_meet
          exact ⟨by rw [unhide HR], unhide HP5⟩
        · have HR := hide (show insideI t.nodes j p = false from insideI_out (by omega))
          clear e0 e1 e2
          go_wp2_with fail
          go_meet
          exact ⟨by rw [unhide HR], unhide HP⟩
    case rest =>
      obtain ⟨rfl, hP⟩ := hcut
      have HP := hide hP
      clear hP e0 e1 e2
      obtain ⟨z, hz⟩ : ∃ z, insideI t.nodes j p = z := ⟨_, rfl⟩
      rw [hz]
      have CE := hide (fun wx (h : PMid t w w3 A An XA XC cap cn xcap xcn wx) => pend_any t _ w.heap.size wx (by have := h.siz; omega) (unhide HF) (unhide HLA) h.tree p (unhide HI))
      have CR := hide (fun wx (h : PMid t w w3 A An XA XC cap cn xcap xcn wx) => endE_any t _ w3.heap.size (by have := unhide HF; unfold Fit at this; omega) p wx (by have := of_decide_eq_true h1; omega) (Nat.le_of_lt h.siz.2) h.ref)
      have CP := hide (fun wx (h : PMid t w w3 A An XA XC cap cn xcap xcn wx) => ppar_any t _ w.heap.size wx (by have := h.siz; omega) (unhide HF) (unhide HLA) h.tree p (unhide HI))
      have CQ := hide (fun wx (h : PMid t w w3 A An XA XC cap cn xcap xcn wx) => parent_any t _ w3.heap.size (by have := unhide HF; unfold Fit at this; omega) p wx (Nat.le_of_lt h.siz.2) h.ref)
      have CI := hide (fun wx (h : PMid t w w3 A An XA XC cap cn xcap xcn wx) => pin_any t _ w.heap.size wx (by have := h.siz; omega) (unhide HF) (unhide HLA) h.tree j p (unhide HJ) (unhide HI))
      rw [hz] at CI
      rw [endI_in (of_decide_eq_true h1n)] at CE
      unfold E at CE
      generalize endN t.nodes t.nodes.length p = m at CE CR
      generalize parentN t.nodes p = pp at CP CQ
      have HZ := hide hz
      clear hz h1n
      have hm : (m == m) = true := by simp
      have hpp : (pp == pp) = true := by simp
      have hzz : (z == z) = true := by simp
      go_wp2_with fail
      go_region_held3 (fun wx => Hid (PMid t w w3 A An XA XC cap cn xcap xcn wx) ∧ wx.cell? ⟨w.heap.size, 0, none⟩ = some (.slice A t.nodes.length cap) ∧ wx.cell? ⟨w.heap.size, 1, none⟩ = some (.int .i64 t.groups) ∧ wx.cell? ⟨w.heap.size, 2, none⟩ = some (.slice An t.names.length cn) ∧ wx.cell? ⟨w3.heap.size, 0, none⟩ = some (.slice XA t.nodes.length xcap) ∧ wx.cell? ⟨w3.heap.size, 1, none⟩ = some (.int .i64 t.groups) ∧ wx.cell? ⟨w3.heap.size, 2, none⟩ = some (.slice XC t.names.length xcn))
        (first | exact PMid.held (unhide HP5) | exact PMid.held ((unhide HP).below (Below.refl _ _).drew) | go_keep)
        (first | (go_at_call 9; have hS := (show Hid (PMid t w w3 A An XA XC cap cn xcap xcn _) ∧ _ by assumption).1; refine ((unhide CE) _ (unhide hS)).mono ?_; rintro e w5 ⟨rfl, hb⟩; have HP5 := hide ((unhide hS).below hb); clear hb hS) | (go_at_call 12; have hS := (show Hid (PMid t w w3 A An XA XC cap cn xcap xcn _) ∧ _ by assumption).1; refine ((unhide CR) _ (unhide hS)).mono ?_; rintro e w5 ⟨rfl, hb⟩; have HP5 := hide ((unhide hS).below hb); clear hb hS) | (go_at_call 10; have hS := (show Hid (PMid t w w3 A An XA XC cap cn xcap xcn _) ∧ _ by assumption).1; refine ((unhide CP) _ (unhide hS)).mono ?_; rintro e w5 ⟨rfl, hb⟩; have HP5 := hide ((unhide hS).below hb); clear hb hS) | (go_at_call 13; have hS := (show Hid (PMid t w w3 A An XA XC cap cn xcap xcn _) ∧ _ by assumption).1; refine ((unhide CQ) _ (unhide hS)).mono ?_; rintro e w5 ⟨rfl, hb⟩; have HP5 := hide ((unhide hS).below hb); clear hb hS) | (go_at_call 11; have hS := (show Hid (PMid t w w3 A An XA XC cap cn xcap xcn _) ∧ _ by assumption).1; refine ((unhide CI) _ (unhide hS)).mono ?_; rintro e w5 ⟨rfl, hb⟩; have HP5 := hide ((unhide hS).below hb); clear hb hS))
      all_goals
        have hS := (show Hid (PMid t w w3 A An XA XC cap cn xcap xcn _) ∧ _ by assumption).1
        have HBS := hide (unhide hS).bel
        clear hS
        go_wp2_with fail
        go_ret
        exact ⟨rfl, unhide HBS⟩

set_option maxRecDepth 100000 in
set_option maxHeartbeats 2000000 in
theorem walkParts (t : Tr) (A An : Option Addr) (cap cn : Nat) (i j : Int) (w : World) (hG : Given t w A An cap cn) (hi : in64 i) (hj : in64 j) :
    Calls Tryd.prog 3 #[.agg #[.slice A t.nodes.length cap, .int .i64 t.groups, .slice An t.names.length cn], .int .i64 i, .int .i64 j] w fun e w' => e = .returned (.bool true) ∧ Below w.heap.size w w' := by
  by_cases hn : 200 < (t.nodes.length : Int)
  · exact parts_many t A An cap cn i j w hG hi hj hn
  by_cases hr : rightT t = true
  · by_cases ho : i < 0 ∨ (t.nodes.length : Int) ≤ i
    · exact parts_out t A An cap cn i j w hG hi hj (by omega) hr ho
    · exact parts_in t A An cap cn i j w hG hi hj (by omega) hr (by omega) (by simp; omega)
  · exact parts_wrong t A An cap cn i j w hG hi hj (by omega) (by simpa using hr)
end Go.Proofs.YtckgbalmpddblaaDoor.As
