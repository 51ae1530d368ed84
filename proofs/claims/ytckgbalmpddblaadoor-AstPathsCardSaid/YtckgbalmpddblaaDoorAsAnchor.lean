/-
  The law's anchor, walked. Conditions: the table of forms lies.
-/
import Derived.Test.YtckgbalmpddblaaDoorAsProg
import Derived.Test.YtckgbalmpddblaaDoorAsSmall
set_option linter.unusedVariables false
set_option linter.unusedSimpArgs false
namespace Go.Proofs.YtckgbalmpddblaaDoor.As
open Go.RowKit Go.Proofs.YtckgbalmpddblaaDoor.Mem Go.Proofs.YtckgbalmpddblaaDoor.Rs
set_option maxRecDepth 100000 in
set_option maxHeartbeats 2000000 in
theorem anchor_any (w : World) (hFm : Fm w) : Calls Tryd.prog 6 #[] w fun e w' => e = .returned (.bool true) ∧ Below w.heap.size w w' := by
  have HFM := hide hFm
  clear hFm
  have C1 := hide (fun W B v hB (h : TreeV W B smallT v) (hw : Fm W) => right_any smallT v B W hB small_fit h hw)
  have C2 := hide (fun W B v hB (h : TreeV W B smallT v) => ppar_any smallT v B W hB small_fit small_laid h 3 (by simp [in64]))
  have C3 := hide (fun W B v hB (h : TreeV W B smallT v) => pend_any smallT v B W hB small_fit small_laid h 0 (by simp [in64]))
  have C4 := hide (fun W B v hB (h : TreeV W B smallT v) => pin_any smallT v B W hB small_fit small_laid h 3 2 (by simp [in64]) (by simp [in64]))
  have C5 := hide (fun W B v hB (h : TreeV W B smallT v) => pin_any smallT v B W hB small_fit small_laid h 1 2 (by simp [in64]) (by simp [in64]))
  rw [right_small] at C1
  rw [small_parent] at C2
  rw [small_end] at C3
  rw [small_in] at C4
  rw [small_out] at C5
  go_enter Tryd.func6, Tryd.ntmps6
  go_wp2_with fail
  refine (small_any w).mono ?_
  rintro e w1 ⟨v, rfl, hT, hb⟩
  have HT := hide hT
  obtain ⟨a, c, rfl, ⟨A, cap, rfl, -⟩, An, cn, rfl, -⟩ := hT
  have HB := hide hb
  clear hb
  have HW1 := hide (show w1.heap.size ≤ (w1.alloc (.cells #[.slice A smallT.nodes.length cap, .int .i64 smallT.groups, .slice An smallT.names.length cn] 25)).heap.size by simp)
  have hk := Blk.new w1 25 #[.slice A smallT.nodes.length cap, .int .i64 smallT.groups, .slice An smallT.names.length cn]
  have HT1 := hide ((unhide HT).below ((Below.refl w1.heap.size w1).alloc (Nat.le_refl _) (.cells #[.slice A smallT.nodes.length cap, .int .i64 smallT.groups, .slice An smallT.names.length cn] 25)))
  have HB1 := hide ((unhide HB).alloc (unhide HB).size (.cells #[.slice A smallT.nodes.length cap, .int .i64 smallT.groups, .slice An smallT.names.length cn] 25))
  have HK := hide hk
  clear hk HT HB
  go_wp2_with fail
  refine (unhide C1 _ w1.heap.size _ (unhide HW1) (unhide HT1) ((unhide HFM).below (unhide HB1) (Nat.le_refl _))).mono ?_
  rintro e w2 ⟨rfl, hb⟩
  have HB2 := hide ((unhide HB1).trans (hb.mono (unhide HB1).size))
  have hk := (unhide HK).below hb (by have := (unhide HK).lt; omega)
  have HT2 := hide ((unhide HT1).keep (w' := w2) fun p hp => hb.cell (by have := unhide HW1; omega))
  have HW2 := hide (Nat.le_trans (unhide HW1) hb.size)
  have k0 := hk.cell 0
  have k1 := hk.cell 1
  have k2 := hk.cell 2
  clear HK hb HT1 HB1 HW1
  have HK := hide hk
  clear hk
  go_wp2_with fail
  clear k0 k1 k2
  refine (unhide C2 _ w1.heap.size _ (unhide HW2) (unhide HT2)).mono ?_
  rintro e w3 ⟨rfl, hb⟩
  have HB3 := hide ((unhide HB2).trans (hb.mono (unhide HB2).size))
  have hk := (unhide HK).below hb (by have := (unhide HK).lt; omega)
  have HT3 := hide ((unhide HT2).keep (w' := w3) fun p hp => hb.cell (by have := unhide HW2; omega))
  have HW3 := hide (Nat.le_trans (unhide HW2) hb.size)
  have k0 := hk.cell 0
  have k1 := hk.cell 1
  have k2 := hk.cell 2
  clear HK hb HT2 HB2 HW2
  have HK := hide hk
  clear hk
  go_wp2_with fail
  clear k0 k1 k2
  refine (unhide C3 _ w1.heap.size _ (unhide HW3) (unhide HT3)).mono ?_
  rintro e w4 ⟨rfl, hb⟩
  have HB4 := hide ((unhide HB3).trans (hb.mono (unhide HB3).size))
  have hk := (unhide HK).below hb (by have := (unhide HK).lt; omega)
  have HT4 := hide ((unhide HT3).keep (w' := w4) fun p hp => hb.cell (by have := unhide HW3; omega))
  have HW4 := hide (Nat.le_trans (unhide HW3) hb.size)
  have k0 := hk.cell 0
  have k1 := hk.cell 1
  have k2 := hk.cell 2
  clear HK hb HT3 HB3 HW3
  have HK := hide hk
  clear hk
  go_wp2_with fail
  clear k0 k1 k2
  refine (unhide C4 _ w1.heap.size _ (unhide HW4) (unhide HT4)).mono ?_
  rintro e w5 ⟨rfl, hb⟩
  have HB5 := hide ((unhide HB4).trans (hb.mono (unhide HB4).size))
  have hk := (unhide HK).below hb (by have := (unhide HK).lt; omega)
  have HT5 := hide ((unhide HT4).keep (w' := w5) fun p hp => hb.cell (by have := unhide HW4; omega))
  have HW5 := hide (Nat.le_trans (unhide HW4) hb.size)
  have k0 := hk.cell 0
  have k1 := hk.cell 1
  have k2 := hk.cell 2
  clear HK hb HT4 HB4 HW4
  have HK := hide hk
  clear hk
  go_wp2_with fail
  clear k0 k1 k2
  refine (unhide C5 _ w1.heap.size _ (unhide HW5) (unhide HT5)).mono ?_
  rintro e w6 ⟨rfl, hb⟩
  have HB6 := hide ((unhide HB5).trans (hb.mono (unhide HB5).size))
  have hk := (unhide HK).below hb (by have := (unhide HK).lt; omega)
  have HT6 := hide ((unhide HT5).keep (w' := w6) fun p hp => hb.cell (by have := unhide HW5; omega))
  have HW6 := hide (Nat.le_trans (unhide HW5) hb.size)
  have k0 := hk.cell 0
  have k1 := hk.cell 1
  have k2 := hk.cell 2
  clear HK hb HT5 HB5 HW5
  have HK := hide hk
  clear hk
  go_wp2_with fail
  clear k0 k1 k2
  go_ret
  exact ⟨rfl, unhide HB6⟩
end Go.Proofs.YtckgbalmpddblaaDoor.As
