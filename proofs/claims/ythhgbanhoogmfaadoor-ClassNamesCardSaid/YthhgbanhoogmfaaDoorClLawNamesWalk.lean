/-
  The law ClassNames, walked: true at any number. Conditions: those of the program's contracts.
-/
import Derived.Test.YthhgbanhoogmfaaDoorClAnchor
set_option linter.unusedVariables false
set_option linter.unusedSimpArgs false
namespace Go.Proofs.YthhgbanhoogmfaaDoor.Cl
open Go.RowKit Go.Proofs.YthhgbanhoogmfaaDoor.Mem Go.Proofs.YthhgbanhoogmfaaDoor.Rs

set_option maxRecDepth 100000 in
set_option maxHeartbeats 2000000 in
theorem names_out (i : Int) (h : i < 0 ∨ 13 < i) (w : World) (hT : Tb w) : Calls Tryd.prog 4 #[.int .i64 i] w fun e w' => e = .returned (.bool true) ∧ Below w.heap.size w w' := by
  have HT := hide hT
  have C := hide (fun W h => pnames_any W h)
  have HN := hide names_any
  have hz := zero_names.1
  clear hT
  by_cases h0 : i < 0
  all_goals
    have h1 : ¬ i < 0 → 13 < i := fun _ => by omega
    go_enter Tryd.func4, Tryd.ntmps4
    go_wp2_with fail
    refine (anchor_any w (unhide HT)).mono ?_
    rintro e w1 ⟨rfl, hb⟩
    have HB1 := hide hb
    have HT1 := hide ((unhide HT).below hb)
    clear hb
    go_wp2_with fail
    refine (unhide C w1 (unhide HT1)).mono ?_
    rintro e w2 ⟨b, off, cap, rfl, hc, hb, hcs, hB⟩
    have HB2 := hide ((unhide HB1).trans (hB.mono (unhide HB1).size))
    clear hcs hb hB
    go_wp2_with fail
    refine (unhide HN w2).mono ?_
    rintro e w3 ⟨rfl, hB⟩
    have HB3 := hide ((unhide HB2).trans (hB.mono (unhide HB2).size))
    have h3 := store_names w3
    have h4 := store_names' w3
    clear hB
    go_wp2_with fail
    go_ret
    exact ⟨rfl, (unhide HB3).alloc (unhide HB3).size _⟩
set_option maxRecDepth 100000 in
set_option maxHeartbeats 2000000 in
theorem names_in (i : Nat) (hi : i < 14) (w : World) (hT : Tb w) : Calls Tryd.prog 4 #[.int .i64 (i : Int)] w fun e w' => e = .returned (.bool true) ∧ Below w.heap.size w w' := by
  obtain ⟨n, hn⟩ : ∃ n, nmB[i]? = some n := ⟨_, List.getElem?_eq_getElem (by rw [nmB_len]; exact hi)⟩
  have hpl : place n = some i := by
    obtain ⟨hk, rfl⟩ := List.getElem?_eq_some_iff.1 hn
    exact place_nm ⟨i, hi⟩
  have his : isName n = true := by unfold isName; rw [hpl]; rfl
  obtain ⟨h4, h1, _⟩ := nameL_len n
  have hpos := h1 his
  have D := hide (fun W h => named_any n W h)
  obtain ⟨l, hl⟩ : ∃ l, nameL n = l := ⟨_, rfl⟩
  rw [his, hl] at D
  rw [hl] at hpos h4
  have HT := hide hT
  have C := hide (fun W h => pnames_any W h)
  have HN := hide names_any
  have hz := zero_names.1
  have HNI := hide hn
  have i13 : (i : Int) ≤ 13 := by omega
  have i14 : (i : Int) < 14 := by omega
  have hpi : (0 : Int) < (l.length : Int) := by omega
  clear hT hn hpl his h1 hl
  go_enter Tryd.func4, Tryd.ntmps4
  go_wp2_with fail
  refine (anchor_any w (unhide HT)).mono ?_
  rintro e w1 ⟨rfl, hb⟩
  have HB1 := hide hb
  have HT1 := hide ((unhide HT).below hb)
  clear hb HT
  go_wp2_with fail
  refine (unhide C w1 (unhide HT1)).mono ?_
  rintro e w2 ⟨b, off, cap, rfl, hc, hb, hcs, hB⟩
  have HB2 := hide ((unhide HB1).trans (hB.mono (unhide HB1).size))
  have HT2 := hide ((unhide HT1).below hB)
  have HC := hide (hcs i n (unhide HNI))
  have HLB := hide hb
  clear hcs hb hB C HB1 HT1
  go_wp2_with fail
  refine (unhide HN w2).mono ?_
  rintro e w3 ⟨rfl, hB⟩
  have HB3 := hide ((unhide HB2).trans (hB.mono (unhide HB2).size))
  have hbw : Below w2.heap.size w2 (w3.alloc (.cells namesA 33)) := hB.alloc hB.size _
  have c1 : (w3.alloc (.cells namesA 33)).cell? ⟨b, off + i, none⟩ = some (str n) := (hbw.cell (p := ⟨b, off + i, none⟩) (unhide HLB)).trans (unhide HC)
  have HBW := hide hbw
  have h3 := store_names w3
  have h4' := store_names' w3
  clear hB hbw
  go_wp2_with fail
  have HT4 := hide ((unhide HT2).below (unhide HBW))
  refine (unhide D _ (unhide HT4)).mono ?_
  rintro e w4 ⟨v4, rfl, A, cap4, rfl, hc4, hm4, hl4, hB⟩
  have bs := (Blk.new w3 33 namesA).below hB (by simp)
  have c2 : w4.cell? ⟨w3.heap.size, i, none⟩ = some (str n) := (bs.cell i).trans (namesA_at (unhide HNI))
  have c3 : w4.cell? ⟨b, off + i, none⟩ = some (str n) := (hB.cell (p := ⟨b, off + i, none⟩) (by have := (unhide HBW).size; have h := unhide HLB; show b < (w3.alloc (.cells namesA 33)).heap.size; omega)).trans c1
  have HB4 := hide ((unhide HB3).trans ((((Below.refl w3.heap.size w3).alloc (Nat.le_refl _) _).trans (hB.mono (by simp))).mono (unhide HB3).size))
  clear bs c1 hl4 hB h3 h4' hz D HT4 HBW
  go_wp2_with fail
  go_quiet (fail)
  go_wp2
  go_ret
  exact ⟨rfl, below_drewN (unhide HB4) _⟩
theorem walkNames (i : Int) (w : World) (hT : Tb w) : Calls Tryd.prog 4 #[.int .i64 i] w fun e w' => e = .returned (.bool true) ∧ Below w.heap.size w w' := by
  by_cases h : i < 0 ∨ 13 < i
  · exact names_out i h w hT
  · obtain ⟨k, rfl⟩ := Int.eq_ofNat_of_zero_le (show 0 ≤ i by omega)
    exact names_in k (by omega) w hT
end Go.Proofs.YthhgbanhoogmfaaDoor.Cl
