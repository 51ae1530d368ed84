/-
  A text's part as bytes (Part), and whether a set has the symbol behind a place (In), walked.
-/
import Derived.Test.YtdeaaidbmneplaaDoorMTxAgain
import Derived.Test.YtdeaaidbmneplaaDoorMSymBytes
set_option linter.unusedSimpArgs false
set_option linter.unusedVariables false
namespace Go.Proofs.YtdeaaidbmneplaaDoor.Tx
open Go.RowKit Go.Proofs.YtdeaaidbmneplaaDoor.Mem
attribute [local go_sem high] slice_at
def partZ (l : List Int) (f t : Int) : List Int := if max f 0 < min t l.length then (l.drop (max f 0).toNat).take ((min t l.length).toNat - (max f 0).toNat) else []
theorem part_all (l : List Int) : partZ l 0 l.length = l := by
  unfold partZ
  split
  · rw [show (max (0 : Int) 0).toNat = 0 by simp, show (min (l.length : Int) l.length).toNat = l.length by simp, List.drop_zero, Nat.sub_zero, List.take_length]
  · rename_i h
    exact (List.eq_nil_of_length_eq_zero (by omega)).symm
variable {l : List Int} {A : Option Addr} {cap : Nat} {w : World}
set_option maxHeartbeats 2000000 in
theorem part_none (f t : Int) (hS : SV l A cap w) (h : ¬ max f 0 < min t l.length) : Calls Tryd.prog 15 #[.agg #[.slice A l.length cap], .int .i64 f, .int .i64 t] w fun e w' => ∃ v, e = .returned v ∧ Put.Row (Sy.encs []) w v w' := by
  have C := hide (len_any A l.length cap)
  obtain ⟨p, hp⟩ : ∃ p, max f 0 = p := ⟨_, rfl⟩
  obtain ⟨q, hq⟩ : ∃ q, min t (l.length : Int) = q := ⟨_, rfl⟩
  rw [hp, hq] at h
  have hd : decide (q ≤ p) = true := by rw [decide_eq_true_iff]; omega
  clear hS h
  go_enter Tryd.func15, Tryd.ntmps15
  go_wp2_with fail
  refine ((unhide C) _).mono ?_
  rintro e w1 ⟨rfl, hB⟩
  have HB := hide ((below_box w (.cells #[.slice A l.length cap] 26)).trans (hB.mono (below_box _ _).size))
  clear hB C
  go_wp2
  go_ret
  exact ⟨_, rfl, World.ownsRow_nil _ _ _ _, unhide HB⟩
set_option maxRecDepth 100000 in
set_option maxHeartbeats 2000000 in
theorem part_some (f t : Int) (hS : SV l A cap w) (hA : Put.AllS l) (h : max f 0 < min t l.length) : Calls Tryd.prog 15 #[.agg #[.slice A l.length cap], .int .i64 f, .int .i64 t] w fun e w' => ∃ v, e = .returned v ∧ Put.Row (Sy.encs (partZ l f t)) w v w' := by
  have C := hide (len_any A l.length cap)
  have hpz : partZ l f t = (l.drop (max f 0).toNat).take ((min t l.length).toNat - (max f 0).toNat) := by unfold partZ; rw [if_pos h]
  obtain ⟨p, hp⟩ : ∃ p : Nat, max f 0 = (p : Int) := ⟨(max f 0).toNat, by omega⟩
  obtain ⟨q, hq⟩ : ∃ q : Nat, min t (l.length : Int) = (q : Int) := ⟨(min t l.length).toNat, by omega⟩
  rw [hp, hq] at h
  rw [hp, hq, Int.toNat_natCast, Int.toNat_natCast] at hpz
  have hql : q ≤ l.length := by omega
  have hpq : p < q := by omega
  have hd : decide ((q : Int) ≤ (p : Int)) = false := by rw [decide_eq_false_iff_not]; omega
  have hd' : decide (q ≤ p) = false := by rw [decide_eq_false_iff_not]; omega
  have hrm := hS.room
  have k1 : p ≤ q := by omega
  have k2 : q ≤ cap := by omega
  have hsm := hS.small
  have CB := hide (fun wx (h : SV l A cap wx) => by
    obtain ⟨b, off, e1, hb, hc⟩ := reads_cut h hpq hql
    have hl : ((l.drop p).take (q - p)).length = q - p := by rw [List.length_take, List.length_drop]; omega
    have := Put.bytes_any ((l.drop p).take (q - p)) wx.heap.size (cap - p) (cutA A p cap) wx (by omega) ⟨by rw [List.length_map, Nat.mul_one], fun _ => ⟨_, e1, hb, fun j u hu => by rw [add_flat]; exact hc j u hu⟩⟩
    rw [hl] at this
    exact this)
  have HA := hide (show Put.AllS ((l.drop p).take (q - p)) from fun x hx => hA x (List.mem_of_mem_drop (List.mem_of_mem_take hx)))
  have HSV := hide hS
  have HPZ := hide hpz
  clear hS h hA hpz
  go_enter Tryd.func15, Tryd.ntmps15
  go_wp2_with fail
  refine ((unhide C) _).mono ?_
  rintro e w1 ⟨rfl, hB⟩
  have hBX := (below_box w (.cells #[.slice A l.length cap] 26)).trans (hB.mono (below_box _ _).size)
  have hk := (Blk.new w 26 #[.slice A l.length cap]).below hB (by simp)
  have c1 := hk.cell 0
  have HB := hide hBX
  have hsv := (unhide HSV).below hBX
  have CB1 := hide ((unhide CB) w1 hsv)
  clear hB C hBX hk hsv CB
  go_wp2_with fail
  refine (unhide CB1).mono ?_
  rintro e w2 ⟨hpo, -⟩
  obtain ⟨v, rfl, hrow⟩ := hpo (unhide HA)
  have HROW := hide hrow
  clear hpo hrow CB1 c1
  go_wp2
  go_ret
  refine ⟨_, rfl, ?_⟩
  rw [unhide HPZ]
  exact ⟨Fo.own_lower (unhide HROW).1 (unhide HB).size, (unhide HB).trans ((unhide HROW).2.mono (unhide HB).size)⟩
theorem part_any (f t : Int) (hS : SV l A cap w) (hA : Put.AllS l) : Calls Tryd.prog 15 #[.agg #[.slice A l.length cap], .int .i64 f, .int .i64 t] w fun e w' => ∃ v, e = .returned v ∧ Put.Row (Sy.encs (partZ l f t)) w v w' := by
  by_cases h : max f 0 < min t l.length
  · exact part_some f t hS hA h
  · rw [show partZ l f t = [] by unfold partZ; rw [if_neg h]]
    exact part_none f t hS h
set_option maxHeartbeats 1000000 in
theorem in_any (s : List Rs.R) (B : Option Addr) (c : Nat) (k : Int) (hS : SV l A cap w) (hs : s.length ≤ 1000) (h : Rs.Lst w w.heap.size B s) :
    Calls Tryd.prog 18 #[.agg #[.slice A l.length cap], .int .i64 k, .slice B s.length c] w fun e w' => e = .returned (.bool (Rs.hasL s (atZ l k))) ∧ Below w.heap.size w w' := by
  have C := hide (fun W (hb : Below w.heap.size w W) => at_any l A cap k W (hS.below hb))
  have CH := hide (fun W x (hb : Below w.heap.size w W) => Rs.has_any s x B c W (by omega) ((h.below hb).more hb.size))
  clear hS h
  go_enter Tryd.func18, Tryd.ntmps18
  go_wp2_with fail
  refine ((unhide C) _ (below_box _ _)).mono ?_
  rintro e w1 ⟨rfl, hB⟩
  have HB := hide ((below_box w (.cells #[.slice A l.length cap] 26)).trans (hB.mono (below_box _ _).size))
  clear hB C
  go_wp2_with fail
  refine ((unhide CH) _ _ (unhide HB)).mono ?_
  rintro e w2 ⟨rfl, hB⟩
  have HB2 := hide ((unhide HB).trans (hB.mono (unhide HB).size))
  clear hB CH HB
  go_wp2
  go_ret
  exact ⟨rfl, unhide HB2⟩
end Go.Proofs.YtdeaaidbmneplaaDoor.Tx
