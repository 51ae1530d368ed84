/-
  What holds at a place of symbols, by the reference (clewref13.Hold), walked.
-/
import Derived.Test.YtdeaaidbmneplaaDoorMTxEdge
set_option linter.unusedSimpArgs false
set_option linter.unusedVariables false
namespace Go.Proofs.YtdeaaidbmneplaaDoor.Tx
open Go.RowKit Go.Proofs.YtdeaaidbmneplaaDoor.Mem
attribute [local go_sem] Go.Proofs.YtdeaaidbmneplaaDoor.Rs.run_not_true Go.Proofs.YtdeaaidbmneplaaDoor.Rs.run_not_false
variable {l : List Int} {A : Option Addr} {cap : Nat} {k : Int} {w : World}
def RHoldG (b : Bool) (w : World) (e : Ending) (w' : World) : Prop := e = .returned (.bool b) ∧ Below w.heap.size w w'
set_option maxHeartbeats 2000000 in
theorem rholds_1 (hS : SV l A cap w) (h : 0 ≤ k ∧ k ≤ l.length) :
    Calls Tryd.prog 17 #[.slice A l.length cap, .int .i64 1, .int .i64 k] w (RHoldG (decide (atZ l (k - 1) < 0)) w) := by
  have HS := hide hS
  have CA := hide (fun x W (h : SV l A cap W) => rat_any l A cap x W h)
  have CW := hide (fun x W (h : SV l A cap W) => rword_any l A cap x W h)
  have HSM := hide hS.small
  have hq1 : IntKind.i64.wrap (k - 1) = k - 1 := Rs.wrap_id _ (by omega) (by have := unhide HSM; omega)
  have hq2 : IntKind.i64.wrap (k + 1) = k + 1 := Rs.wrap_id _ (by omega) (by have := unhide HSM; omega)
  obtain ⟨hk0, hk1⟩ := h
  have hj0 : decide (k < 0) = false := by rw [decide_eq_false_iff_not]; omega
  have hj1 : decide ((l.length : Int) < k) = false := by rw [decide_eq_false_iff_not]; omega
  obtain ⟨a, ha⟩ : ∃ a, atZ l (k - 1) = a := ⟨_, rfl⟩
  obtain ⟨b, hb⟩ : ∃ b, atZ l k = b := ⟨_, rfl⟩
  have HA := hide ha
  have HBB := hide hb
  clear hS ha hb
  go_enter Tryd.func17, Tryd.ntmps17
  go_wp2_with fail
  refine ((unhide CA) _ _ (unhide HS)).mono ?_
  rintro e w1 ⟨rfl, hw⟩
  obtain rfl : _ = w1 := hw.symm
  rw [unhide HA]
  go_wp2_with fail
  refine ((unhide CA) _ _ (unhide HS)).mono ?_
  rintro e w1 ⟨rfl, hw⟩
  obtain rfl : _ = w1 := hw.symm
  rw [unhide HBB]
  go_wp2
  go_ret
  exact ⟨by rw [unhide HA]; rfl, Below.refl _ _⟩
set_option maxHeartbeats 2000000 in
theorem rholds_3 (hS : SV l A cap w) (h : 0 ≤ k ∧ k ≤ l.length) :
    Calls Tryd.prog 17 #[.slice A l.length cap, .int .i64 3, .int .i64 k] w (RHoldG (decide (atZ l k < 0)) w) := by
  have HS := hide hS
  have CA := hide (fun x W (h : SV l A cap W) => rat_any l A cap x W h)
  have CW := hide (fun x W (h : SV l A cap W) => rword_any l A cap x W h)
  have HSM := hide hS.small
  have hq1 : IntKind.i64.wrap (k - 1) = k - 1 := Rs.wrap_id _ (by omega) (by have := unhide HSM; omega)
  have hq2 : IntKind.i64.wrap (k + 1) = k + 1 := Rs.wrap_id _ (by omega) (by have := unhide HSM; omega)
  obtain ⟨hk0, hk1⟩ := h
  have hj0 : decide (k < 0) = false := by rw [decide_eq_false_iff_not]; omega
  have hj1 : decide ((l.length : Int) < k) = false := by rw [decide_eq_false_iff_not]; omega
  obtain ⟨a, ha⟩ : ∃ a, atZ l (k - 1) = a := ⟨_, rfl⟩
  obtain ⟨b, hb⟩ : ∃ b, atZ l k = b := ⟨_, rfl⟩
  have HA := hide ha
  have HBB := hide hb
  clear hS ha hb
  go_enter Tryd.func17, Tryd.ntmps17
  go_wp2_with fail
  refine ((unhide CA) _ _ (unhide HS)).mono ?_
  rintro e w1 ⟨rfl, hw⟩
  obtain rfl : _ = w1 := hw.symm
  rw [unhide HA]
  go_wp2_with fail
  refine ((unhide CA) _ _ (unhide HS)).mono ?_
  rintro e w1 ⟨rfl, hw⟩
  obtain rfl : _ = w1 := hw.symm
  rw [unhide HBB]
  go_wp2
  go_ret
  exact ⟨by rw [unhide HBB]; rfl, Below.refl _ _⟩
set_option maxHeartbeats 2000000 in
theorem rholds_2a (hS : SV l A cap w) (h : 0 ≤ k ∧ k ≤ l.length) (hx : atZ l k < 0) :
    Calls Tryd.prog 17 #[.slice A l.length cap, .int .i64 2, .int .i64 k] w (RHoldG true w) := by
  have HS := hide hS
  have CA := hide (fun x W (h : SV l A cap W) => rat_any l A cap x W h)
  have CW := hide (fun x W (h : SV l A cap W) => rword_any l A cap x W h)
  have HSM := hide hS.small
  have hq1 : IntKind.i64.wrap (k - 1) = k - 1 := Rs.wrap_id _ (by omega) (by have := unhide HSM; omega)
  have hq2 : IntKind.i64.wrap (k + 1) = k + 1 := Rs.wrap_id _ (by omega) (by have := unhide HSM; omega)
  obtain ⟨hk0, hk1⟩ := h
  have hj0 : decide (k < 0) = false := by rw [decide_eq_false_iff_not]; omega
  have hj1 : decide ((l.length : Int) < k) = false := by rw [decide_eq_false_iff_not]; omega
  obtain ⟨a, ha⟩ : ∃ a, atZ l (k - 1) = a := ⟨_, rfl⟩
  obtain ⟨b, hb⟩ : ∃ b, atZ l k = b := ⟨_, rfl⟩
  rw [hb] at hx
  have hl : decide (b < 0) = true := decide_eq_true hx
  clear hx
  have HA := hide ha
  have HBB := hide hb
  clear hS ha hb
  go_enter Tryd.func17, Tryd.ntmps17
  go_wp2_with fail
  refine ((unhide CA) _ _ (unhide HS)).mono ?_
  rintro e w1 ⟨rfl, hw⟩
  obtain rfl : _ = w1 := hw.symm
  rw [unhide HA]
  go_wp2_with fail
  refine ((unhide CA) _ _ (unhide HS)).mono ?_
  rintro e w1 ⟨rfl, hw⟩
  obtain rfl : _ = w1 := hw.symm
  rw [unhide HBB]
  go_wp2
  go_ret
  exact ⟨rfl, Below.refl _ _⟩
set_option maxHeartbeats 2000000 in
theorem rholds_2b (hS : SV l A cap w) (h : 0 ≤ k ∧ k ≤ l.length) (hx : ¬ atZ l k < 0) (hy : ¬ atZ l k = 10) :
    Calls Tryd.prog 17 #[.slice A l.length cap, .int .i64 2, .int .i64 k] w (RHoldG false w) := by
  have HS := hide hS
  have CA := hide (fun x W (h : SV l A cap W) => rat_any l A cap x W h)
  have CW := hide (fun x W (h : SV l A cap W) => rword_any l A cap x W h)
  have HSM := hide hS.small
  have hq1 : IntKind.i64.wrap (k - 1) = k - 1 := Rs.wrap_id _ (by omega) (by have := unhide HSM; omega)
  have hq2 : IntKind.i64.wrap (k + 1) = k + 1 := Rs.wrap_id _ (by omega) (by have := unhide HSM; omega)
  obtain ⟨hk0, hk1⟩ := h
  have hj0 : decide (k < 0) = false := by rw [decide_eq_false_iff_not]; omega
  have hj1 : decide ((l.length : Int) < k) = false := by rw [decide_eq_false_iff_not]; omega
  obtain ⟨a, ha⟩ : ∃ a, atZ l (k - 1) = a := ⟨_, rfl⟩
  obtain ⟨b, hb⟩ : ∃ b, atZ l k = b := ⟨_, rfl⟩
  rw [hb] at hx hy
  have hl : decide (b < 0) = false := decide_eq_false hx
  clear hx
  have hf : (b == 10) = false := by rw [beq_eq_false_iff_ne]; exact hy
  clear hy
  have HA := hide ha
  have HBB := hide hb
  clear hS ha hb
  go_enter Tryd.func17, Tryd.ntmps17
  go_wp2_with fail
  refine ((unhide CA) _ _ (unhide HS)).mono ?_
  rintro e w1 ⟨rfl, hw⟩
  obtain rfl : _ = w1 := hw.symm
  rw [unhide HA]
  go_wp2_with fail
  refine ((unhide CA) _ _ (unhide HS)).mono ?_
  rintro e w1 ⟨rfl, hw⟩
  obtain rfl : _ = w1 := hw.symm
  rw [unhide HBB]
  go_wp2
  go_ret
  exact ⟨rfl, Below.refl _ _⟩
set_option maxHeartbeats 2000000 in
theorem rholds_2c (hS : SV l A cap w) (h : 0 ≤ k ∧ k ≤ l.length) (hx : ¬ atZ l k < 0) (hy : atZ l k = 10) :
    Calls Tryd.prog 17 #[.slice A l.length cap, .int .i64 2, .int .i64 k] w (RHoldG (decide (atZ l (k + 1) < 0)) w) := by
  have HS := hide hS
  have CA := hide (fun x W (h : SV l A cap W) => rat_any l A cap x W h)
  have CW := hide (fun x W (h : SV l A cap W) => rword_any l A cap x W h)
  have HSM := hide hS.small
  have hq1 : IntKind.i64.wrap (k - 1) = k - 1 := Rs.wrap_id _ (by omega) (by have := unhide HSM; omega)
  have hq2 : IntKind.i64.wrap (k + 1) = k + 1 := Rs.wrap_id _ (by omega) (by have := unhide HSM; omega)
  obtain ⟨hk0, hk1⟩ := h
  have hj0 : decide (k < 0) = false := by rw [decide_eq_false_iff_not]; omega
  have hj1 : decide ((l.length : Int) < k) = false := by rw [decide_eq_false_iff_not]; omega
  obtain ⟨a, ha⟩ : ∃ a, atZ l (k - 1) = a := ⟨_, rfl⟩
  obtain ⟨b, hb⟩ : ∃ b, atZ l k = b := ⟨_, rfl⟩
  rw [hb] at hx hy
  have hl : decide (b < 0) = false := decide_eq_false hx
  clear hx
  have hf : (b == 10) = true := by rw [beq_iff_eq]; exact hy
  clear hy
  have HA := hide ha
  have HBB := hide hb
  clear hS ha hb
  go_enter Tryd.func17, Tryd.ntmps17
  go_wp2_with fail
  refine ((unhide CA) _ _ (unhide HS)).mono ?_
  rintro e w1 ⟨rfl, hw⟩
  obtain rfl : _ = w1 := hw.symm
  rw [unhide HA]
  go_wp2_with fail
  refine ((unhide CA) _ _ (unhide HS)).mono ?_
  rintro e w1 ⟨rfl, hw⟩
  obtain rfl : _ = w1 := hw.symm
  rw [unhide HBB]
  go_wp2_with fail
  refine ((unhide CA) _ _ (unhide HS)).mono ?_
  rintro e w1 ⟨rfl, hw⟩
  obtain rfl : _ = w1 := hw.symm
  go_wp2
  go_ret
  exact ⟨rfl, Below.refl _ _⟩
set_option maxHeartbeats 2000000 in
theorem rholds_4a (hS : SV l A cap w) (h : 0 ≤ k ∧ k ≤ l.length) (hx : atZ l (k - 1) < 0) :
    Calls Tryd.prog 17 #[.slice A l.length cap, .int .i64 4, .int .i64 k] w (RHoldG true w) := by
  have HS := hide hS
  have CA := hide (fun x W (h : SV l A cap W) => rat_any l A cap x W h)
  have CW := hide (fun x W (h : SV l A cap W) => rword_any l A cap x W h)
  have HSM := hide hS.small
  have hq1 : IntKind.i64.wrap (k - 1) = k - 1 := Rs.wrap_id _ (by omega) (by have := unhide HSM; omega)
  have hq2 : IntKind.i64.wrap (k + 1) = k + 1 := Rs.wrap_id _ (by omega) (by have := unhide HSM; omega)
  obtain ⟨hk0, hk1⟩ := h
  have hj0 : decide (k < 0) = false := by rw [decide_eq_false_iff_not]; omega
  have hj1 : decide ((l.length : Int) < k) = false := by rw [decide_eq_false_iff_not]; omega
  obtain ⟨a, ha⟩ : ∃ a, atZ l (k - 1) = a := ⟨_, rfl⟩
  obtain ⟨b, hb⟩ : ∃ b, atZ l k = b := ⟨_, rfl⟩
  rw [ha] at hx
  have hl : decide (a < 0) = true := decide_eq_true hx
  clear hx
  have HA := hide ha
  have HBB := hide hb
  clear hS ha hb
  go_enter Tryd.func17, Tryd.ntmps17
  go_wp2_with fail
  refine ((unhide CA) _ _ (unhide HS)).mono ?_
  rintro e w1 ⟨rfl, hw⟩
  obtain rfl : _ = w1 := hw.symm
  rw [unhide HA]
  go_wp2_with fail
  refine ((unhide CA) _ _ (unhide HS)).mono ?_
  rintro e w1 ⟨rfl, hw⟩
  obtain rfl : _ = w1 := hw.symm
  rw [unhide HBB]
  go_wp2
  go_ret
  exact ⟨rfl, Below.refl _ _⟩
set_option maxHeartbeats 2000000 in
theorem rholds_4b (hS : SV l A cap w) (h : 0 ≤ k ∧ k ≤ l.length) (hx : ¬ atZ l (k - 1) < 0) :
    Calls Tryd.prog 17 #[.slice A l.length cap, .int .i64 4, .int .i64 k] w (RHoldG (atZ l (k - 1) == 10) w) := by
  have HS := hide hS
  have CA := hide (fun x W (h : SV l A cap W) => rat_any l A cap x W h)
  have CW := hide (fun x W (h : SV l A cap W) => rword_any l A cap x W h)
  have HSM := hide hS.small
  have hq1 : IntKind.i64.wrap (k - 1) = k - 1 := Rs.wrap_id _ (by omega) (by have := unhide HSM; omega)
  have hq2 : IntKind.i64.wrap (k + 1) = k + 1 := Rs.wrap_id _ (by omega) (by have := unhide HSM; omega)
  obtain ⟨hk0, hk1⟩ := h
  have hj0 : decide (k < 0) = false := by rw [decide_eq_false_iff_not]; omega
  have hj1 : decide ((l.length : Int) < k) = false := by rw [decide_eq_false_iff_not]; omega
  obtain ⟨a, ha⟩ : ∃ a, atZ l (k - 1) = a := ⟨_, rfl⟩
  obtain ⟨b, hb⟩ : ∃ b, atZ l k = b := ⟨_, rfl⟩
  rw [ha] at hx
  have hl : decide (a < 0) = false := decide_eq_false hx
  clear hx
  have HA := hide ha
  have HBB := hide hb
  clear hS ha hb
  go_enter Tryd.func17, Tryd.ntmps17
  go_wp2_with fail
  refine ((unhide CA) _ _ (unhide HS)).mono ?_
  rintro e w1 ⟨rfl, hw⟩
  obtain rfl : _ = w1 := hw.symm
  rw [unhide HA]
  go_wp2_with fail
  refine ((unhide CA) _ _ (unhide HS)).mono ?_
  rintro e w1 ⟨rfl, hw⟩
  obtain rfl : _ = w1 := hw.symm
  rw [unhide HBB]
  go_wp2
  go_ret
  exact ⟨by rw [unhide HA]; rfl, Below.refl _ _⟩
set_option maxHeartbeats 2000000 in
theorem rholds_5a (hS : SV l A cap w) (h : 0 ≤ k ∧ k ≤ l.length) (hx : atZ l k < 0) :
    Calls Tryd.prog 17 #[.slice A l.length cap, .int .i64 5, .int .i64 k] w (RHoldG true w) := by
  have HS := hide hS
  have CA := hide (fun x W (h : SV l A cap W) => rat_any l A cap x W h)
  have CW := hide (fun x W (h : SV l A cap W) => rword_any l A cap x W h)
  have HSM := hide hS.small
  have hq1 : IntKind.i64.wrap (k - 1) = k - 1 := Rs.wrap_id _ (by omega) (by have := unhide HSM; omega)
  have hq2 : IntKind.i64.wrap (k + 1) = k + 1 := Rs.wrap_id _ (by omega) (by have := unhide HSM; omega)
  obtain ⟨hk0, hk1⟩ := h
  have hj0 : decide (k < 0) = false := by rw [decide_eq_false_iff_not]; omega
  have hj1 : decide ((l.length : Int) < k) = false := by rw [decide_eq_false_iff_not]; omega
  obtain ⟨a, ha⟩ : ∃ a, atZ l (k - 1) = a := ⟨_, rfl⟩
  obtain ⟨b, hb⟩ : ∃ b, atZ l k = b := ⟨_, rfl⟩
  rw [hb] at hx
  have hl : decide (b < 0) = true := decide_eq_true hx
  clear hx
  have HA := hide ha
  have HBB := hide hb
  clear hS ha hb
  go_enter Tryd.func17, Tryd.ntmps17
  go_wp2_with fail
  refine ((unhide CA) _ _ (unhide HS)).mono ?_
  rintro e w1 ⟨rfl, hw⟩
  obtain rfl : _ = w1 := hw.symm
  rw [unhide HA]
  go_wp2_with fail
  refine ((unhide CA) _ _ (unhide HS)).mono ?_
  rintro e w1 ⟨rfl, hw⟩
  obtain rfl : _ = w1 := hw.symm
  rw [unhide HBB]
  go_wp2
  go_ret
  exact ⟨rfl, Below.refl _ _⟩
set_option maxHeartbeats 2000000 in
theorem rholds_5b (hS : SV l A cap w) (h : 0 ≤ k ∧ k ≤ l.length) (hx : ¬ atZ l k < 0) :
    Calls Tryd.prog 17 #[.slice A l.length cap, .int .i64 5, .int .i64 k] w (RHoldG (atZ l k == 10) w) := by
  have HS := hide hS
  have CA := hide (fun x W (h : SV l A cap W) => rat_any l A cap x W h)
  have CW := hide (fun x W (h : SV l A cap W) => rword_any l A cap x W h)
  have HSM := hide hS.small
  have hq1 : IntKind.i64.wrap (k - 1) = k - 1 := Rs.wrap_id _ (by omega) (by have := unhide HSM; omega)
  have hq2 : IntKind.i64.wrap (k + 1) = k + 1 := Rs.wrap_id _ (by omega) (by have := unhide HSM; omega)
  obtain ⟨hk0, hk1⟩ := h
  have hj0 : decide (k < 0) = false := by rw [decide_eq_false_iff_not]; omega
  have hj1 : decide ((l.length : Int) < k) = false := by rw [decide_eq_false_iff_not]; omega
  obtain ⟨a, ha⟩ : ∃ a, atZ l (k - 1) = a := ⟨_, rfl⟩
  obtain ⟨b, hb⟩ : ∃ b, atZ l k = b := ⟨_, rfl⟩
  rw [hb] at hx
  have hl : decide (b < 0) = false := decide_eq_false hx
  clear hx
  have HA := hide ha
  have HBB := hide hb
  clear hS ha hb
  go_enter Tryd.func17, Tryd.ntmps17
  go_wp2_with fail
  refine ((unhide CA) _ _ (unhide HS)).mono ?_
  rintro e w1 ⟨rfl, hw⟩
  obtain rfl : _ = w1 := hw.symm
  rw [unhide HA]
  go_wp2_with fail
  refine ((unhide CA) _ _ (unhide HS)).mono ?_
  rintro e w1 ⟨rfl, hw⟩
  obtain rfl : _ = w1 := hw.symm
  rw [unhide HBB]
  go_wp2
  go_ret
  exact ⟨by rw [unhide HBB]; rfl, Below.refl _ _⟩
set_option maxHeartbeats 2000000 in
theorem rholds_6 (hS : SV l A cap w) (h : 0 ≤ k ∧ k ≤ l.length) :
    Calls Tryd.prog 17 #[.slice A l.length cap, .int .i64 6, .int .i64 k] w (RHoldG (wordZ (atZ l (k - 1)) != wordZ (atZ l k)) w) := by
  have HS := hide hS
  have CA := hide (fun x W (h : SV l A cap W) => rat_any l A cap x W h)
  have CW := hide (fun x W (h : SV l A cap W) => rword_any l A cap x W h)
  have HSM := hide hS.small
  have hq1 : IntKind.i64.wrap (k - 1) = k - 1 := Rs.wrap_id _ (by omega) (by have := unhide HSM; omega)
  have hq2 : IntKind.i64.wrap (k + 1) = k + 1 := Rs.wrap_id _ (by omega) (by have := unhide HSM; omega)
  obtain ⟨hk0, hk1⟩ := h
  have hj0 : decide (k < 0) = false := by rw [decide_eq_false_iff_not]; omega
  have hj1 : decide ((l.length : Int) < k) = false := by rw [decide_eq_false_iff_not]; omega
  obtain ⟨a, ha⟩ : ∃ a, atZ l (k - 1) = a := ⟨_, rfl⟩
  obtain ⟨b, hb⟩ : ∃ b, atZ l k = b := ⟨_, rfl⟩
  have HA := hide ha
  have HBB := hide hb
  clear hS ha hb
  go_enter Tryd.func17, Tryd.ntmps17
  go_wp2_with fail
  refine ((unhide CA) _ _ (unhide HS)).mono ?_
  rintro e w1 ⟨rfl, hw⟩
  obtain rfl : _ = w1 := hw.symm
  rw [unhide HA]
  go_wp2_with fail
  refine ((unhide CA) _ _ (unhide HS)).mono ?_
  rintro e w1 ⟨rfl, hw⟩
  obtain rfl : _ = w1 := hw.symm
  rw [unhide HBB]
  go_wp2_with fail
  refine ((unhide CW) _ _ (unhide HS)).mono ?_
  rintro e w2 ⟨rfl, hB⟩
  have HS2 := hide ((unhide HS).below hB)
  have HB1 := hide hB
  clear hB HS
  rw [unhide HA]
  go_wp2_with fail
  refine ((unhide CW) _ _ (unhide HS2)).mono ?_
  rintro e w3 ⟨rfl, hB⟩
  have HB2 := hide ((unhide HB1).trans (hB.mono (unhide HB1).size))
  clear hB HS2 HB1
  rw [unhide HBB]
  go_wp2
  go_ret
  exact ⟨by rw [unhide HA, unhide HBB]; rfl, unhide HB2⟩
set_option maxHeartbeats 2000000 in
theorem rholds_7 (hS : SV l A cap w) (h : 0 ≤ k ∧ k ≤ l.length) :
    Calls Tryd.prog 17 #[.slice A l.length cap, .int .i64 7, .int .i64 k] w (RHoldG (wordZ (atZ l (k - 1)) == wordZ (atZ l k)) w) := by
  have HS := hide hS
  have CA := hide (fun x W (h : SV l A cap W) => rat_any l A cap x W h)
  have CW := hide (fun x W (h : SV l A cap W) => rword_any l A cap x W h)
  have HSM := hide hS.small
  have hq1 : IntKind.i64.wrap (k - 1) = k - 1 := Rs.wrap_id _ (by omega) (by have := unhide HSM; omega)
  have hq2 : IntKind.i64.wrap (k + 1) = k + 1 := Rs.wrap_id _ (by omega) (by have := unhide HSM; omega)
  obtain ⟨hk0, hk1⟩ := h
  have hj0 : decide (k < 0) = false := by rw [decide_eq_false_iff_not]; omega
  have hj1 : decide ((l.length : Int) < k) = false := by rw [decide_eq_false_iff_not]; omega
  obtain ⟨a, ha⟩ : ∃ a, atZ l (k - 1) = a := ⟨_, rfl⟩
  obtain ⟨b, hb⟩ : ∃ b, atZ l k = b := ⟨_, rfl⟩
  have HA := hide ha
  have HBB := hide hb
  clear hS ha hb
  go_enter Tryd.func17, Tryd.ntmps17
  go_wp2_with fail
  refine ((unhide CA) _ _ (unhide HS)).mono ?_
  rintro e w1 ⟨rfl, hw⟩
  obtain rfl : _ = w1 := hw.symm
  rw [unhide HA]
  go_wp2_with fail
  refine ((unhide CA) _ _ (unhide HS)).mono ?_
  rintro e w1 ⟨rfl, hw⟩
  obtain rfl : _ = w1 := hw.symm
  rw [unhide HBB]
  go_wp2_with fail
  refine ((unhide CW) _ _ (unhide HS)).mono ?_
  rintro e w2 ⟨rfl, hB⟩
  have HS2 := hide ((unhide HS).below hB)
  have HB1 := hide hB
  clear hB HS
  rw [unhide HA]
  go_wp2_with fail
  refine ((unhide CW) _ _ (unhide HS2)).mono ?_
  rintro e w3 ⟨rfl, hB⟩
  have HB2 := hide ((unhide HB1).trans (hB.mono (unhide HB1).size))
  clear hB HS2 HB1
  rw [unhide HBB]
  go_wp2
  go_ret
  exact ⟨by rw [unhide HA, unhide HBB]; rfl, unhide HB2⟩
set_option maxHeartbeats 2000000 in
theorem rholds_no (hS : SV l A cap w) (h : 0 ≤ k ∧ k ≤ l.length) {what : Int} (hn : ¬ (1 ≤ what ∧ what ≤ 7)) :
    Calls Tryd.prog 17 #[.slice A l.length cap, .int .i64 what, .int .i64 k] w (RHoldG false w) := by
  have HS := hide hS
  have CA := hide (fun x W (h : SV l A cap W) => rat_any l A cap x W h)
  have CW := hide (fun x W (h : SV l A cap W) => rword_any l A cap x W h)
  have HSM := hide hS.small
  have hq1 : IntKind.i64.wrap (k - 1) = k - 1 := Rs.wrap_id _ (by omega) (by have := unhide HSM; omega)
  have hq2 : IntKind.i64.wrap (k + 1) = k + 1 := Rs.wrap_id _ (by omega) (by have := unhide HSM; omega)
  obtain ⟨hk0, hk1⟩ := h
  have hj0 : decide (k < 0) = false := by rw [decide_eq_false_iff_not]; omega
  have hj1 : decide ((l.length : Int) < k) = false := by rw [decide_eq_false_iff_not]; omega
  obtain ⟨a, ha⟩ : ∃ a, atZ l (k - 1) = a := ⟨_, rfl⟩
  obtain ⟨b, hb⟩ : ∃ b, atZ l k = b := ⟨_, rfl⟩
  have n1 : (what == 1) = false := by rw [beq_eq_false_iff_ne]; omega
  have n2 : (what == 2) = false := by rw [beq_eq_false_iff_ne]; omega
  have n3 : (what == 3) = false := by rw [beq_eq_false_iff_ne]; omega
  have n4 : (what == 4) = false := by rw [beq_eq_false_iff_ne]; omega
  have n5 : (what == 5) = false := by rw [beq_eq_false_iff_ne]; omega
  have n6 : (what == 6) = false := by rw [beq_eq_false_iff_ne]; omega
  have n7 : (what == 7) = false := by rw [beq_eq_false_iff_ne]; omega
  clear hn
  have HA := hide ha
  have HBB := hide hb
  clear hS ha hb
  go_enter Tryd.func17, Tryd.ntmps17
  go_wp2_with fail
  refine ((unhide CA) _ _ (unhide HS)).mono ?_
  rintro e w1 ⟨rfl, hw⟩
  obtain rfl : _ = w1 := hw.symm
  rw [unhide HA]
  go_wp2_with fail
  refine ((unhide CA) _ _ (unhide HS)).mono ?_
  rintro e w1 ⟨rfl, hw⟩
  obtain rfl : _ = w1 := hw.symm
  rw [unhide HBB]
  go_wp2
  go_ret
  exact ⟨rfl, Below.refl _ _⟩
set_option maxHeartbeats 1000000 in
theorem rholds_neg {what : Int} {n : Nat} (h : k < 0) : Calls Tryd.prog 17 #[.slice A n cap, .int .i64 what, .int .i64 k] w (RHoldG false w) := by
  have hj0 : decide (k < 0) = true := decide_eq_true h
  clear h
  go_enter Tryd.func17, Tryd.ntmps17
  go_wp2
  go_ret
  exact ⟨rfl, Below.refl _ _⟩
set_option maxHeartbeats 1000000 in
theorem rholds_big {what : Int} {n : Nat} (h : 0 ≤ k ∧ (n : Int) < k) : Calls Tryd.prog 17 #[.slice A n cap, .int .i64 what, .int .i64 k] w (RHoldG false w) := by
  have hj0 : decide (k < 0) = false := by rw [decide_eq_false_iff_not]; omega
  have hj1 : decide ((n : Int) < k) = true := decide_eq_true h.2
  clear h
  go_enter Tryd.func17, Tryd.ntmps17
  go_wp2
  go_ret
  exact ⟨rfl, Below.refl _ _⟩
theorem rhold_any (what : Int) (hS : SV l A cap w) : Calls Tryd.prog 17 #[.slice A l.length cap, .int .i64 what, .int .i64 k] w (RHoldG (holdZ l what k) w) := by
  by_cases h : 0 ≤ k ∧ k ≤ l.length
  · by_cases hn : 1 ≤ what ∧ what ≤ 7
    · have hc : what = 1 ∨ what = 2 ∨ what = 3 ∨ what = 4 ∨ what = 5 ∨ what = 6 ∨ what = 7 := by omega
      have hL := left_lt hS.sm h
      have hR := right_lt hS.sm h
      rcases hc with rfl | rfl | rfl | rfl | rfl | rfl | rfl
      · rw [hold1 h, ← hL]; exact rholds_1 hS h
      · rw [hold2 h, ← hR]
        by_cases hx : atZ l k < 0
        · rw [decide_eq_true hx]; exact rholds_2a hS h hx
        · rw [decide_eq_false hx, ← next_lt hS.sm h hx]
          by_cases hy : atZ l k = 10
          · rw [show (atZ l k == 10) = true by rw [beq_iff_eq]; exact hy, Bool.and_true, Bool.false_or]; exact rholds_2c hS h hx hy
          · rw [show (atZ l k == 10) = false by rw [beq_eq_false_iff_ne]; exact hy, Bool.and_false]; exact rholds_2b hS h hx hy
      · rw [hold3 h, ← hR]; exact rholds_3 hS h
      · rw [hold4 h, ← hL]
        by_cases hx : atZ l (k - 1) < 0
        · rw [decide_eq_true hx]; exact rholds_4a hS h hx
        · rw [decide_eq_false hx]; exact rholds_4b hS h hx
      · rw [hold5 h, ← hR]
        by_cases hx : atZ l k < 0
        · rw [decide_eq_true hx]; exact rholds_5a hS h hx
        · rw [decide_eq_false hx]; exact rholds_5b hS h hx
      · rw [hold6 h]; exact rholds_6 hS h
      · rw [hold7 h]; exact rholds_7 hS h
    · rw [hold_no hn]; exact rholds_no hS h hn
  · rw [hold_out h]
    by_cases h0 : k < 0
    · exact rholds_neg h0
    · exact rholds_big (by omega)
end Go.Proofs.YtdeaaidbmneplaaDoor.Tx
