/-
  What holds at a place of a text (Text.Hold), walked.
-/
import Derived.Test.YtdeaaidbmneplaaDoorMTxEdge
set_option linter.unusedSimpArgs false
set_option linter.unusedVariables false
namespace Go.Proofs.YtdeaaidbmneplaaDoor.Tx
open Go.RowKit Go.Proofs.YtdeaaidbmneplaaDoor.Mem
attribute [local go_sem] Go.Proofs.YtdeaaidbmneplaaDoor.Rs.run_not_true Go.Proofs.YtdeaaidbmneplaaDoor.Rs.run_not_false
variable {l : List Int} {A : Option Addr} {cap : Nat} {k : Int} {w : World}
def HoldG (b : Bool) (w : World) (e : Ending) (w' : World) : Prop := e = .returned (.bool b) ∧ Below w.heap.size w w'
theorem has_t (h : 0 ≤ k ∧ k ≤ l.length) (W : World) : Calls Tryd.prog 25 #[.agg #[.slice A l.length cap], .int .i64 k] W fun e w' => e = .returned (.bool true) ∧ Below W.heap.size W w' := by
  have := has_any A l.length cap k W
  rwa [decide_eq_true h] at this
set_option maxHeartbeats 2000000 in
theorem holds_1 (hS : SV l A cap w) (hT : Tl w) (h : 0 ≤ k ∧ k ≤ l.length) :
    Calls Tryd.prog 16 #[.agg #[.slice A l.length cap], .int .i64 1, .int .i64 k] w (HoldG (k == 0) w) := by
  have HS := hide (EB.new hS hT)
  have CH := hide (has_t (A := A) (cap := cap) h)
  have CL := hide (len_any A l.length cap)
  have CA := hide (fun W x (h : EB l A cap w W) => (at_any l A cap x W h.sv).mono (R' := fun e w' => e = .returned (.int .i64 (atZ l x)) ∧ EB l A cap w w') fun e w' h2 => ⟨h2.1, h.below h2.2⟩)
  have HSM := hide hS.small
  obtain ⟨hk0, hk1⟩ := h
  clear hS hT
  go_enter Tryd.func16, Tryd.ntmps16
  go_wp2_with fail
  generalize w.alloc (.cells #[.slice A l.length cap] 26) = X at *
  refine ((unhide CH) _).mono ?_
  rintro e w1 ⟨rfl, hB⟩
  have HS1 := hide ((unhide HS).below hB)
  have c1 := (unhide HS1).box.cell 0
  clear hB HS CH
  go_wp2
  go_ret
  exact ⟨rfl, (unhide HS1).bel⟩
set_option maxHeartbeats 2000000 in
theorem holds_3 (hS : SV l A cap w) (hT : Tl w) (h : 0 ≤ k ∧ k ≤ l.length) :
    Calls Tryd.prog 16 #[.agg #[.slice A l.length cap], .int .i64 3, .int .i64 k] w (HoldG (k == (l.length : Int)) w) := by
  have HS := hide (EB.new hS hT)
  have CH := hide (has_t (A := A) (cap := cap) h)
  have CL := hide (len_any A l.length cap)
  have CA := hide (fun W x (h : EB l A cap w W) => (at_any l A cap x W h.sv).mono (R' := fun e w' => e = .returned (.int .i64 (atZ l x)) ∧ EB l A cap w w') fun e w' h2 => ⟨h2.1, h.below h2.2⟩)
  have HSM := hide hS.small
  obtain ⟨hk0, hk1⟩ := h
  clear hS hT
  go_enter Tryd.func16, Tryd.ntmps16
  go_wp2_with fail
  generalize w.alloc (.cells #[.slice A l.length cap] 26) = X at *
  refine ((unhide CH) _).mono ?_
  rintro e w1 ⟨rfl, hB⟩
  have HS1 := hide ((unhide HS).below hB)
  have c1 := (unhide HS1).box.cell 0
  clear hB HS CH
  go_wp2_with fail
  refine ((unhide CL) _).mono ?_
  rintro e w2 ⟨rfl, hB⟩
  have HS2 := hide ((unhide HS1).below hB)
  have c2 := (unhide HS2).box.cell 0
  clear hB HS1 c1
  go_wp2
  go_ret
  exact ⟨rfl, (unhide HS2).bel⟩
set_option maxHeartbeats 2000000 in
theorem holds_2a (hS : SV l A cap w) (hT : Tl w) (h : 0 ≤ k ∧ k ≤ l.length) (hx : k = l.length) :
    Calls Tryd.prog 16 #[.agg #[.slice A l.length cap], .int .i64 2, .int .i64 k] w (HoldG true w) := by
  have HS := hide (EB.new hS hT)
  have CH := hide (has_t (A := A) (cap := cap) h)
  have CL := hide (len_any A l.length cap)
  have CA := hide (fun W x (h : EB l A cap w W) => (at_any l A cap x W h.sv).mono (R' := fun e w' => e = .returned (.int .i64 (atZ l x)) ∧ EB l A cap w w') fun e w' h2 => ⟨h2.1, h.below h2.2⟩)
  have HSM := hide hS.small
  obtain ⟨hk0, hk1⟩ := h
  have he : (k == (l.length : Int)) = true := by rw [beq_iff_eq]; exact hx
  clear hx
  clear hS hT
  go_enter Tryd.func16, Tryd.ntmps16
  go_wp2_with fail
  generalize w.alloc (.cells #[.slice A l.length cap] 26) = X at *
  refine ((unhide CH) _).mono ?_
  rintro e w1 ⟨rfl, hB⟩
  have HS1 := hide ((unhide HS).below hB)
  have c1 := (unhide HS1).box.cell 0
  clear hB HS CH
  go_wp2_with fail
  refine ((unhide CL) _).mono ?_
  rintro e w2 ⟨rfl, hB⟩
  have HS2 := hide ((unhide HS1).below hB)
  have c2 := (unhide HS2).box.cell 0
  clear hB HS1 c1
  go_wp2
  go_ret
  exact ⟨rfl, (unhide HS2).bel⟩
set_option maxHeartbeats 2000000 in
theorem holds_2b (hS : SV l A cap w) (hT : Tl w) (h : 0 ≤ k ∧ k ≤ l.length) (hx : ¬ k = l.length) (hy : ¬ k = (l.length : Int) - 1) :
    Calls Tryd.prog 16 #[.agg #[.slice A l.length cap], .int .i64 2, .int .i64 k] w (HoldG false w) := by
  have HS := hide (EB.new hS hT)
  have CH := hide (has_t (A := A) (cap := cap) h)
  have CL := hide (len_any A l.length cap)
  have CA := hide (fun W x (h : EB l A cap w W) => (at_any l A cap x W h.sv).mono (R' := fun e w' => e = .returned (.int .i64 (atZ l x)) ∧ EB l A cap w w') fun e w' h2 => ⟨h2.1, h.below h2.2⟩)
  have HSM := hide hS.small
  obtain ⟨hk0, hk1⟩ := h
  have he : (k == (l.length : Int)) = false := by rw [beq_eq_false_iff_ne]; exact hx
  clear hx
  have hwr : IntKind.i64.wrap ((l.length : Int) - 1) = (l.length : Int) - 1 := Rs.wrap_id _ (by omega) (by have := unhide HSM; omega)
  have hf : (k == (l.length : Int) - 1) = false := by rw [beq_eq_false_iff_ne]; exact hy
  clear hy
  clear hS hT
  go_enter Tryd.func16, Tryd.ntmps16
  go_wp2_with fail
  generalize w.alloc (.cells #[.slice A l.length cap] 26) = X at *
  refine ((unhide CH) _).mono ?_
  rintro e w1 ⟨rfl, hB⟩
  have HS1 := hide ((unhide HS).below hB)
  have c1 := (unhide HS1).box.cell 0
  clear hB HS CH
  go_wp2_with fail
  refine ((unhide CL) _).mono ?_
  rintro e w2 ⟨rfl, hB⟩
  have HS2 := hide ((unhide HS1).below hB)
  have c2 := (unhide HS2).box.cell 0
  clear hB HS1 c1
  go_wp2_with fail
  refine ((unhide CL) _).mono ?_
  rintro e w3 ⟨rfl, hB⟩
  have HS3 := hide ((unhide HS2).below hB)
  have c3 := (unhide HS3).box.cell 0
  clear hB HS2 c2
  go_wp2
  go_ret
  exact ⟨rfl, (unhide HS3).bel⟩
set_option maxHeartbeats 2000000 in
theorem holds_2c (hS : SV l A cap w) (hT : Tl w) (h : 0 ≤ k ∧ k ≤ l.length) (hx : ¬ k = l.length) (hy : k = (l.length : Int) - 1) :
    Calls Tryd.prog 16 #[.agg #[.slice A l.length cap], .int .i64 2, .int .i64 k] w (HoldG (atZ l k == 10) w) := by
  have HS := hide (EB.new hS hT)
  have CH := hide (has_t (A := A) (cap := cap) h)
  have CL := hide (len_any A l.length cap)
  have CA := hide (fun W x (h : EB l A cap w W) => (at_any l A cap x W h.sv).mono (R' := fun e w' => e = .returned (.int .i64 (atZ l x)) ∧ EB l A cap w w') fun e w' h2 => ⟨h2.1, h.below h2.2⟩)
  have HSM := hide hS.small
  obtain ⟨hk0, hk1⟩ := h
  have he : (k == (l.length : Int)) = false := by rw [beq_eq_false_iff_ne]; exact hx
  clear hx
  have hwr : IntKind.i64.wrap ((l.length : Int) - 1) = (l.length : Int) - 1 := Rs.wrap_id _ (by omega) (by have := unhide HSM; omega)
  have hf : (k == (l.length : Int) - 1) = true := by rw [beq_iff_eq]; exact hy
  clear hy
  clear hS hT
  go_enter Tryd.func16, Tryd.ntmps16
  go_wp2_with fail
  generalize w.alloc (.cells #[.slice A l.length cap] 26) = X at *
  refine ((unhide CH) _).mono ?_
  rintro e w1 ⟨rfl, hB⟩
  have HS1 := hide ((unhide HS).below hB)
  have c1 := (unhide HS1).box.cell 0
  clear hB HS CH
  go_wp2_with fail
  refine ((unhide CL) _).mono ?_
  rintro e w2 ⟨rfl, hB⟩
  have HS2 := hide ((unhide HS1).below hB)
  have c2 := (unhide HS2).box.cell 0
  clear hB HS1 c1
  go_wp2_with fail
  refine ((unhide CL) _).mono ?_
  rintro e w3 ⟨rfl, hB⟩
  have HS3 := hide ((unhide HS2).below hB)
  have c3 := (unhide HS3).box.cell 0
  clear hB HS2 c2
  go_wp2_with fail
  refine ((unhide CA) _ _ (unhide HS3)).mono ?_
  rintro e w4 ⟨rfl, hs4⟩
  have HS4 := hide hs4
  have c4 := (unhide HS4).box.cell 0
  clear hs4 HS3 c3
  go_wp2
  go_ret
  exact ⟨rfl, (unhide HS4).bel⟩
set_option maxHeartbeats 2000000 in
theorem holds_4a (hS : SV l A cap w) (hT : Tl w) (h : 0 ≤ k ∧ k ≤ l.length) (hx : k = 0) :
    Calls Tryd.prog 16 #[.agg #[.slice A l.length cap], .int .i64 4, .int .i64 k] w (HoldG true w) := by
  have HS := hide (EB.new hS hT)
  have CH := hide (has_t (A := A) (cap := cap) h)
  have CL := hide (len_any A l.length cap)
  have CA := hide (fun W x (h : EB l A cap w W) => (at_any l A cap x W h.sv).mono (R' := fun e w' => e = .returned (.int .i64 (atZ l x)) ∧ EB l A cap w w') fun e w' h2 => ⟨h2.1, h.below h2.2⟩)
  have HSM := hide hS.small
  obtain ⟨hk0, hk1⟩ := h
  have he : (k == 0) = true := by rw [beq_iff_eq]; exact hx
  clear hx
  clear hS hT
  go_enter Tryd.func16, Tryd.ntmps16
  go_wp2_with fail
  generalize w.alloc (.cells #[.slice A l.length cap] 26) = X at *
  refine ((unhide CH) _).mono ?_
  rintro e w1 ⟨rfl, hB⟩
  have HS1 := hide ((unhide HS).below hB)
  have c1 := (unhide HS1).box.cell 0
  clear hB HS CH
  go_wp2
  go_ret
  exact ⟨rfl, (unhide HS1).bel⟩
set_option maxHeartbeats 2000000 in
theorem holds_4b (hS : SV l A cap w) (hT : Tl w) (h : 0 ≤ k ∧ k ≤ l.length) (hx : ¬ k = 0) :
    Calls Tryd.prog 16 #[.agg #[.slice A l.length cap], .int .i64 4, .int .i64 k] w (HoldG (atZ l (k - 1) == 10) w) := by
  have HS := hide (EB.new hS hT)
  have CH := hide (has_t (A := A) (cap := cap) h)
  have CL := hide (len_any A l.length cap)
  have CA := hide (fun W x (h : EB l A cap w W) => (at_any l A cap x W h.sv).mono (R' := fun e w' => e = .returned (.int .i64 (atZ l x)) ∧ EB l A cap w w') fun e w' h2 => ⟨h2.1, h.below h2.2⟩)
  have HSM := hide hS.small
  obtain ⟨hk0, hk1⟩ := h
  have he : (k == 0) = false := by rw [beq_eq_false_iff_ne]; exact hx
  clear hx
  have hwr : IntKind.i64.wrap (k - 1) = k - 1 := Rs.wrap_id _ (by omega) (by have := unhide HSM; omega)
  clear hS hT
  go_enter Tryd.func16, Tryd.ntmps16
  go_wp2_with fail
  generalize w.alloc (.cells #[.slice A l.length cap] 26) = X at *
  refine ((unhide CH) _).mono ?_
  rintro e w1 ⟨rfl, hB⟩
  have HS1 := hide ((unhide HS).below hB)
  have c1 := (unhide HS1).box.cell 0
  clear hB HS CH
  go_wp2_with fail
  refine ((unhide CA) _ _ (unhide HS1)).mono ?_
  rintro e w2 ⟨rfl, hs2⟩
  have HS2 := hide hs2
  have c2 := (unhide HS2).box.cell 0
  clear hs2 HS1 c1
  go_wp2
  go_ret
  exact ⟨rfl, (unhide HS2).bel⟩
set_option maxHeartbeats 2000000 in
theorem holds_5a (hS : SV l A cap w) (hT : Tl w) (h : 0 ≤ k ∧ k ≤ l.length) (hx : k = l.length) :
    Calls Tryd.prog 16 #[.agg #[.slice A l.length cap], .int .i64 5, .int .i64 k] w (HoldG true w) := by
  have HS := hide (EB.new hS hT)
  have CH := hide (has_t (A := A) (cap := cap) h)
  have CL := hide (len_any A l.length cap)
  have CA := hide (fun W x (h : EB l A cap w W) => (at_any l A cap x W h.sv).mono (R' := fun e w' => e = .returned (.int .i64 (atZ l x)) ∧ EB l A cap w w') fun e w' h2 => ⟨h2.1, h.below h2.2⟩)
  have HSM := hide hS.small
  obtain ⟨hk0, hk1⟩ := h
  have he : (k == (l.length : Int)) = true := by rw [beq_iff_eq]; exact hx
  clear hx
  clear hS hT
  go_enter Tryd.func16, Tryd.ntmps16
  go_wp2_with fail
  generalize w.alloc (.cells #[.slice A l.length cap] 26) = X at *
  refine ((unhide CH) _).mono ?_
  rintro e w1 ⟨rfl, hB⟩
  have HS1 := hide ((unhide HS).below hB)
  have c1 := (unhide HS1).box.cell 0
  clear hB HS CH
  go_wp2_with fail
  refine ((unhide CL) _).mono ?_
  rintro e w2 ⟨rfl, hB⟩
  have HS2 := hide ((unhide HS1).below hB)
  have c2 := (unhide HS2).box.cell 0
  clear hB HS1 c1
  go_wp2
  go_ret
  exact ⟨rfl, (unhide HS2).bel⟩
set_option maxHeartbeats 2000000 in
theorem holds_5b (hS : SV l A cap w) (hT : Tl w) (h : 0 ≤ k ∧ k ≤ l.length) (hx : ¬ k = l.length) :
    Calls Tryd.prog 16 #[.agg #[.slice A l.length cap], .int .i64 5, .int .i64 k] w (HoldG (atZ l k == 10) w) := by
  have HS := hide (EB.new hS hT)
  have CH := hide (has_t (A := A) (cap := cap) h)
  have CL := hide (len_any A l.length cap)
  have CA := hide (fun W x (h : EB l A cap w W) => (at_any l A cap x W h.sv).mono (R' := fun e w' => e = .returned (.int .i64 (atZ l x)) ∧ EB l A cap w w') fun e w' h2 => ⟨h2.1, h.below h2.2⟩)
  have HSM := hide hS.small
  obtain ⟨hk0, hk1⟩ := h
  have he : (k == (l.length : Int)) = false := by rw [beq_eq_false_iff_ne]; exact hx
  clear hx
  clear hS hT
  go_enter Tryd.func16, Tryd.ntmps16
  go_wp2_with fail
  generalize w.alloc (.cells #[.slice A l.length cap] 26) = X at *
  refine ((unhide CH) _).mono ?_
  rintro e w1 ⟨rfl, hB⟩
  have HS1 := hide ((unhide HS).below hB)
  have c1 := (unhide HS1).box.cell 0
  clear hB HS CH
  go_wp2_with fail
  refine ((unhide CL) _).mono ?_
  rintro e w2 ⟨rfl, hB⟩
  have HS2 := hide ((unhide HS1).below hB)
  have c2 := (unhide HS2).box.cell 0
  clear hB HS1 c1
  go_wp2_with fail
  refine ((unhide CA) _ _ (unhide HS2)).mono ?_
  rintro e w3 ⟨rfl, hs3⟩
  have HS3 := hide hs3
  have c3 := (unhide HS3).box.cell 0
  clear hs3 HS2 c2
  go_wp2
  go_ret
  exact ⟨rfl, (unhide HS3).bel⟩
set_option maxHeartbeats 2000000 in
theorem holds_6 (hS : SV l A cap w) (hT : Tl w) (h : 0 ≤ k ∧ k ≤ l.length) :
    Calls Tryd.prog 16 #[.agg #[.slice A l.length cap], .int .i64 6, .int .i64 k] w (HoldG (wordZ (atZ l (k - 1)) != wordZ (atZ l k)) w) := by
  have HS := hide (EB.new hS hT)
  have CH := hide (has_t (A := A) (cap := cap) h)
  have CL := hide (len_any A l.length cap)
  have CA := hide (fun W x (h : EB l A cap w W) => (at_any l A cap x W h.sv).mono (R' := fun e w' => e = .returned (.int .i64 (atZ l x)) ∧ EB l A cap w w') fun e w' h2 => ⟨h2.1, h.below h2.2⟩)
  have HSM := hide hS.small
  obtain ⟨hk0, hk1⟩ := h
  clear hS hT
  go_enter Tryd.func16, Tryd.ntmps16
  go_wp2_with fail
  generalize w.alloc (.cells #[.slice A l.length cap] 26) = X at *
  refine ((unhide CH) _).mono ?_
  rintro e w1 ⟨rfl, hB⟩
  have HS1 := hide ((unhide HS).below hB)
  have c1 := (unhide HS1).box.cell 0
  clear hB HS CH
  go_wp2_with fail
  refine (edge_any l A cap k w1 (unhide HS1).sv (unhide HS1).tl ⟨hk0, by have := unhide HSM; omega⟩).mono ?_
  rintro e w2 ⟨rfl, hB⟩
  have HS2 := hide ((unhide HS1).below hB)
  have c2 := (unhide HS2).box.cell 0
  clear hB HS1 c1
  go_wp2
  go_ret
  exact ⟨rfl, (unhide HS2).bel⟩
set_option maxHeartbeats 2000000 in
theorem holds_7 (hS : SV l A cap w) (hT : Tl w) (h : 0 ≤ k ∧ k ≤ l.length) :
    Calls Tryd.prog 16 #[.agg #[.slice A l.length cap], .int .i64 7, .int .i64 k] w (HoldG (wordZ (atZ l (k - 1)) == wordZ (atZ l k)) w) := by
  have HS := hide (EB.new hS hT)
  have CH := hide (has_t (A := A) (cap := cap) h)
  have CL := hide (len_any A l.length cap)
  have CA := hide (fun W x (h : EB l A cap w W) => (at_any l A cap x W h.sv).mono (R' := fun e w' => e = .returned (.int .i64 (atZ l x)) ∧ EB l A cap w w') fun e w' h2 => ⟨h2.1, h.below h2.2⟩)
  have HSM := hide hS.small
  obtain ⟨hk0, hk1⟩ := h
  have HN := hide (show (!(wordZ (atZ l (k - 1)) != wordZ (atZ l k))) = (wordZ (atZ l (k - 1)) == wordZ (atZ l k)) by cases wordZ (atZ l (k - 1)) <;> cases wordZ (atZ l k) <;> rfl)
  clear hS hT
  go_enter Tryd.func16, Tryd.ntmps16
  go_wp2_with fail
  generalize w.alloc (.cells #[.slice A l.length cap] 26) = X at *
  refine ((unhide CH) _).mono ?_
  rintro e w1 ⟨rfl, hB⟩
  have HS1 := hide ((unhide HS).below hB)
  have c1 := (unhide HS1).box.cell 0
  clear hB HS CH
  go_wp2_with fail
  refine (edge_any l A cap k w1 (unhide HS1).sv (unhide HS1).tl ⟨hk0, by have := unhide HSM; omega⟩).mono ?_
  rintro e w2 ⟨rfl, hB⟩
  have HS2 := hide ((unhide HS1).below hB)
  have c2 := (unhide HS2).box.cell 0
  clear hB HS1 c1
  go_wp2
  go_ret
  exact ⟨ret_b (unhide HN), (unhide HS2).bel⟩
set_option maxHeartbeats 2000000 in
theorem holds_no (hS : SV l A cap w) (hT : Tl w) (h : 0 ≤ k ∧ k ≤ l.length) {what : Int} (hn : ¬ (1 ≤ what ∧ what ≤ 7)) :
    Calls Tryd.prog 16 #[.agg #[.slice A l.length cap], .int .i64 what, .int .i64 k] w (HoldG false w) := by
  have HS := hide (EB.new hS hT)
  have CH := hide (has_t (A := A) (cap := cap) h)
  have CL := hide (len_any A l.length cap)
  have CA := hide (fun W x (h : EB l A cap w W) => (at_any l A cap x W h.sv).mono (R' := fun e w' => e = .returned (.int .i64 (atZ l x)) ∧ EB l A cap w w') fun e w' h2 => ⟨h2.1, h.below h2.2⟩)
  have HSM := hide hS.small
  obtain ⟨hk0, hk1⟩ := h
  have n1 : (what == 1) = false := by rw [beq_eq_false_iff_ne]; omega
  have n2 : (what == 2) = false := by rw [beq_eq_false_iff_ne]; omega
  have n3 : (what == 3) = false := by rw [beq_eq_false_iff_ne]; omega
  have n4 : (what == 4) = false := by rw [beq_eq_false_iff_ne]; omega
  have n5 : (what == 5) = false := by rw [beq_eq_false_iff_ne]; omega
  have n6 : (what == 6) = false := by rw [beq_eq_false_iff_ne]; omega
  have n7 : (what == 7) = false := by rw [beq_eq_false_iff_ne]; omega
  clear hn
  clear hS hT
  go_enter Tryd.func16, Tryd.ntmps16
  go_wp2_with fail
  generalize w.alloc (.cells #[.slice A l.length cap] 26) = X at *
  refine ((unhide CH) _).mono ?_
  rintro e w1 ⟨rfl, hB⟩
  have HS1 := hide ((unhide HS).below hB)
  have c1 := (unhide HS1).box.cell 0
  clear hB HS CH
  go_wp2
  go_ret
  exact ⟨rfl, (unhide HS1).bel⟩
set_option maxHeartbeats 2000000 in
theorem holds_out {what : Int} (hS : SV l A cap w) (hT : Tl w) (h : ¬ (0 ≤ k ∧ k ≤ l.length)) :
    Calls Tryd.prog 16 #[.agg #[.slice A l.length cap], .int .i64 what, .int .i64 k] w (HoldG false w) := by
  have CH := hide (fun W => has_any A l.length cap k W)
  rw [decide_eq_false h] at CH
  clear hS hT h
  go_enter Tryd.func16, Tryd.ntmps16
  go_wp2_with fail
  refine ((unhide CH) _).mono ?_
  rintro e w1 ⟨rfl, hB⟩
  have HB := hide ((below_box w (.cells #[.slice A l.length cap] 26)).trans (hB.mono (below_box _ _).size))
  clear hB CH
  go_wp2
  go_ret
  exact ⟨rfl, unhide HB⟩
theorem hold_any (what : Int) (hS : SV l A cap w) (hT : Tl w) : Calls Tryd.prog 16 #[.agg #[.slice A l.length cap], .int .i64 what, .int .i64 k] w (HoldG (holdZ l what k) w) := by
  by_cases h : 0 ≤ k ∧ k ≤ l.length
  · by_cases hn : 1 ≤ what ∧ what ≤ 7
    · have hc : what = 1 ∨ what = 2 ∨ what = 3 ∨ what = 4 ∨ what = 5 ∨ what = 6 ∨ what = 7 := by omega
      rcases hc with rfl | rfl | rfl | rfl | rfl | rfl | rfl
      · rw [hold1 h]; exact holds_1 hS hT h
      · rw [hold2 h]
        by_cases hx : k = l.length
        · rw [show (k == (l.length : Int)) = true by rw [beq_iff_eq]; exact hx]; exact holds_2a hS hT h hx
        · rw [show (k == (l.length : Int)) = false by rw [beq_eq_false_iff_ne]; exact hx]
          by_cases hy : k = (l.length : Int) - 1
          · rw [show (k == (l.length : Int) - 1) = true by rw [beq_iff_eq]; exact hy]; exact holds_2c hS hT h hx hy
          · rw [show (k == (l.length : Int) - 1) = false by rw [beq_eq_false_iff_ne]; exact hy]; exact holds_2b hS hT h hx hy
      · rw [hold3 h]; exact holds_3 hS hT h
      · rw [hold4 h]
        by_cases hx : k = 0
        · rw [show (k == 0) = true by rw [beq_iff_eq]; exact hx]; exact holds_4a hS hT h hx
        · rw [show (k == 0) = false by rw [beq_eq_false_iff_ne]; exact hx]; exact holds_4b hS hT h hx
      · rw [hold5 h]
        by_cases hx : k = l.length
        · rw [show (k == (l.length : Int)) = true by rw [beq_iff_eq]; exact hx]; exact holds_5a hS hT h hx
        · rw [show (k == (l.length : Int)) = false by rw [beq_eq_false_iff_ne]; exact hx]; exact holds_5b hS hT h hx
      · rw [hold6 h]; exact holds_6 hS hT h
      · rw [hold7 h]; exact holds_7 hS hT h
    · rw [hold_no hn]; exact holds_no hS hT h hn
  · rw [hold_out h]; exact holds_out hS hT h
end Go.Proofs.YtdeaaidbmneplaaDoor.Tx
