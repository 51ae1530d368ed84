/-
  A text's small methods, walked (Len, has, At), and the reference's At.
-/
import Derived.Test.YtdeaaidbmneplaaDoorMPuB
import Derived.Test.YtdeaaidbmneplaaDoorMRsMem
import Derived.IntWalk
import Derived.LoopTactic
set_option linter.unusedSimpArgs false
set_option linter.unusedVariables false
namespace Go.Proofs.YtdeaaidbmneplaaDoor.Tx
open Go.RowKit Go.Proofs.YtdeaaidbmneplaaDoor.Mem
structure SV (l : List Int) (A : Option Addr) (cap : Nat) (w : World) : Prop where
  room : l.length ≤ cap
  top : cap ≤ 9223372036854775807
  small : l.length ≤ 100000
  sm : Sm l
  reads : Reads w w.heap.size 1 A l.length (l.map Mem.i64)
theorem SV.below {l : List Int} {A : Option Addr} {cap : Nat} {w w' : World} (h : SV l A cap w) (hb : Below w.heap.size w w') : SV l A cap w' := ⟨h.room, h.top, h.small, h.sm, (h.reads.below hb).more hb.size⟩
theorem SV.drew {l : List Int} {A : Option Addr} {cap : Nat} {w : World} (h : SV l A cap w) : SV l A cap w.drew := ⟨h.room, h.top, h.small, h.sm, h.reads⟩
theorem ret_b {a b : Bool} (h : a = b) : Ending.returned (.bool a) = .returned (.bool b) := by rw [h]
theorem ret_i {a b : Int} (h : a = b) : Ending.returned (.int .i64 a) = .returned (.int .i64 b) := by rw [h]
theorem below_box (w : World) (o : Obj) : Below w.heap.size w (w.alloc o) := (Below.refl _ _).alloc (Nat.le_refl _) _
set_option maxHeartbeats 1000000 in
theorem len_any (A : Option Addr) (n cap : Nat) (w : World) : Calls Tryd.prog 12 #[.agg #[.slice A n cap]] w fun e w' => e = .returned (.int .i64 (n : Int)) ∧ Below w.heap.size w w' := by
  go_enter Tryd.func12, Tryd.ntmps12
  go_wp2
  go_ret
  exact ⟨rfl, below_box _ _⟩
set_option maxHeartbeats 1000000 in
theorem has_any (A : Option Addr) (n cap : Nat) (k : Int) (w : World) : Calls Tryd.prog 25 #[.agg #[.slice A n cap], .int .i64 k] w fun e w' => e = .returned (.bool (decide (0 ≤ k ∧ k ≤ n))) ∧ Below w.heap.size w w' := by
  by_cases h0 : 0 ≤ k
  · have HE := hide (show decide (k ≤ (n : Int)) = decide (0 ≤ k ∧ k ≤ n) by simp [h0])
    have C := hide (len_any A n cap)
    go_enter Tryd.func25, Tryd.ntmps25
    go_wp2_with fail
    refine ((unhide C) _).mono ?_
    rintro e w1 ⟨rfl, hB⟩
    have HB := hide ((below_box w (.cells #[.slice A n cap] 26)).trans (hB.mono (below_box _ _).size))
    clear hB C
    go_wp2
    go_ret
    exact ⟨ret_b (unhide HE), unhide HB⟩
  · have HE := hide (show false = decide (0 ≤ k ∧ k ≤ n) by simp [h0])
    have h1 : k < 0 := by omega
    clear h0
    go_enter Tryd.func25, Tryd.ntmps25
    go_wp2
    go_ret
    exact ⟨ret_b (by rw [← Bool.decide_and]; exact unhide HE), below_box _ _⟩
set_option maxHeartbeats 1000000 in
theorem at_any (l : List Int) (A : Option Addr) (cap : Nat) (k : Int) (w : World) (hS : SV l A cap w) : Calls Tryd.prog 13 #[.agg #[.slice A l.length cap], .int .i64 k] w fun e w' => e = .returned (.int .i64 (atZ l k)) ∧ Below w.heap.size w w' := by
  by_cases h0 : k < 0
  · have HE := hide (atZ_out (l := l) (.inl h0)).symm
    clear hS
    go_enter Tryd.func13, Tryd.ntmps13
    go_wp2
    go_ret
    exact ⟨ret_i (unhide HE), below_box _ _⟩
  · have C := hide (len_any A l.length cap)
    by_cases h1 : (l.length : Int) ≤ k
    · have HE := hide (atZ_out (.inr h1)).symm
      have h2 : 0 ≤ k := by omega
      clear hS h0
      go_enter Tryd.func13, Tryd.ntmps13
      go_wp2_with fail
      refine ((unhide C) _).mono ?_
      rintro e w1 ⟨rfl, hB⟩
      have HB := hide ((below_box w (.cells #[.slice A l.length cap] 26)).trans (hB.mono (below_box _ _).size))
      clear hB C
      go_wp2
      go_ret
      exact ⟨ret_i (unhide HE), unhide HB⟩
    · obtain ⟨j, rfl⟩ : ∃ j : Nat, k = (j : Int) := ⟨k.toNat, by omega⟩
      have hj : j < l.length := by omega
      have hx := List.getElem?_eq_getElem hj
      obtain ⟨x, hx2⟩ : ∃ x, l[j] = x := ⟨_, rfl⟩
      rw [hx2] at hx
      have HE := hide (atZ_in hx).symm
      obtain ⟨b, off, rfl, hb, hc⟩ := hS.reads.flat (by omega)
      have hc0 := hc j (.int .i64 x) (by rw [List.getElem?_map, hx]; rfl)
      have hlc := hS.room
      have htop := hS.top
      have HC0 := hide hc0
      have HLB := hide hb
      clear hS hc hc0 hx hx2 h0 hb
      generalize l.length = n at *
      go_enter Tryd.func13, Tryd.ntmps13
      go_wp2_with fail
      refine ((unhide C) _).mono ?_
      rintro e w1 ⟨rfl, hB⟩
      have hB2 := (below_box w (.cells #[.slice (some ⟨b, off, none⟩) n cap] 26)).trans (hB.mono (below_box _ _).size)
      have c1 := (hB2.cell (p := ⟨b, off + j, none⟩) (unhide HLB)).trans (unhide HC0)
      have hk := (Blk.new w 26 #[.slice (some ⟨b, off, none⟩) n cap]).below hB (by simp)
      have c2 := hk.cell 0
      have HB := hide hB2
      clear hB C hB2 hk
      go_wp2
      go_ret
      exact ⟨ret_i (unhide HE), unhide HB⟩
set_option maxHeartbeats 1000000 in
theorem rat_any (l : List Int) (A : Option Addr) (cap : Nat) (k : Int) (w : World) (hS : SV l A cap w) : Calls Tryd.prog 14 #[.slice A l.length cap, .int .i64 k] w fun e w' => e = .returned (.int .i64 (atZ l k)) ∧ w' = w := by
  by_cases h0 : k < 0
  · have HE := hide (atZ_out (l := l) (.inl h0)).symm
    clear hS
    go_enter Tryd.func14, Tryd.ntmps14
    go_wp2
    go_ret
    exact ⟨ret_i (unhide HE), rfl⟩
  · by_cases h1 : (l.length : Int) ≤ k
    · have HE := hide (atZ_out (.inr h1)).symm
      have h2 : 0 ≤ k := by omega
      clear hS h0
      go_enter Tryd.func14, Tryd.ntmps14
      go_wp2
      go_ret
      exact ⟨ret_i (unhide HE), rfl⟩
    · obtain ⟨j, rfl⟩ : ∃ j : Nat, k = (j : Int) := ⟨k.toNat, by omega⟩
      have hj : j < l.length := by omega
      have hx := List.getElem?_eq_getElem hj
      obtain ⟨x, hx2⟩ : ∃ x, l[j] = x := ⟨_, rfl⟩
      rw [hx2] at hx
      have HE := hide (atZ_in hx).symm
      obtain ⟨b, off, rfl, hb, hc⟩ := hS.reads.flat (by omega)
      have hc0 := hc j (.int .i64 x) (by rw [List.getElem?_map, hx]; rfl)
      have hlc := hS.room
      have htop := hS.top
      clear hS hc hx hx2 h0 hb
      generalize l.length = n at *
      go_enter Tryd.func14, Tryd.ntmps14
      go_wp2
      go_ret
      exact ⟨ret_i (unhide HE), rfl⟩
end Go.Proofs.YtdeaaidbmneplaaDoor.Tx
