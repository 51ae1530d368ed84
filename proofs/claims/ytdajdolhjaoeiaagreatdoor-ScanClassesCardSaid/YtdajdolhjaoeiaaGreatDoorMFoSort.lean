/-
  slices.Sort at a row of the call's own of at most twelve ints: it goes by insertion; walked. Conditions: at least one number, at most twelve.
-/
import Derived.Test.YtdajdolhjaoeiaaGreatDoorMFoB
import Derived.Laws.Slices
set_option linter.unusedVariables false
set_option linter.unusedSimpArgs false
namespace Go.Proofs.YtdajdolhjaoeiaaGreatDoor.Fo
open Go.RowKit Go.Proofs.YtdajdolhjaoeiaaGreatDoor.Mem

set_option maxHeartbeats 400000 in
theorem less_any (x y : Int) (w : World) : Calls Tryz.prog 182 #[.int .i64 x, .int .i64 y] w fun e w' => e = .returned (.bool (decide (x < y))) ∧ w' = w := by
  go_enter Tryz.func182, Tryz.ntmps182
  go_wp2
  go_ret
  exact ⟨rfl, rfl⟩

def SortW (B : Nat) (w0 : World) (cur : List Int) (g n cap : Nat) (W : World) : Prop := W.ownsRow B 3 1 (.slice (some ⟨g, 0, none⟩) n cap) n (cur.map i64) ∧ w0.grownBy W (some g)
theorem SortW.drew {B : Nat} {w0 : World} {cur : List Int} {g n cap : Nat} {W : World} (h : SortW B w0 cur g n cap W) (k : Nat) : SortW B w0 cur g n cap (W.drewN k) := ⟨h.1, only_drewN h.2 k⟩
def ORel (B : Nat) (out : List Int) (g cap : Nat) (w : World) (i : Value) (wr : World) : Prop := ∃ (k : Nat) (cur : List Int), i = .int .i64 k ∧ 1 ≤ k ∧ k ≤ out.length + 1 ∧ cur.Perm out ∧ (cur.take k).Pairwise (· ≤ ·) ∧ SortW B w cur g out.length cap wr
def IRel (B : Nat) (out : List Int) (i g cap : Nat) (w : World) (j : Value) (wr : World) : Prop := ∃ (k : Nat) (cur : List Int), j = .int .i64 k ∧ Ins out i k cur ∧ SortW B w cur g out.length cap wr

set_option maxHeartbeats 4000000 in
set_option maxRecDepth 100000 in
theorem ins_any (B : Nat) (out : List Int) (g cap : Nat) (w : World) (hlen : out.length ≤ 1000000) (h : w.ownsRow B 3 1 (.slice (some ⟨g, 0, none⟩) out.length cap) out.length (out.map i64)) :
    Calls Tryz.prog 176 #[.slice (some ⟨g, 0, none⟩) out.length cap, .int .i64 0, .int .i64 out.length] w fun e w' => e = .returned (.tuple #[]) ∧ ∃ l : List Int, l.Perm out ∧ l.Pairwise (· ≤ ·) ∧ SortW B w l g out.length cap w' := by
  have H0 := hide (show SortW B w out g out.length cap w from ⟨h, World.grownBy.refl w _⟩)
  clear h
  go_enter Tryz.func176, Tryz.ntmps176
  go_wp2
  go_loopw [6] (fun i wr => ORel B out g cap w i wr) (fun i _ => out.length + 1 - (intOf i).toNat)
  case atStart => exact ⟨1, out, rfl, by omega, by omega, List.Perm.refl _, pw_one out, unhide H0⟩
  case round =>
    obtain ⟨m, cur, rfl, hm1, hm2, hperm, hsort, hcut⟩ := hrel
    have hcl := hperm.length_eq
    by_cases hmt : m < out.length
    · have hmt' : (m : Int) < (out.length : Int) := by omega
      have HQ := hide (show IRel B out m g cap w (.int .i64 m) wr from ⟨m, cur, rfl, Ins.start hperm hsort (by omega), hcut⟩)
      clear hcut hsort hperm
      go_wp2
      go_loopw [7] (fun j wr => IRel B out m g cap w j wr) (fun j _ => (intOf j).toNat)
      case atStart => exact unhide HQ
      case round =>
        obtain ⟨j, cur2, rfl, hins, hcut2⟩ := hrel
        have hjm : j ≤ m := by obtain ⟨P, e, Q, Z, _, _, h, _⟩ := hins; omega
        have hcl2 : cur2.length = out.length := by obtain ⟨P, e, Q, Z, _, _, _, hp, _⟩ := hins; exact hp.length_eq
        have hpm2 : cur2.Perm out := by obtain ⟨P, e, Q, Z, _, _, _, hp, _⟩ := hins; exact hp
        have HI := hide hins
        have HC := hide hcut2
        have HP := hide hpm2
        by_cases hj0 : j = 0
        · have hd : decide (0 < j) = false := by simp; omega
          have HJ := hide hj0
          clear hins hcut2 hpm2 hj0
          go_wp2_with fail
          go_quiet (first | (go_at_call 182; refine Calls.quiet_of_same (less_any _ _ _)))
          go_wp2
          first | go_roundw | refine ⟨?rel, ?measure⟩
          case rel => exact ⟨m + 1, cur2, by go_num, by omega, by omega, unhide HP, (unhide HI).stop (.inl (unhide HJ)), (unhide HC).drew _⟩
          case measure => simp [intOf]; omega
        · obtain ⟨t, rfl⟩ : ∃ t, j = t + 1 := ⟨j - 1, by omega⟩
          have hd : decide (0 < t + 1) = true := by simp
          obtain ⟨p, hp⟩ : ∃ p, cur2[t]? = some p := ⟨_, List.getElem?_eq_getElem (by omega)⟩
          obtain ⟨e, he⟩ : ∃ e, cur2[t + 1]? = some e := ⟨_, List.getElem?_eq_getElem (by omega)⟩
          have hv : wr.ownsRow B 3 1 (.slice (some ⟨g, 0, none⟩) cur2.length cap) cur2.length (cur2.map i64) := by have h := hcut2.1; rw [← hcl2] at h; exact h
          have c1 : wr.cell? ⟨g, t, none⟩ = some (.int .i64 p) := (hv.cellAt t (by omega)).trans (by simp [hp, i64])
          have c2 : wr.cell? ⟨g, t + 1, none⟩ = some (.int .i64 e) := (hv.cellAt (t + 1) (by omega)).trans (by simp [he, i64])
          have hw1 : IntKind.i64.wrap (t : Int) = t := by simp [IntKind.wrap, IntKind.bits, IntKind.signed]; omega
          have htl : (t : Int) < (out.length : Int) := by omega
          have htl2 : (t : Int) + 1 < (out.length : Int) := by omega
          have ht0 : (0 : Int) ≤ (t : Int) := by omega
          have HV := hide hv
          have HPP := hide hp
          have HEE := hide he
          clear hins hcut2 hpm2 hj0 hv hp he
          by_cases hep : e < p
          · have hdp : decide (e < p) = true := by simpa using hep
            have HEP := hide hep
            clear hep
            have e1 := (unhide HV).frozenAt (t + 1)
            have e3 := (unhide HV).frozenAt t
            go_wp2_with fail
            go_quiet (first | (go_at_call 182; refine Calls.quiet_of_same (less_any _ _ _)))
            go_wp2
            go_region
            all_goals go_wp2
            first | go_roundw | refine ⟨?rel, ?measure⟩
            case rel =>
              have hv2 : (wr.drewN (nq + 1)).ownsRow B 3 1 (.slice (some ⟨g, 0, none⟩) cur2.length cap) cur2.length (cur2.map i64) := unhide HV
              have st := hv2.stored (t + 1) (.int .i64 p)
              have st2 := st.1.stored t (.int .i64 e)
              refine ⟨t, _, by go_num, (unhide HI).step (unhide HPP) (unhide HEE) (unhide HEP), ?_, only_setCell (only_setCell (only_drewN (unhide HC).2 _) (.inl rfl) _) (.inl rfl) _⟩
              have h := st2.1
              rw [← hcl2]
              simpa [List.map_set, i64] using h
            case measure => simp [intOf]
          · have HEP := hide hep
            have hdp : decide (e < p) = false := by simpa using hep
            clear hep
            go_wp2_with fail
            go_quiet (first | (go_at_call 182; refine Calls.quiet_of_same (less_any _ _ _)))
            go_wp2
            first | go_roundw | refine ⟨?rel, ?measure⟩
            case rel => exact ⟨m + 1, cur2, by go_num, by omega, by omega, unhide HP, (unhide HI).stop (.inr ⟨t, p, e, rfl, unhide HPP, unhide HEE, by have := unhide HEP; omega⟩), (unhide HC).drew _⟩
            case measure => simp [intOf]; omega
    · have hall : cur.Pairwise (· ≤ ·) := by rwa [List.take_of_length_le (by omega)] at hsort
      have HA := hide hall
      have HC := hide hcut
      have HP := hide hperm
      clear hsort hcut hperm hall
      go_wp2
      go_end0
      exact ⟨rfl, cur, unhide HP, unhide HA, unhide HC⟩

set_option maxRecDepth 100000 in
set_option maxHeartbeats 1000000 in
theorem len_any (n : Nat) (hn : n = 1 ∨ n = 2 ∨ n = 3) (w : World) : Calls Tryz.prog 112 #[.int .u64 n] w fun e w' => (∃ k : Int, e = .returned (.int .i64 k)) ∧ w' = w := by
  rcases hn with rfl | rfl | rfl
  · go_enter Tryz.func112, Tryz.ntmps112
    go_wp2
    go_ret
    exact ⟨⟨_, rfl⟩, rfl⟩
  · go_enter Tryz.func112, Tryz.ntmps112
    go_wp2
    go_ret
    exact ⟨⟨_, rfl⟩, rfl⟩
  · go_enter Tryz.func112, Tryz.ntmps112
    go_wp2
    go_ret
    exact ⟨⟨_, rfl⟩, rfl⟩

set_option maxHeartbeats 1000000 in
theorem pdq_any (B : Nat) (out : List Int) (g cap : Nat) (lim : Int) (w : World) (hlen : out.length ≤ 12) (h : w.ownsRow B 3 1 (.slice (some ⟨g, 0, none⟩) out.length cap) out.length (out.map i64)) :
    Calls Tryz.prog 155 #[.slice (some ⟨g, 0, none⟩) out.length cap, .int .i64 0, .int .i64 out.length, .int .i64 lim] w fun e w' => e = .returned (.tuple #[]) ∧ ∃ l : List Int, l.Perm out ∧ l.Pairwise (· ≤ ·) ∧ SortW B w l g out.length cap w' := by
  have H := hide h
  clear h
  have h12 : (out.length : Int) ≤ 12 := by omega
  go_enter Tryz.func155, Tryz.ntmps155
  go_wp2
  go_loopw [1, 2, 3, 8, 9] (fun a b l f1 f2 wr => a = .int .i64 0 ∧ b = .int .i64 out.length ∧ wr = w) (fun _ _ _ _ _ _ => 0)
  case atStart => exact ⟨rfl, rfl, rfl⟩
  case round =>
    obtain ⟨rfl, rfl, rfl⟩ := hrel
    go_wp2_with fail
    refine (ins_any B out g cap _ (by omega) (unhide H)).mono ?_
    rintro e w1 ⟨rfl, l, hp, hs, hw⟩
    have HP := hide hp
    have HS := hide hs
    have HW := hide hw
    clear hp hs hw
    go_wp2
    (try simp only [Exit.inBlock, Exit.then]); refine bodyPost_ret (results_none rfl _ _ _) rfl ?_
    exact ⟨rfl, l, unhide HP, unhide HS, unhide HW⟩

set_option maxHeartbeats 1000000 in
theorem sort_any (B : Nat) (out : List Int) (v : Value) (w : World) (hl : out.length = 1 ∨ out.length = 2 ∨ out.length = 3) (h : w.ownsRow B 3 1 v out.length (out.map i64)) :
    Calls Tryz.prog 133 #[v] w fun e w' => e = .returned (.tuple #[]) ∧ ∃ l : List Int, l.Perm out ∧ l.Pairwise (· ≤ ·) ∧ w'.ownsRow B 3 1 v l.length (l.map i64) ∧ w.grownBy w' v.ownBlock := by
  rcases h.2 with ⟨rfl, h0⟩ | ⟨g, cap, cur, rfl, h2⟩
  · omega
  have H := hide h
  have HL := hide hl
  clear h h2 hl
  have hw : IntKind.u64.wrap (out.length : Int) = out.length := by
    have := unhide HL
    simp [IntKind.wrap, IntKind.bits, IntKind.signed]; omega
  go_enter Tryz.func133, Tryz.ntmps133
  go_wp2_with fail
  refine (len_any out.length (unhide HL) w).mono ?_
  rintro e w1 ⟨⟨k, rfl⟩, rfl⟩
  go_wp2_with fail
  refine (pdq_any B out g cap k _ (by have := unhide HL; omega) (unhide H)).mono ?_
  rintro e w2 ⟨rfl, l, hp, hs, hw2⟩
  have HP := hide hp
  have HS := hide hs
  have HW := hide hw2
  clear hp hs hw2
  go_wp2
  go_end0
  exact ⟨rfl, l, unhide HP, unhide HS, by rw [(unhide HP).length_eq]; exact (unhide HW).1, (unhide HW).2⟩
end Go.Proofs.YtdajdolhjaoeiaaGreatDoor.Fo
