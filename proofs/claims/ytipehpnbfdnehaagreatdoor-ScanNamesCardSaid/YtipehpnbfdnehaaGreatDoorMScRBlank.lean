/-
  The reference's at and Blank (clewref07), walked. Conditions: the bytes lie in memory.
-/
import Derived.Test.YtipehpnbfdnehaaGreatDoorMScB
import Derived.Test.YtipehpnbfdnehaaGreatDoorMRsCut
import Derived.WalkHide
set_option linter.unusedVariables false
set_option linter.unusedSimpArgs false
namespace Go.Proofs.YtipehpnbfdnehaaGreatDoor.Sc
open Go.RowKit Go.Proofs.YtipehpnbfdnehaaGreatDoor.Mem
open Go.Proofs.YtipehpnbfdnehaaGreatDoor.Sy (g g_of g_lt isS)

attribute [local go_sem] Go.Proofs.YtipehpnbfdnehaaGreatDoor.Rs.run_not_true Go.Proofs.YtipehpnbfdnehaaGreatDoor.Rs.run_not_false

set_option maxHeartbeats 1000000 in
/-- **the reference's at** -/
theorem rat_any (bs : List UInt8) (A : Option Addr) (cap : Nat) (i : Int) (w : World) (hP : PV bs A cap w) :
    Calls Tryz.prog 34 #[.slice A bs.length cap, .int .i64 i] w fun e w' => e = .returned (.int .u8 (gz bs i : Int)) ∧ w' = w := by
  by_cases h1 : i < 0
  · rw [gz_out (.inl h1)]
    go_enter Tryz.func34, Tryz.ntmps34
    go_wp2
    go_ret
    exact ⟨rfl, rfl⟩
  · by_cases h2 : (bs.length : Int) ≤ i
    · rw [gz_out (.inr h2)]
      have h3 : 0 ≤ i := by omega
      clear h1
      go_enter Tryz.func34, Tryz.ntmps34
      go_wp2
      go_ret
      exact ⟨rfl, rfl⟩
    · obtain ⟨k, rfl⟩ : ∃ k : Nat, i = (k : Int) := ⟨i.toNat, by omega⟩
      have hk : k < bs.length := by omega
      obtain ⟨b, off, rfl, hb, hc⟩ := hP.cell hk
      have c1 := hc k hk
      have hr := hP.room
      have ht := hP.top
      have hki : (k : Int) < (bs.length : Int) := by omega
      rw [gz_nat]
      generalize bs.length = n at *
      generalize g bs k = x at *
      clear hc hP h1 h2
      go_enter Tryz.func34, Tryz.ntmps34
      go_wp2
      go_ret
      exact ⟨rfl, rfl⟩
theorem rat_nat (bs : List UInt8) (A : Option Addr) (cap k : Nat) (w : World) (hP : PV bs A cap w) :
    Calls Tryz.prog 34 #[.slice A bs.length cap, .int .i64 (k : Int)] w fun e w' => e = .returned (.int .u8 (g bs k : Int)) ∧ w' = w := by
  have := rat_any bs A cap (k : Int) w hP
  rwa [gz_nat] at this
theorem rat_e {bs : List UInt8} {A : Option Addr} {cap : Nat} {w : World} (hP : PV bs A cap w) {i : Int} {k c : Nat} (e : i = (k : Int)) (h : g bs k = c) :
    Calls Tryz.prog 34 #[.slice A bs.length cap, .int .i64 i] w fun e w' => e = .returned (.int .u8 (c : Int)) ∧ w' = w := by
  subst e; subst h; exact rat_nat bs A cap k w hP

def RBRel (bs : List UInt8) (k : Nat) (w : World) (i v : Value) (wr : World) : Prop := ∃ (m : Nat) (r : Bool), i = .int .i64 m ∧ v = .bool r ∧ (m : Int) ≤ 9223372036854775807 ∧ blk bs k false = blk bs m r ∧ wr = w
theorem blk_step {bs : List UInt8} {m : Nat} {r : Bool} (h : m < bs.length) (h1 : g bs m ≠ 10) (h2 : g bs m ≠ 35) (h3 : r = true ∨ isB (g bs m) = true) : blk bs m r = blk bs (m + 1) r := by
  rw [blk, dif_pos h, if_neg h1, if_neg h2, if_neg]
  rintro ⟨h4, h5⟩
  rcases h3 with h3 | h3
  · rw [h3] at h4; cases h4
  · rw [h3] at h5; cases h5

set_option maxRecDepth 100000 in
set_option maxHeartbeats 2000000 in
theorem rblank_pos (bs : List UInt8) (A : Option Addr) (cap : Nat) (k : Nat) (hk : (k : Int) ≤ 9223372036854775807) (w : World) (hP : PV bs A cap w) :
    Calls Tryz.prog 26 #[.slice A bs.length cap, .int .i64 (k : Int)] w fun e w' => e = .returned (.int .i64 (blk bs k false : Int)) ∧ w' = w := by
  have HP := hide hP
  have hroom := hP.room
  have htop := hP.top
  clear hP
  go_enter Tryz.func26, Tryz.ntmps26
  go_wp2_with fail
  go_loopw [1, 5] (fun i v wr => RBRel bs k w i v wr) (fun i _ _ => bs.length - (intOf i).toNat)
  case atStart => exact ⟨k, false, rfl, rfl, hk, rfl, rfl⟩
  case round =>
    obtain ⟨m, r, rfl, rfl, hmb, hF, rfl⟩ := hrel
    go_hideQ
    have HF := hide hF
    clear hF
    by_cases hin : m < bs.length
    · have hin' : (m : Int) < (bs.length : Int) := by omega
      obtain ⟨b, off, rfl, hb, hc⟩ := (unhide HP).cell hin
      have c1 := hc m hin
      have HL := hide (fun h => (unhide HF).trans (blk_line (bs := bs) (k := m) r hin h))
      have HS := hide (fun h => (unhide HF).trans (blk_sharp (bs := bs) (k := m) r hin h))
      have HON := hide (fun h1 h2 h3 => (unhide HF).trans (blk_step (bs := bs) (m := m) (r := r) hin h1 h2 h3))
      have hst : ∀ q, r = q → g bs m ≠ 35 → isB (g bs m) = false → q = false → blk bs k false = m := fun q e h1 h2 h3 => by
        rw [unhide HF, e, h3]; exact blk_stop h1 h2
      generalize hx : g bs m = x at *
      clear hc hx
      by_cases h10 : x = 10
      · have HR := hide ((unhide HL) h10)
        have n10 : ((x : Int) == 10) = true := by rw [beq_iff_eq]; omega
        clear HL HS HON hst h10
        go_wp2
        all_goals
          have hR : RBRel bs k wr (.int .i64 ((m : Int) + 1)) (.bool false) wr := ⟨m + 1, false, by push_cast; rfl, rfl, by omega, unhide HR, rfl⟩
          first
            | exact ⟨hR, by simp [intOf]; omega⟩
            | exact ⟨⟨_, hR, rfl⟩, by simp [intOf]; omega⟩
            | exact ⟨⟨_, _, hR, rfl, rfl⟩, by simp [intOf]; omega⟩
            | exact ⟨⟨_, _, _, hR, rfl, rfl, rfl⟩, by simp [intOf]; omega⟩
            | exact ⟨⟨_, _, _, _, hR, rfl, rfl, rfl, rfl⟩, by simp [intOf]; omega⟩
            | exact ⟨⟨_, _, _, _, _, hR, rfl, rfl, rfl, rfl, rfl⟩, by simp [intOf]; omega⟩
            | (go_roundw; (case rel => exact hR); (case measure => (simp [intOf]; omega)))
      · by_cases h35 : x = 35
        · have HR := hide ((unhide HS) h35)
          have n10 : ((x : Int) == 10) = false := by rw [beq_eq_false_iff_ne]; omega
          have n35 : ((x : Int) == 35) = true := by rw [beq_iff_eq]; omega
          clear HL HS HON hst h10 h35
          go_wp2
          all_goals
            have hR : RBRel bs k wr (.int .i64 ((m : Int) + 1)) (.bool true) wr := ⟨m + 1, true, by push_cast; rfl, rfl, by omega, unhide HR, rfl⟩
            first
              | exact ⟨hR, by simp [intOf]; omega⟩
              | exact ⟨⟨_, hR, rfl⟩, by simp [intOf]; omega⟩
              | exact ⟨⟨_, _, hR, rfl, rfl⟩, by simp [intOf]; omega⟩
              | exact ⟨⟨_, _, _, hR, rfl, rfl, rfl⟩, by simp [intOf]; omega⟩
              | exact ⟨⟨_, _, _, _, hR, rfl, rfl, rfl, rfl⟩, by simp [intOf]; omega⟩
              | exact ⟨⟨_, _, _, _, _, hR, rfl, rfl, rfl, rfl, rfl⟩, by simp [intOf]; omega⟩
              | (go_roundw; (case rel => exact hR); (case measure => (simp [intOf]; omega)))
        · cases r with
          | true =>
            have HR := hide ((unhide HON) h10 h35 (.inl rfl))
            have n10 : ((x : Int) == 10) = false := by rw [beq_eq_false_iff_ne]; omega
            have n35 : ((x : Int) == 35) = false := by rw [beq_eq_false_iff_ne]; omega
            clear HL HS HON hst h10 h35
            go_wp2
            all_goals
              have hR : RBRel bs k wr (.int .i64 ((m : Int) + 1)) (.bool true) wr := ⟨m + 1, true, by push_cast; rfl, rfl, by omega, unhide HR, rfl⟩
              first
                | exact ⟨hR, by simp [intOf]; omega⟩
                | exact ⟨⟨_, hR, rfl⟩, by simp [intOf]; omega⟩
                | exact ⟨⟨_, _, hR, rfl, rfl⟩, by simp [intOf]; omega⟩
                | exact ⟨⟨_, _, _, hR, rfl, rfl, rfl⟩, by simp [intOf]; omega⟩
                | exact ⟨⟨_, _, _, _, hR, rfl, rfl, rfl, rfl⟩, by simp [intOf]; omega⟩
                | exact ⟨⟨_, _, _, _, _, hR, rfl, rfl, rfl, rfl, rfl⟩, by simp [intOf]; omega⟩
                | (go_roundw; (case rel => exact hR); (case measure => (simp [intOf]; omega)))
          | false =>
            have HST := hide (fun h1 h2 => hst false rfl h1 h2 rfl)
            clear HL HS hst
            by_cases j1 : x ≤ 8
            · clear HF
              have k2 : (x : Int) ≤ 8 := by omega
              have n10 : ((x : Int) == 10) = false := by rw [beq_eq_false_iff_ne]; omega
              have n35 : ((x : Int) == 35) = false := by rw [beq_eq_false_iff_ne]; omega
              have n32 : ((x : Int) != 32) = true := by simp; omega
              have HR := hide ((unhide HST) (by omega) (by rw [← Bool.not_eq_true]; simp [isB]; omega))
              clear HST HON h10 h35
              go_wp2
              all_goals go_ret
              all_goals exact ⟨by rw [unhide HR]; rfl, rfl⟩
            by_cases j2 : x ≤ 13
            · clear HF
              have k1 : 9 ≤ (x : Int) := by omega
              have k2 : (x : Int) ≤ 13 := by omega
              have n10 : ((x : Int) == 10) = false := by rw [beq_eq_false_iff_ne]; omega
              have n35 : ((x : Int) == 35) = false := by rw [beq_eq_false_iff_ne]; omega
              have n32 : ((x : Int) != 32) = true := by simp; omega
              have HR := hide ((unhide HON) (by omega) (by omega) (.inr (by simp [isB]; omega)))
              clear HST HON h10 h35
              go_wp2
              all_goals
                have hR : RBRel bs k wr (.int .i64 ((m : Int) + 1)) (.bool false) wr := ⟨m + 1, false, by push_cast; rfl, rfl, by omega, unhide HR, rfl⟩
                first
                  | exact ⟨hR, by simp [intOf]; omega⟩
                  | exact ⟨⟨_, hR, rfl⟩, by simp [intOf]; omega⟩
                  | exact ⟨⟨_, _, hR, rfl, rfl⟩, by simp [intOf]; omega⟩
                  | exact ⟨⟨_, _, _, hR, rfl, rfl, rfl⟩, by simp [intOf]; omega⟩
                  | exact ⟨⟨_, _, _, _, hR, rfl, rfl, rfl, rfl⟩, by simp [intOf]; omega⟩
                  | exact ⟨⟨_, _, _, _, _, hR, rfl, rfl, rfl, rfl, rfl⟩, by simp [intOf]; omega⟩
                  | (go_roundw; (case rel => exact hR); (case measure => (simp [intOf]; omega)))
            by_cases j3 : x ≤ 31
            · clear HF
              have k1 : 14 ≤ (x : Int) := by omega
              have k2 : (x : Int) ≤ 31 := by omega
              have n10 : ((x : Int) == 10) = false := by rw [beq_eq_false_iff_ne]; omega
              have n35 : ((x : Int) == 35) = false := by rw [beq_eq_false_iff_ne]; omega
              have n32 : ((x : Int) != 32) = true := by simp; omega
              have HR := hide ((unhide HST) (by omega) (by rw [← Bool.not_eq_true]; simp [isB]; omega))
              clear HST HON h10 h35
              go_wp2
              all_goals go_ret
              all_goals exact ⟨by rw [unhide HR]; rfl, rfl⟩
            by_cases j4 : x ≤ 32
            · clear HF
              have k1 : 32 ≤ (x : Int) := by omega
              have k2 : (x : Int) ≤ 32 := by omega
              have n10 : ((x : Int) == 10) = false := by rw [beq_eq_false_iff_ne]; omega
              have n35 : ((x : Int) == 35) = false := by rw [beq_eq_false_iff_ne]; omega
              have n32 : ((x : Int) != 32) = false := by simp; omega
              have HR := hide ((unhide HON) (by omega) (by omega) (.inr (by simp [isB]; omega)))
              clear HST HON h10 h35
              go_wp2
              all_goals
                have hR : RBRel bs k wr (.int .i64 ((m : Int) + 1)) (.bool false) wr := ⟨m + 1, false, by push_cast; rfl, rfl, by omega, unhide HR, rfl⟩
                first
                  | exact ⟨hR, by simp [intOf]; omega⟩
                  | exact ⟨⟨_, hR, rfl⟩, by simp [intOf]; omega⟩
                  | exact ⟨⟨_, _, hR, rfl, rfl⟩, by simp [intOf]; omega⟩
                  | exact ⟨⟨_, _, _, hR, rfl, rfl, rfl⟩, by simp [intOf]; omega⟩
                  | exact ⟨⟨_, _, _, _, hR, rfl, rfl, rfl, rfl⟩, by simp [intOf]; omega⟩
                  | exact ⟨⟨_, _, _, _, _, hR, rfl, rfl, rfl, rfl, rfl⟩, by simp [intOf]; omega⟩
                  | (go_roundw; (case rel => exact hR); (case measure => (simp [intOf]; omega)))
            have k1 : 33 ≤ (x : Int) := by omega
            have n10 : ((x : Int) == 10) = false := by rw [beq_eq_false_iff_ne]; omega
            have n35 : ((x : Int) == 35) = false := by rw [beq_eq_false_iff_ne]; omega
            have n32 : ((x : Int) != 32) = true := by simp; omega
            have HR := hide ((unhide HST) (by omega) (by rw [← Bool.not_eq_true]; simp [isB]; omega))
            clear HST HON h10 h35
            go_wp2
            all_goals go_ret
            all_goals exact ⟨by rw [unhide HR]; rfl, rfl⟩
    · have hin' : (bs.length : Int) ≤ (m : Int) := by omega
      have HR := hide ((unhide HF).trans (blk_end (bs := bs) (k := m) r (by omega)))
      go_wp2
      all_goals go_ret
      all_goals exact ⟨by rw [unhide HR]; rfl, rfl⟩

set_option maxRecDepth 100000 in
set_option maxHeartbeats 2000000 in
theorem rblank_neg (bs : List UInt8) (A : Option Addr) (cap : Nat) (i : Int) (hi : i < 0) (w : World) (hP : PV bs A cap w) :
    Calls Tryz.prog 26 #[.slice A bs.length cap, .int .i64 i] w fun e w' => e = .returned (.int .i64 (blk bs 0 false : Int)) ∧ w' = w := by
  have HP := hide hP
  have hroom := hP.room
  have htop := hP.top
  clear hP
  obtain ⟨k, hk0⟩ : ∃ k : Nat, k = 0 := ⟨0, rfl⟩
  rw [← hk0]
  have HK0 := hide hk0
  clear hk0
  go_enter Tryz.func26, Tryz.ntmps26
  go_wp2_with fail
  go_loopw [1, 5] (fun i v wr => RBRel bs k w i v wr) (fun i _ _ => bs.length - (intOf i).toNat)
  case atStart => exact ⟨k, false, by rw [unhide HK0]; rfl, rfl, by rw [unhide HK0]; decide, rfl, rfl⟩
  case round =>
    obtain ⟨m, r, rfl, rfl, hmb, hF, rfl⟩ := hrel
    go_hideQ
    have HF := hide hF
    clear hF
    by_cases hin : m < bs.length
    · have hin' : (m : Int) < (bs.length : Int) := by omega
      obtain ⟨b, off, rfl, hb, hc⟩ := (unhide HP).cell hin
      have c1 := hc m hin
      have HL := hide (fun h => (unhide HF).trans (blk_line (bs := bs) (k := m) r hin h))
      have HS := hide (fun h => (unhide HF).trans (blk_sharp (bs := bs) (k := m) r hin h))
      have HON := hide (fun h1 h2 h3 => (unhide HF).trans (blk_step (bs := bs) (m := m) (r := r) hin h1 h2 h3))
      have hst : ∀ q, r = q → g bs m ≠ 35 → isB (g bs m) = false → q = false → blk bs k false = m := fun q e h1 h2 h3 => by
        rw [unhide HF, e, h3]; exact blk_stop h1 h2
      generalize hx : g bs m = x at *
      clear hc hx
      by_cases h10 : x = 10
      · have HR := hide ((unhide HL) h10)
        have n10 : ((x : Int) == 10) = true := by rw [beq_iff_eq]; omega
        clear HL HS HON hst h10
        go_wp2
        all_goals
          have hR : RBRel bs k wr (.int .i64 ((m : Int) + 1)) (.bool false) wr := ⟨m + 1, false, by push_cast; rfl, rfl, by omega, unhide HR, rfl⟩
          first
            | exact ⟨hR, by simp [intOf]; omega⟩
            | exact ⟨⟨_, hR, rfl⟩, by simp [intOf]; omega⟩
            | exact ⟨⟨_, _, hR, rfl, rfl⟩, by simp [intOf]; omega⟩
            | exact ⟨⟨_, _, _, hR, rfl, rfl, rfl⟩, by simp [intOf]; omega⟩
            | exact ⟨⟨_, _, _, _, hR, rfl, rfl, rfl, rfl⟩, by simp [intOf]; omega⟩
            | exact ⟨⟨_, _, _, _, _, hR, rfl, rfl, rfl, rfl, rfl⟩, by simp [intOf]; omega⟩
            | (go_roundw; (case rel => exact hR); (case measure => (simp [intOf]; omega)))
      · by_cases h35 : x = 35
        · have HR := hide ((unhide HS) h35)
          have n10 : ((x : Int) == 10) = false := by rw [beq_eq_false_iff_ne]; omega
          have n35 : ((x : Int) == 35) = true := by rw [beq_iff_eq]; omega
          clear HL HS HON hst h10 h35
          go_wp2
          all_goals
            have hR : RBRel bs k wr (.int .i64 ((m : Int) + 1)) (.bool true) wr := ⟨m + 1, true, by push_cast; rfl, rfl, by omega, unhide HR, rfl⟩
            first
              | exact ⟨hR, by simp [intOf]; omega⟩
              | exact ⟨⟨_, hR, rfl⟩, by simp [intOf]; omega⟩
              | exact ⟨⟨_, _, hR, rfl, rfl⟩, by simp [intOf]; omega⟩
              | exact ⟨⟨_, _, _, hR, rfl, rfl, rfl⟩, by simp [intOf]; omega⟩
              | exact ⟨⟨_, _, _, _, hR, rfl, rfl, rfl, rfl⟩, by simp [intOf]; omega⟩
              | exact ⟨⟨_, _, _, _, _, hR, rfl, rfl, rfl, rfl, rfl⟩, by simp [intOf]; omega⟩
              | (go_roundw; (case rel => exact hR); (case measure => (simp [intOf]; omega)))
        · cases r with
          | true =>
            have HR := hide ((unhide HON) h10 h35 (.inl rfl))
            have n10 : ((x : Int) == 10) = false := by rw [beq_eq_false_iff_ne]; omega
            have n35 : ((x : Int) == 35) = false := by rw [beq_eq_false_iff_ne]; omega
            clear HL HS HON hst h10 h35
            go_wp2
            all_goals
              have hR : RBRel bs k wr (.int .i64 ((m : Int) + 1)) (.bool true) wr := ⟨m + 1, true, by push_cast; rfl, rfl, by omega, unhide HR, rfl⟩
              first
                | exact ⟨hR, by simp [intOf]; omega⟩
                | exact ⟨⟨_, hR, rfl⟩, by simp [intOf]; omega⟩
                | exact ⟨⟨_, _, hR, rfl, rfl⟩, by simp [intOf]; omega⟩
                | exact ⟨⟨_, _, _, hR, rfl, rfl, rfl⟩, by simp [intOf]; omega⟩
                | exact ⟨⟨_, _, _, _, hR, rfl, rfl, rfl, rfl⟩, by simp [intOf]; omega⟩
                | exact ⟨⟨_, _, _, _, _, hR, rfl, rfl, rfl, rfl, rfl⟩, by simp [intOf]; omega⟩
                | (go_roundw; (case rel => exact hR); (case measure => (simp [intOf]; omega)))
          | false =>
            have HST := hide (fun h1 h2 => hst false rfl h1 h2 rfl)
            clear HL HS hst
            by_cases j1 : x ≤ 8
            · clear HF
              have k2 : (x : Int) ≤ 8 := by omega
              have n10 : ((x : Int) == 10) = false := by rw [beq_eq_false_iff_ne]; omega
              have n35 : ((x : Int) == 35) = false := by rw [beq_eq_false_iff_ne]; omega
              have n32 : ((x : Int) != 32) = true := by simp; omega
              have HR := hide ((unhide HST) (by omega) (by rw [← Bool.not_eq_true]; simp [isB]; omega))
              clear HST HON h10 h35
              go_wp2
              all_goals go_ret
              all_goals exact ⟨by rw [unhide HR]; rfl, rfl⟩
            by_cases j2 : x ≤ 13
            · clear HF
              have k1 : 9 ≤ (x : Int) := by omega
              have k2 : (x : Int) ≤ 13 := by omega
              have n10 : ((x : Int) == 10) = false := by rw [beq_eq_false_iff_ne]; omega
              have n35 : ((x : Int) == 35) = false := by rw [beq_eq_false_iff_ne]; omega
              have n32 : ((x : Int) != 32) = true := by simp; omega
              have HR := hide ((unhide HON) (by omega) (by omega) (.inr (by simp [isB]; omega)))
              clear HST HON h10 h35
              go_wp2
              all_goals
                have hR : RBRel bs k wr (.int .i64 ((m : Int) + 1)) (.bool false) wr := ⟨m + 1, false, by push_cast; rfl, rfl, by omega, unhide HR, rfl⟩
                first
                  | exact ⟨hR, by simp [intOf]; omega⟩
                  | exact ⟨⟨_, hR, rfl⟩, by simp [intOf]; omega⟩
                  | exact ⟨⟨_, _, hR, rfl, rfl⟩, by simp [intOf]; omega⟩
                  | exact ⟨⟨_, _, _, hR, rfl, rfl, rfl⟩, by simp [intOf]; omega⟩
                  | exact ⟨⟨_, _, _, _, hR, rfl, rfl, rfl, rfl⟩, by simp [intOf]; omega⟩
                  | exact ⟨⟨_, _, _, _, _, hR, rfl, rfl, rfl, rfl, rfl⟩, by simp [intOf]; omega⟩
                  | (go_roundw; (case rel => exact hR); (case measure => (simp [intOf]; omega)))
            by_cases j3 : x ≤ 31
            · clear HF
              have k1 : 14 ≤ (x : Int) := by omega
              have k2 : (x : Int) ≤ 31 := by omega
              have n10 : ((x : Int) == 10) = false := by rw [beq_eq_false_iff_ne]; omega
              have n35 : ((x : Int) == 35) = false := by rw [beq_eq_false_iff_ne]; omega
              have n32 : ((x : Int) != 32) = true := by simp; omega
              have HR := hide ((unhide HST) (by omega) (by rw [← Bool.not_eq_true]; simp [isB]; omega))
              clear HST HON h10 h35
              go_wp2
              all_goals go_ret
              all_goals exact ⟨by rw [unhide HR]; rfl, rfl⟩
            by_cases j4 : x ≤ 32
            · clear HF
              have k1 : 32 ≤ (x : Int) := by omega
              have k2 : (x : Int) ≤ 32 := by omega
              have n10 : ((x : Int) == 10) = false := by rw [beq_eq_false_iff_ne]; omega
              have n35 : ((x : Int) == 35) = false := by rw [beq_eq_false_iff_ne]; omega
              have n32 : ((x : Int) != 32) = false := by simp; omega
              have HR := hide ((unhide HON) (by omega) (by omega) (.inr (by simp [isB]; omega)))
              clear HST HON h10 h35
              go_wp2
              all_goals
                have hR : RBRel bs k wr (.int .i64 ((m : Int) + 1)) (.bool false) wr := ⟨m + 1, false, by push_cast; rfl, rfl, by omega, unhide HR, rfl⟩
                first
                  | exact ⟨hR, by simp [intOf]; omega⟩
                  | exact ⟨⟨_, hR, rfl⟩, by simp [intOf]; omega⟩
                  | exact ⟨⟨_, _, hR, rfl, rfl⟩, by simp [intOf]; omega⟩
                  | exact ⟨⟨_, _, _, hR, rfl, rfl, rfl⟩, by simp [intOf]; omega⟩
                  | exact ⟨⟨_, _, _, _, hR, rfl, rfl, rfl, rfl⟩, by simp [intOf]; omega⟩
                  | exact ⟨⟨_, _, _, _, _, hR, rfl, rfl, rfl, rfl, rfl⟩, by simp [intOf]; omega⟩
                  | (go_roundw; (case rel => exact hR); (case measure => (simp [intOf]; omega)))
            have k1 : 33 ≤ (x : Int) := by omega
            have n10 : ((x : Int) == 10) = false := by rw [beq_eq_false_iff_ne]; omega
            have n35 : ((x : Int) == 35) = false := by rw [beq_eq_false_iff_ne]; omega
            have n32 : ((x : Int) != 32) = true := by simp; omega
            have HR := hide ((unhide HST) (by omega) (by rw [← Bool.not_eq_true]; simp [isB]; omega))
            clear HST HON h10 h35
            go_wp2
            all_goals go_ret
            all_goals exact ⟨by rw [unhide HR]; rfl, rfl⟩
    · have hin' : (bs.length : Int) ≤ (m : Int) := by omega
      have HR := hide ((unhide HF).trans (blk_end (bs := bs) (k := m) r (by omega)))
      go_wp2
      all_goals go_ret
      all_goals exact ⟨by rw [unhide HR]; rfl, rfl⟩
/-- **the reference's Blank** -/
theorem rblank_any (bs : List UInt8) (A : Option Addr) (cap : Nat) (i : Int) (w : World) (hP : PV bs A cap w) (hi : i ≤ 9223372036854775807) :
    Calls Tryz.prog 26 #[.slice A bs.length cap, .int .i64 i] w fun e w' => e = .returned (.int .i64 (blz bs i)) ∧ w' = w := by
  unfold blz
  by_cases h : 0 ≤ i
  · rw [if_pos h]
    obtain ⟨k, rfl⟩ : ∃ k : Nat, i = (k : Int) := ⟨i.toNat, by omega⟩
    rw [Int.toNat_natCast]
    exact rblank_pos bs A cap k hi w hP
  · rw [if_neg h]
    exact rblank_neg bs A cap i (by omega) w hP
end Go.Proofs.YtipehpnbfdnehaaGreatDoor.Sc
