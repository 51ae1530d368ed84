/-
  The reference's Name (clewref07), walked. Conditions: the bytes lie in memory.
-/
import Derived.Test.YtdajdolhjaoeiaaGreatDoorMScRA
import Derived.Test.YtdajdolhjaoeiaaGreatDoorMScD
set_option linter.unusedVariables false
set_option linter.unusedSimpArgs false
namespace Go.Proofs.YtdajdolhjaoeiaaGreatDoor.Sc
open Go.RowKit Go.Proofs.YtdajdolhjaoeiaaGreatDoor.Mem
open Go.Proofs.YtdajdolhjaoeiaaGreatDoor.Sy (g g_of g_lt isS)

attribute [local go_sem] Go.Proofs.YtdajdolhjaoeiaaGreatDoor.Rs.run_not_true Go.Proofs.YtdajdolhjaoeiaaGreatDoor.Rs.run_not_false

def RNRel (bs : List UInt8) (k : Nat) (w : World) (v : Value) (wr : World) : Prop := ∃ j : Nat, v = .int .i64 ((k : Int) + (j : Int)) ∧ j ≤ wl bs k ∧ wr = w
theorem namez_out {bs : List UInt8} {i : Int} (h : i < 0 ∨ (bs.length : Int) ≤ i) : namez bs i = none := by
  refine namez_none ?_ ?_
  · unfold symz
    split
    · rw [sym_out (by omega)]; rfl
    · rfl
  · unfold symz
    split
    · rw [sym_out (by omega)]; simp
    · simp
theorem namez_dig {bs : List UInt8} {k : Nat} (h : isD (g bs k) = true) : namez bs (k : Int) = none := by
  unfold namez nameP
  rw [if_pos (by omega), Int.toNat_natCast, if_neg]
  rintro ⟨h1, -, -⟩
  simp only [Bool.or_eq_true, decide_eq_true_eq, isA_iff] at h1
  rw [isD_iff] at h
  omega
theorem name_dec {bs : List UInt8} {k n : Nat} (hd : isD (g bs k) = false) (hn : wl bs k = n) : namez bs (k : Int) = if 1 ≤ n ∧ n ≤ 32 ∧ g bs (k + n) = 62 then some ((bs.drop k).take n, k + n + 1) else none := by
  subst hn
  unfold namez nameP
  rw [if_pos (by omega), Int.toNat_natCast]
  have h0 := wl_at (bs := bs) (k := k) (j := 0) (Nat.zero_le _)
  rw [Nat.add_zero, isW_iff] at h0
  have hd' : ¬ (48 ≤ g bs k ∧ g bs k ≤ 57) := by rw [← isD_iff, hd]; simp
  have e : ((isA (g bs k) || decide (g bs k = 95)) = true ∧ wl bs k ≤ 32 ∧ g bs (k + wl bs k) = 62) ↔ (1 ≤ wl bs k ∧ wl bs k ≤ 32 ∧ g bs (k + wl bs k) = 62) := by
    simp only [Bool.or_eq_true, decide_eq_true_eq, isA_iff]
    constructor
    · rintro ⟨h1, h2⟩; exact ⟨by have := h0.2 (by omega); omega, h2⟩
    · rintro ⟨h1, h2⟩; exact ⟨by have := h0.1 (by omega); omega, h2⟩
  by_cases h : 1 ≤ wl bs k ∧ wl bs k ≤ 32 ∧ g bs (k + wl bs k) = 62
  · rw [if_pos h, if_pos (e.2 h)]
  · rw [if_neg h, if_neg (fun x => h (e.1 x))]

set_option maxRecDepth 100000 in
set_option maxHeartbeats 4000000 in
theorem rname_in (bs : List UInt8) (A : Option Addr) (cap k : Nat) (w : World) (hP : PV bs A cap w) (hk : k < bs.length) (hd : isD (g bs k) = false) :
    Calls Tryz.prog 42 #[.slice A bs.length cap, .int .i64 (k : Int)] w (GivesN (namez bs (k : Int)) w) := by
  have HP := hide hP
  have hroom := hP.room
  have htop := hP.top
  have hki : (k : Int) < (bs.length : Int) := by omega
  have hk0 : (0 : Int) ≤ (k : Int) := by omega
  have hk00 : decide ((k : Int) < 0) = false := by simp
  have hk01 : decide (bs.length ≤ k) = false := by rw [decide_eq_false_iff_not]; omega
  have CD0 := hide (rdigit_any (g bs k) w)
  rw [hd] at CD0
  have HN := hide (fun n h => name_dec (bs := bs) (k := k) (n := n) hd h)
  have HWL := hide (fun j h => wl_at (bs := bs) (k := k) (j := j) h)
  obtain ⟨b, off, rfl, hb, hc⟩ := hP.cell hk
  have c0 := hc k hk
  clear hP hc hd
  generalize g bs k = y at *
  go_enter Tryz.func42, Tryz.ntmps42
  go_wp2_with fail
  refine (unhide CD0).mono ?_
  rintro e w1 ⟨rfl, hw1⟩
  obtain rfl : _ = w1 := hw1.symm
  clear CD0
  go_wp2_with fail
  clear c0
  go_loopw [7] (fun v wr => RNRel bs k w v wr) (fun v _ => bs.length - (intOf v).toNat)
  case atStart => exact ⟨0, by simp, Nat.zero_le _, rfl⟩
  case round =>
    obtain ⟨j, rfl, hj, rfl⟩ := hrel
    go_hideQ
    obtain ⟨m, hm⟩ : ∃ m, k + j = m := ⟨_, rfl⟩
    have hmi : (k : Int) + (j : Int) = (m : Int) := by omega
    have HI := hide ((unhide HWL) j hj)
    have hwll : k + wl bs k ≤ bs.length := by rcases wl_len bs k with h | h <;> omega
    have HJ := hide hj
    rw [hm] at HI
    rw [hmi]
    by_cases hin : m < bs.length
    · have hin' : (m : Int) < (bs.length : Int) := by omega
      obtain ⟨b', off', e, hb', hc⟩ := (unhide HP).cell hin
      cases e
      have c1 := hc m hin
      have h256 := g_lt bs m
      have CL := hide (rletter_any (g bs m) wr)
      have CD := hide (rdigit_any (g bs m) wr)
      have HST := hide (show isW (g bs m) = false → j = wl bs k from fun h => by
        have h3 : ¬ j < wl bs k := fun h' => by have := (unhide HI).1 h'; rw [h] at this; cases this
        omega)
      by_cases h62 : g bs m = 62
      · have hjw := (unhide HST) (by rw [h62]; rfl)
        have HNJ := hide ((unhide HN) j hjw.symm)
        have e62 : ((g bs m : Int) == 62) = true := by rw [beq_iff_eq]; omega
        rw [hm] at HNJ
        have kc := fun c => sub_str (unhide HP) hm (Nat.le_of_lt hin) hk c
        have hmi3 : (m : Int) + 1 ≤ (bs.length : Int) := by omega
        have hkm : (k : Int) ≤ (m : Int) := by omega
        have hmc : (m : Int) ≤ (cap : Int) := by omega
        have hkc : ¬ cap = k := by omega
        have hsub : (m : Int) - (k : Int) = (j : Int) := by omega
        have hji : (j : Int) ≤ 9223372036854775807 := by omega
        have h62' := h62
        generalize g bs m = x at *
        clear hc CL CD HST hjw HN HWL HI HJ hj hwll
        by_cases hj0 : j = 0
        · have HQ := hide ((unhide HNJ).trans (if_neg (by omega)))
          have emk : ((m : Int) == (k : Int)) = true := by rw [beq_iff_eq]; omega
          clear HNJ h62 h62' hm hj0 kc
          go_wp2
          all_goals go_ret3
          all_goals exact ⟨by rw [unhide HQ]; rfl, Below.refl _ _⟩
        · have emk : ((m : Int) == (k : Int)) = false := by rw [beq_eq_false_iff_ne]; omega
          by_cases h32 : j ≤ 32
          · have HQ := hide ((unhide HNJ).trans (if_pos ⟨by omega, h32, h62'⟩))
            have e32 : (j : Int) ≤ 32 := by omega
            clear HNJ h62 h62' hm hj0 h32
            go_wp2
            all_goals go_ret3
            all_goals exact ⟨by rw [unhide HQ]; rfl, Below.refl _ _⟩
          · have HQ := hide ((unhide HNJ).trans (if_neg (by omega)))
            have e32 : 32 < (j : Int) := by omega
            clear HNJ h62 h62' hm hj0 h32 kc
            go_wp2
            all_goals go_ret3
            all_goals exact ⟨by rw [unhide HQ]; rfl, Below.refl _ _⟩
      · have e62 : ((g bs m : Int) == 62) = false := by rw [beq_eq_false_iff_ne]; omega
        have HGO := hide (show isW (g bs m) = true → RNRel bs k wr (.int .i64 ((m : Int) + 1)) wr from fun h => ⟨j + 1, by rw [← hmi, Int.natCast_add, Int.add_assoc]; rfl, by have := (unhide HI).2 h; omega, rfl⟩)
        have HNO := hide (show isW (g bs m) = false → namez bs (k : Int) = none from fun h => by
          rw [(unhide HN) j ((unhide HST) h).symm, hm]
          exact if_neg (fun h => h62 h.2.2))
        generalize g bs m = x at *
        clear hc HST HN HWL HI HJ hj hwll hm h62
        cases ha : isA x with
        | true =>
          rw [ha] at CL
          have HR := hide ((unhide HGO) (by unfold isW; rw [ha]; rfl))
          clear CD HGO HNO ha
          go_wp2_with fail
          refine (unhide CL).mono ?_
          rintro e w1 ⟨rfl, hw1⟩
          obtain rfl : _ = w1 := hw1.symm
          go_wp2
          have hR := unhide HR
          all_goals
            first
              | exact ⟨hR, by simp [intOf]; omega⟩
              | exact ⟨⟨_, hR, rfl⟩, by simp [intOf]; omega⟩
              | exact ⟨⟨_, _, hR, rfl, rfl⟩, by simp [intOf]; omega⟩
              | exact ⟨⟨_, _, _, hR, rfl, rfl, rfl⟩, by simp [intOf]; omega⟩
              | exact ⟨⟨_, _, _, _, hR, rfl, rfl, rfl, rfl⟩, by simp [intOf]; omega⟩
              | exact ⟨⟨_, _, _, _, _, hR, rfl, rfl, rfl, rfl, rfl⟩, by simp [intOf]; omega⟩
              | (go_roundw; (case rel => exact hR); (case measure => (simp [intOf]; omega)))
        | false =>
          rw [ha] at CL
          cases hdd : isD x with
          | true =>
            rw [hdd] at CD
            have HR := hide ((unhide HGO) (by unfold isW; rw [ha, hdd]; rfl))
            clear HGO HNO ha hdd
            go_wp2_with fail
            refine (unhide CL).mono ?_
            rintro e w1 ⟨rfl, hw1⟩
            obtain rfl : _ = w1 := hw1.symm
            go_wp2_with fail
            refine (unhide CD).mono ?_
            rintro e w2 ⟨rfl, hw2⟩
            obtain rfl : _ = w2 := hw2.symm
            go_wp2
            have hR := unhide HR
            all_goals
              first
                | exact ⟨hR, by simp [intOf]; omega⟩
                | exact ⟨⟨_, hR, rfl⟩, by simp [intOf]; omega⟩
                | exact ⟨⟨_, _, hR, rfl, rfl⟩, by simp [intOf]; omega⟩
                | exact ⟨⟨_, _, _, hR, rfl, rfl, rfl⟩, by simp [intOf]; omega⟩
                | exact ⟨⟨_, _, _, _, hR, rfl, rfl, rfl, rfl⟩, by simp [intOf]; omega⟩
                | exact ⟨⟨_, _, _, _, _, hR, rfl, rfl, rfl, rfl, rfl⟩, by simp [intOf]; omega⟩
                | (go_roundw; (case rel => exact hR); (case measure => (simp [intOf]; omega)))
          | false =>
            rw [hdd] at CD
            by_cases h95 : x = 95
            · have HR := hide ((unhide HGO) (by unfold isW; rw [ha, hdd, decide_eq_true h95]; rfl))
              have e95 : ((x : Int) != 95) = false := by simp; omega
              clear HGO HNO ha hdd h95
              go_wp2_with fail
              refine (unhide CL).mono ?_
              rintro e w1 ⟨rfl, hw1⟩
              obtain rfl : _ = w1 := hw1.symm
              go_wp2_with fail
              refine (unhide CD).mono ?_
              rintro e w2 ⟨rfl, hw2⟩
              obtain rfl : _ = w2 := hw2.symm
              go_wp2
              have hR := unhide HR
              all_goals
                first
                  | exact ⟨hR, by simp [intOf]; omega⟩
                  | exact ⟨⟨_, hR, rfl⟩, by simp [intOf]; omega⟩
                  | exact ⟨⟨_, _, hR, rfl, rfl⟩, by simp [intOf]; omega⟩
                  | exact ⟨⟨_, _, _, hR, rfl, rfl, rfl⟩, by simp [intOf]; omega⟩
                  | exact ⟨⟨_, _, _, _, hR, rfl, rfl, rfl, rfl⟩, by simp [intOf]; omega⟩
                  | exact ⟨⟨_, _, _, _, _, hR, rfl, rfl, rfl, rfl, rfl⟩, by simp [intOf]; omega⟩
                  | (go_roundw; (case rel => exact hR); (case measure => (simp [intOf]; omega)))
            · have HQ := hide ((unhide HNO) (by unfold isW; rw [ha, hdd, decide_eq_false h95]; rfl))
              have e95 : ((x : Int) != 95) = true := by simp; omega
              clear HGO HNO ha hdd h95
              go_wp2_with fail
              refine (unhide CL).mono ?_
              rintro e w1 ⟨rfl, hw1⟩
              obtain rfl : _ = w1 := hw1.symm
              go_wp2_with fail
              refine (unhide CD).mono ?_
              rintro e w2 ⟨rfl, hw2⟩
              obtain rfl : _ = w2 := hw2.symm
              go_wp2
              all_goals go_ret3
              all_goals exact ⟨by rw [unhide HQ]; rfl, Below.refl _ _⟩
    · have hin' : (bs.length : Int) ≤ (m : Int) := by omega
      have hjw : j = wl bs k := by
        have h3 : ¬ j < wl bs k := fun h => by have := (unhide HI).1 h; rw [g_out (by omega)] at this; cases this
        omega
      have HQ := hide (show namez bs (k : Int) = none by
        rw [(unhide HN) j hjw.symm, hm, g_out (by omega)]
        exact if_neg (by omega))
      clear HN HWL HI HJ hj hwll hm hjw
      go_wp2
      all_goals go_ret3
      all_goals exact ⟨by rw [unhide HQ]; rfl, Below.refl _ _⟩
set_option maxRecDepth 100000 in
set_option maxHeartbeats 1000000 in
/-- **the reference's Name** -/
theorem rname_any (bs : List UInt8) (A : Option Addr) (cap : Nat) (i : Int) (w : World) (hP : PV bs A cap w) :
    Calls Tryz.prog 42 #[.slice A bs.length cap, .int .i64 i] w (GivesN (namez bs i) w) := by
  by_cases h1 : i < 0
  · rw [namez_out (.inl h1)]
    go_enter Tryz.func42, Tryz.ntmps42
    go_wp2
    go_ret3
    exact ⟨rfl, Below.refl _ _⟩
  · by_cases h2 : (bs.length : Int) ≤ i
    · rw [namez_out (.inr h2)]
      have h3 : 0 ≤ i := by omega
      clear h1
      go_enter Tryz.func42, Tryz.ntmps42
      go_wp2
      go_ret3
      exact ⟨rfl, Below.refl _ _⟩
    · obtain ⟨k, rfl⟩ : ∃ k : Nat, i = (k : Int) := ⟨i.toNat, by omega⟩
      have hk : k < bs.length := by omega
      cases hd : isD (g bs k) with
      | false => exact rname_in bs A cap k w hP hk hd
      | true =>
        rw [namez_dig hd]
        obtain ⟨b, off, rfl, hb, hc⟩ := hP.cell hk
        have c1 := hc k hk
        have hr := hP.room
        have ht := hP.top
        have hki : (k : Int) < (bs.length : Int) := by omega
        have CD := hide (rdigit_any (g bs k) w)
        rw [hd] at CD
        generalize g bs k = x at *
        clear hc hP h1 h2 hd
        go_enter Tryz.func42, Tryz.ntmps42
        go_wp2_with fail
        refine (unhide CD).mono ?_
        rintro e w2 ⟨rfl, hw2⟩
        obtain rfl : _ = w2 := hw2.symm
        go_wp2
        go_ret3
        exact ⟨rfl, Below.refl _ _⟩
end Go.Proofs.YtdajdolhjaoeiaaGreatDoor.Sc
