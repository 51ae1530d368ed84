/-
  The reference's Get, walked: at any place of any bytes the number that stands there, how many bytes it has, and the error. Conditions: the bytes lie in memory; the place is an int.
-/
import Derived.Test.YtldahjgafkhobaaViBytes
import Derived.Test.YtldahjgafkhobaaViPure3
import Derived.WalkHide
set_option linter.unusedVariables false
set_option linter.unusedSimpArgs false
namespace Go.Proofs.Ytldahjgafkhobaa.Vi
open Go.RowKit Go.Proofs.Ytldahjgafkhobaa.Mem

/-- three numbers -/
def R3 (x : Nat × Nat × Nat) (w : World) (e : Ending) (w' : World) : Prop := e = .returned (.tuple #[.int .u64 (x.1 : Int), .int .i64 (x.2.1 : Int), .int .i64 (x.2.2 : Int)]) ∧ w' = w

set_option maxHeartbeats 1000000 in
theorem ref_out (n cap : Nat) (A : Option Addr) (p : Int) (w : World) (h : p < 0 ∨ (n : Int) < p) : Calls Try.prog 12 #[.slice A n cap, .int .i64 p] w (R3 (0, 0, 10) w) := by
  by_cases h0 : p < 0
  · clear h
    go_enter Try.func12, Try.ntmps12
    go_wp2_with fail
    go_ret3
    exact ⟨rfl, rfl⟩
  · have h1 : (n : Int) < p := by omega
    clear h
    go_enter Try.func12, Try.ntmps12
    go_wp2_with fail
    go_ret3
    exact ⟨rfl, rfl⟩
set_option maxHeartbeats 1000000 in
theorem ref_end (n cap : Nat) (A : Option Addr) (w : World) (hn : (n : Int) ≤ 9223372036854775807) : Calls Try.prog 12 #[.slice A n cap, .int .i64 (n : Int)] w (R3 (0, 0, 14) w) := by
  go_enter Try.func12, Try.ntmps12
  go_wp2_with fail
  go_loop [7, 8, 9] (fun v q i => v = .int .u64 0 ∧ q = .int .u64 1 ∧ i = .int .i64 0) (fun _ _ _ => 0)
  case atStart => exact ⟨rfl, rfl, rfl⟩
  case round =>
    obtain ⟨rfl, rfl, rfl⟩ := hrel
    go_hideQ
    go_wp2_with fail
    go_ret3
    exact ⟨rfl, rfl⟩
def RRel (bs : List UInt8) (a : Nat) (v q i : Value) : Prop := ∃ k acc : Nat, i = .int .i64 k ∧ q = .int .u64 ((128 ^ k : Nat) : Int) ∧ v = .int .u64 (acc : Int) ∧ k ≤ 9 ∧ a + k ≤ bs.length ∧ acc < 128 ^ k ∧ getP bs a = rd k acc (bs.drop (a + k))

theorem wrap_mul (c P t : Nat) (h : c % 128 * P = t) (ht : t < 2 ^ 64) : IntKind.u64.wrap ((c : Int) % 128 * (P : Int)) = (t : Int) := by
  have e : (c : Int) % 128 * (P : Int) = ((c % 128 * P : Nat) : Int) := by simp
  rw [e, h, IntKind.wrap_u64]
  omega
theorem wrap_pow (k P P2 : Nat) (h : 128 ^ k = P) (h2 : 128 ^ (k + 1) = P2) (hk : k + 1 ≤ 9) : IntKind.u64.wrap ((P : Int) * 128) = (P2 : Int) := by
  have h9 : 128 ^ (k + 1) ≤ 128 ^ 9 := Nat.pow_le_pow_right (by omega) hk
  have e9 : (128 : Nat) ^ 9 = 2 ^ 63 := by decide
  rw [h2, e9] at h9
  rw [Nat.pow_succ, h] at h2
  rw [IntKind.wrap_u64]
  omega

set_option maxRecDepth 100000 in
set_option maxHeartbeats 8000000 in
theorem ref_in (bs : List UInt8) (a b off cap : Nat) (w : World) (ha : a < bs.length) (hn : (bs.length : Int) ≤ 9223372036854775807) (hc : ∀ j u, bs[j]? = some u → w.cell? ⟨b, off + j, none⟩ = some (u8 u)) :
    Calls Try.prog 12 #[.slice (some ⟨b, off, none⟩) bs.length cap, .int .i64 (a : Int)] w (R3 (getP bs a) w) := by
  have H0 := hide (show RRel bs a (.int .u64 0) (.int .u64 1) (.int .i64 0) from ⟨0, 0, rfl, rfl, rfl, by omega, by omega, by omega, getP_start (by omega)⟩)
  have HC := hide hc
  have ha1 : (a : Int) < (bs.length : Int) := by omega
  clear hc
  obtain ⟨n, hnn⟩ : ∃ n, bs.length = n := ⟨_, rfl⟩
  have HN := hide hnn
  rw [hnn] at ha1 hn ha ⊢
  clear hnn
  go_enter Try.func12, Try.ntmps12
  go_wp2_with fail
  go_loop [7, 8, 9] (fun v q i => RRel bs a v q i) (fun _ _ i => n - (intOf i).toNat)
  case atStart => exact unhide H0
  case round =>
    obtain ⟨k, acc, rfl, rfl, rfl, hk, hak, hacc, hg⟩ := hrel
    go_hideQ
    rw [unhide HN] at hak
    have hp63 : 128 ^ k ≤ 2 ^ 63 := by
      have : 128 ^ k ≤ 128 ^ 9 := Nat.pow_le_pow_right (by omega) hk
      have : (128 : Nat) ^ 9 = 2 ^ 63 := by decide
      omega
    obtain ⟨P, hP⟩ : ∃ P, 128 ^ k = P := ⟨_, rfl⟩
    have HG := hide hg
    have HA := hide hacc
    have HP := hide hP
    rw [hP] at hp63 hacc ⊢
    have hac64 : (acc : Int) ≤ 18446744073709551615 := by omega
    have hPi : (P : Int) ≤ 9223372036854775808 := by omega
    have hk9 : (k : Int) ≤ 9 := by omega
    clear hg hacc hak hP hp63
    by_cases hlt : a + k < n
    · obtain ⟨c8, hc8⟩ : ∃ c8, bs[a + k]? = some c8 := ⟨_, List.getElem?_eq_getElem (by rw [unhide HN]; omega)⟩
      obtain ⟨c, hcc⟩ : ∃ c, c8.toNat = c := ⟨_, rfl⟩
      have hc256 : c < 256 := by have := byte_nat c8; omega
      have hci : (c : Int) < 256 := by omega
      have hcell : w.cell? ⟨b, off + (a + k), none⟩ = some (.int .u8 (c : Int)) := by
        rw [← hcc]
        exact (unhide HC) (a + k) c8 hc8
      have hlt1 : (k : Int) < (n : Int) - (a : Int) := by omega
      have hlt2 : (a : Int) + (k : Int) < (n : Int) := by omega
      have htn : ((a : Int) + (k : Int)).toNat = a + k := by omega
      have HC8 := hide hc8
      have HCC := hide hcc
      have H256 := hide hc256
      clear hc8 hcc hlt hc256
      /- ways -/
      /- ways -/
      /- ways -/
      by_cases h0 : k = 0
      · have e9 : ((k : Int) == 9) = false := by simp; omega
        have e0 : decide (0 < k) = false := by simp; omega
        have HB := hide (show ¬ bad k c by unfold bad; omega)
        clear h0
        by_cases hlo : (c : Int) < 128
        · obtain ⟨t1, t2, t3⟩ := adds hk (unhide HA) (unhide HB)
          obtain ⟨t, ht⟩ : ∃ t, c % 128 * 128 ^ k = t := ⟨_, rfl⟩
          obtain ⟨s, hs⟩ : ∃ s, acc + t = s := ⟨_, rfl⟩
          obtain ⟨P2, hP2⟩ : ∃ P2, 128 ^ (k + 1) = P2 := ⟨_, rfl⟩
          rw [ht] at t1 t2 t3
          rw [hs] at t2 t3
          have hmul := wrap_mul c P t (by rw [← unhide HP]; exact ht) t1
          have hadd : IntKind.u64.wrap ((acc : Int) + (t : Int)) = (s : Int) := by rw [IntKind.wrap_u64]; omega
          have HT := hide ht
          have HS := hide hs
          have HLO := hide hlo
          clear ht hs hP2 t1 t2 t3
          go_wp2_with fail
          go_ret3
          refine ⟨?_, rfl⟩
          rw [g_end (unhide HG) (unhide HC8) hk (by rw [unhide HCC]; exact unhide HB) (by rw [unhide HCC]; have := unhide HLO; omega)]
          rw [unhide HCC, unhide HT, unhide HS]
          rfl
        · have hlo : (128 : Int) ≤ c := by omega
          obtain ⟨t1, t2, t3⟩ := adds hk (unhide HA) (unhide HB)
          obtain ⟨t, ht⟩ : ∃ t, c % 128 * 128 ^ k = t := ⟨_, rfl⟩
          obtain ⟨s, hs⟩ : ∃ s, acc + t = s := ⟨_, rfl⟩
          obtain ⟨P2, hP2⟩ : ∃ P2, 128 ^ (k + 1) = P2 := ⟨_, rfl⟩
          rw [ht] at t1 t2 t3
          rw [hs] at t2 t3
          have hmul := wrap_mul c P t (by rw [← unhide HP]; exact ht) t1
          have hadd : IntKind.u64.wrap ((acc : Int) + (t : Int)) = (s : Int) := by rw [IntKind.wrap_u64]; omega
          have hpw : IntKind.u64.wrap ((P : Int) * 128) = (P2 : Int) := wrap_pow k P P2 (unhide HP) hP2 (t3 (by omega)).2
          have HT := hide ht
          have HS := hide hs
          have HP2 := hide hP2
          have HLO := hide hlo
          have HT3 := hide t3
          clear ht hs hP2 t1 t2 t3
          go_wp2_with fail
          have hR : RRel bs a (.int .u64 (s : Int)) (.int .u64 (P2 : Int)) (.int .i64 ((k : Int) + 1)) := by
            have hl : ¬ c < 128 := by have := unhide HLO; omega
            have t3 := (unhide HT3) hl
            have hgo := g_on (unhide HG) (unhide HC8) hk (by rw [unhide HCC]; exact unhide HB) (by rw [unhide HCC]; exact hl)
            rw [unhide HCC, unhide HT, unhide HS] at hgo
            exact ⟨k + 1, s, by go_num, by rw [unhide HP2], rfl, t3.2, by rw [unhide HN]; omega, t3.1, hgo⟩
          exact ⟨⟨_, _, _, _, _, _, hR, rfl, rfl, rfl, rfl, rfl, rfl⟩, by simp [intOf]; omega⟩
      · by_cases h9 : k = 9
        · have e9 : ((k : Int) == 9) = true := by simp; omega
          have e0 : decide (0 < k) = true := by simp; omega
          by_cases hc1 : c = 1
          · have eM : decide ((1 : Int) < (c : Int) % 128) = false := by simp; omega
            have ec : ((c : Int) == 0) = false := by simp; omega
            have HB := hide (show ¬ bad k c by unfold bad; omega)
            have hlo : (c : Int) < 128 := by omega
            clear h0 h9 hc1
            obtain ⟨t1, t2, t3⟩ := adds hk (unhide HA) (unhide HB)
            obtain ⟨t, ht⟩ : ∃ t, c % 128 * 128 ^ k = t := ⟨_, rfl⟩
            obtain ⟨s, hs⟩ : ∃ s, acc + t = s := ⟨_, rfl⟩
            obtain ⟨P2, hP2⟩ : ∃ P2, 128 ^ (k + 1) = P2 := ⟨_, rfl⟩
            rw [ht] at t1 t2 t3
            rw [hs] at t2 t3
            have hmul := wrap_mul c P t (by rw [← unhide HP]; exact ht) t1
            have hadd : IntKind.u64.wrap ((acc : Int) + (t : Int)) = (s : Int) := by rw [IntKind.wrap_u64]; omega
            have HT := hide ht
            have HS := hide hs
            have HLO := hide hlo
            clear ht hs hP2 t1 t2 t3
            go_wp2_with fail
            go_ret3
            refine ⟨?_, rfl⟩
            rw [g_end (unhide HG) (unhide HC8) hk (by rw [unhide HCC]; exact unhide HB) (by rw [unhide HCC]; have := unhide HLO; omega)]
            rw [unhide HCC, unhide HT, unhide HS]
            rfl
          · by_cases hcm : 1 < c % 128
            · have eM : decide ((1 : Int) < (c : Int) % 128) = true := by simp; omega
              have HB := hide (show bad k c by unfold bad; omega)
              clear h0 h9 hc1 hcm
              go_wp2_with fail
              all_goals
                go_ret3
                refine ⟨?_, rfl⟩
                rw [g_bad (unhide HG) (unhide HC8) hk (by rw [unhide HCC]; exact unhide HB)]
                rfl
            · have eM : decide ((1 : Int) < (c : Int) % 128) = false := by simp; omega
              by_cases hc0 : c = 0
              · have ec : ((c : Int) == 0) = true := by simp; omega
                have HB := hide (show bad k c by unfold bad; omega)
                clear h0 h9 hc1 hcm hc0
                go_wp2_with fail
                all_goals
                  go_ret3
                  refine ⟨?_, rfl⟩
                  rw [g_bad (unhide HG) (unhide HC8) hk (by rw [unhide HCC]; exact unhide HB)]
                  rfl
              · have hlo : (128 : Int) ≤ c := by omega
                have ec : ((c : Int) == 0) = false := by simp; omega
                have HB := hide (show bad k c by unfold bad; omega)
                clear h0 h9 hc1 hcm hc0
                go_wp2_with fail
                all_goals
                  go_ret3
                  refine ⟨?_, rfl⟩
                  rw [g_bad (unhide HG) (unhide HC8) hk (by rw [unhide HCC]; exact unhide HB)]
                  rfl
        · have e9 : ((k : Int) == 9) = false := by simp; omega
          have e0 : decide (0 < k) = true := by simp; omega
          by_cases hc0 : c = 0
          · have ec : ((c : Int) == 0) = true := by simp; omega
            have HB := hide (show bad k c by unfold bad; omega)
            clear h0 h9 hc0
            go_wp2_with fail
            all_goals
              go_ret3
              refine ⟨?_, rfl⟩
              rw [g_bad (unhide HG) (unhide HC8) hk (by rw [unhide HCC]; exact unhide HB)]
              rfl
          · have ec : ((c : Int) == 0) = false := by simp; omega
            have HB := hide (show ¬ bad k c by unfold bad; omega)
            clear h0 h9 hc0
            by_cases hlo : (c : Int) < 128
            · obtain ⟨t1, t2, t3⟩ := adds hk (unhide HA) (unhide HB)
              obtain ⟨t, ht⟩ : ∃ t, c % 128 * 128 ^ k = t := ⟨_, rfl⟩
              obtain ⟨s, hs⟩ : ∃ s, acc + t = s := ⟨_, rfl⟩
              obtain ⟨P2, hP2⟩ : ∃ P2, 128 ^ (k + 1) = P2 := ⟨_, rfl⟩
              rw [ht] at t1 t2 t3
              rw [hs] at t2 t3
              have hmul := wrap_mul c P t (by rw [← unhide HP]; exact ht) t1
              have hadd : IntKind.u64.wrap ((acc : Int) + (t : Int)) = (s : Int) := by rw [IntKind.wrap_u64]; omega
              have HT := hide ht
              have HS := hide hs
              have HLO := hide hlo
              clear ht hs hP2 t1 t2 t3
              go_wp2_with fail
              go_ret3
              refine ⟨?_, rfl⟩
              rw [g_end (unhide HG) (unhide HC8) hk (by rw [unhide HCC]; exact unhide HB) (by rw [unhide HCC]; have := unhide HLO; omega)]
              rw [unhide HCC, unhide HT, unhide HS]
              rfl
            · have hlo : (128 : Int) ≤ c := by omega
              obtain ⟨t1, t2, t3⟩ := adds hk (unhide HA) (unhide HB)
              obtain ⟨t, ht⟩ : ∃ t, c % 128 * 128 ^ k = t := ⟨_, rfl⟩
              obtain ⟨s, hs⟩ : ∃ s, acc + t = s := ⟨_, rfl⟩
              obtain ⟨P2, hP2⟩ : ∃ P2, 128 ^ (k + 1) = P2 := ⟨_, rfl⟩
              rw [ht] at t1 t2 t3
              rw [hs] at t2 t3
              have hmul := wrap_mul c P t (by rw [← unhide HP]; exact ht) t1
              have hadd : IntKind.u64.wrap ((acc : Int) + (t : Int)) = (s : Int) := by rw [IntKind.wrap_u64]; omega
              have hpw : IntKind.u64.wrap ((P : Int) * 128) = (P2 : Int) := wrap_pow k P P2 (unhide HP) hP2 (t3 (by omega)).2
              have HT := hide ht
              have HS := hide hs
              have HP2 := hide hP2
              have HLO := hide hlo
              have HT3 := hide t3
              clear ht hs hP2 t1 t2 t3
              go_wp2_with fail
              have hR : RRel bs a (.int .u64 (s : Int)) (.int .u64 (P2 : Int)) (.int .i64 ((k : Int) + 1)) := by
                have hl : ¬ c < 128 := by have := unhide HLO; omega
                have t3 := (unhide HT3) hl
                have hgo := g_on (unhide HG) (unhide HC8) hk (by rw [unhide HCC]; exact unhide HB) (by rw [unhide HCC]; exact hl)
                rw [unhide HCC, unhide HT, unhide HS] at hgo
                exact ⟨k + 1, s, by go_num, by rw [unhide HP2], rfl, t3.2, by rw [unhide HN]; omega, t3.1, hgo⟩
              exact ⟨⟨_, _, _, _, _, _, hR, rfl, rfl, rfl, rfl, rfl, rfl⟩, by simp [intOf]; omega⟩
    · have hge : (n : Int) - (a : Int) ≤ (k : Int) := by omega
      have HE := hide (g_short (unhide HG) (by rw [unhide HN]; omega) hk)
      clear hlt
      go_wp2_with fail
      go_ret3
      rw [unhide HE]
      exact ⟨rfl, rfl⟩
end Go.Proofs.Ytldahjgafkhobaa.Vi
