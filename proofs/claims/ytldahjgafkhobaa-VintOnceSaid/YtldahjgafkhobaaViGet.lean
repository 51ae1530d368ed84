/-
  vint.Get, vint.GetSigned and the reference's Get, walked: at any place of any bytes the number that stands there, how many bytes it has, and the error. Conditions: the bytes lie in memory; the place is an int.
-/
import Derived.Test.YtldahjgafkhobaaViBytes
import Derived.Test.YtldahjgafkhobaaViPure3
import Derived.WalkHide
set_option linter.unusedVariables false
set_option linter.unusedSimpArgs false
namespace Go.Proofs.Ytldahjgafkhobaa.Vi
open Go.RowKit Go.Proofs.Ytldahjgafkhobaa.Mem

def G3 (x : Nat × Nat × Nat) (w : World) (e : Ending) (w' : World) : Prop := e = .returned (.tuple #[.int .u64 (x.1 : Int), .int .i64 (x.2.1 : Int), .int .i64 (x.2.2 : Int)]) ∧ w' = w

theorem run_shl (d k : Nat) (hk : k ≤ 9) (hd : d * 128 ^ k < 2 ^ 64) (W : World) : Sem.run Try.prog (Op.shift .shl .u64 (d : Int) .i64 (7 * (k : Int))) W = .ok (.int .u64 ((d * 128 ^ k : Nat) : Int)) W := by
  have h0 : (0 : Int) ≤ 7 * (k : Int) := by omega
  have e : min (7 * (k : Int)).toNat IntKind.u64.bits = 7 * k := by simp [IntKind.bits]; omega
  have h : Op.shift .shl .u64 (d : Int) .i64 (7 * (k : Int)) = pure (.int .u64 (IntKind.u64.wrap ((d : Int) * 2 ^ min (7 * (k : Int)).toNat IntKind.u64.bits))) := by
    simp [Op.shift, Int.not_lt.mpr h0]
  rw [h, e, show ((2 : Int) ^ (7 * k)) = ((128 ^ k : Nat) : Int) by rw [← p128]; simp, ← Int.natCast_mul, IntKind.wrap_u64]
  have e2 : ((d * 128 ^ k : Nat) : Int) % 18446744073709551616 = ((d * 128 ^ k : Nat) : Int) := by omega
  rw [e2]
  rfl
theorem not_lo (c : Nat) (hc : c < 256) : bits .andNot .u8 (c : Int) 128 = ((c % 128 : Nat) : Int) := by
  have h := u8_andNot_nat c 128 hc (by omega)
  rw [and_lo ⟨c, hc⟩] at h
  exact h
theorem hi_0 (c : Nat) (hc : c < 128) : bits .and .u8 (c : Int) 128 = 0 := by
  have h := u8_and_nat c 128 (by omega) (by omega)
  rw [and_hi ⟨c, by omega⟩, if_pos hc] at h
  exact h
theorem hi_1 (c : Nat) (h1 : ¬ c < 128) (hc : c < 256) : bits .and .u8 (c : Int) 128 = 128 := by
  have h := u8_and_nat c 128 (by omega) (by omega)
  rw [and_hi ⟨c, by omega⟩, if_neg h1] at h
  exact h
theorem or_64 (k acc d : Nat) (ha : acc < 128 ^ k) (h1 : acc < 2 ^ 64) (h2 : d * 128 ^ k < 2 ^ 64) : bits .or .u64 (acc : Int) ((d * 128 ^ k : Nat) : Int) = ((acc + d * 128 ^ k : Nat) : Int) := by
  have h := u64_or_nat acc (d * 128 ^ k) (by omega) (by omega)
  rw [or_add ha] at h
  exact h

set_option maxHeartbeats 1000000 in
theorem may_any (c k : Nat) (hc : c < 256) (hk : k ≤ 9) (w : World) : Calls Try.prog 19 #[.int .u8 (c : Int), .int .i64 (k : Int)] w fun e w' => e = .returned (.bool (decide (¬ bad k c))) ∧ w' = w := by
  have ret_b : ∀ a b : Bool, a = b → Ending.returned (.bool a) = .returned (.bool b) := fun a b h => by rw [h]
  by_cases h9 : (k : Int) = 9
  · have hk9 : ((k : Int) == 9) = true := by simp [h9]
    have H9 := hide h9
    clear h9
    go_enter Try.func19, Try.ntmps19
    go_wp2
    go_ret
    refine ⟨ret_b _ _ ?_, rfl⟩
    have := unhide H9
    unfold bad
    rw [Bool.eq_iff_iff]
    simp
    omega
  · have hk9 : ((k : Int) == 9) = false := by simp; omega
    have H9 := hide h9
    clear h9
    by_cases h0 : (c : Int) = 0
    · have hc0 : ((c : Int) != 0) = false := by simp [h0]
      have H0 := hide h0
      clear h0
      go_enter Try.func19, Try.ntmps19
      go_wp2
      go_ret
      refine ⟨ret_b _ _ ?_, rfl⟩
      have := unhide H9
      have := unhide H0
      unfold bad
      rw [Bool.eq_iff_iff]
      simp
      omega
    · have hc0 : ((c : Int) != 0) = true := by simp; omega
      have H0 := hide h0
      clear h0
      go_enter Try.func19, Try.ntmps19
      go_wp2
      go_ret
      refine ⟨ret_b _ _ ?_, rfl⟩
      have := unhide H9
      have := unhide H0
      unfold bad
      rw [eq_comm, decide_eq_true_iff]
      omega

set_option maxHeartbeats 1000000 in
theorem get_out (n cap : Nat) (A : Option Addr) (p : Int) (w : World) (h : p < 0 ∨ (n : Int) < p) : Calls Try.prog 10 #[.slice A n cap, .int .i64 p] w (G3 (0, 0, 10) w) := by
  by_cases h0 : p < 0
  · clear h
    go_enter Try.func10, Try.ntmps10
    go_wp2_with fail
    go_ret3
    exact ⟨rfl, rfl⟩
  · have h1 : (n : Int) < p := by omega
    clear h
    go_enter Try.func10, Try.ntmps10
    go_wp2_with fail
    go_ret3
    exact ⟨rfl, rfl⟩
set_option maxHeartbeats 1000000 in
theorem get_end (n cap : Nat) (A : Option Addr) (w : World) (hn : (n : Int) ≤ 9223372036854775807) : Calls Try.prog 10 #[.slice A n cap, .int .i64 (n : Int)] w (G3 (0, 0, 14) w) := by
  go_enter Try.func10, Try.ntmps10
  go_wp2_with fail
  go_loop [7, 22] (fun v i => v = .int .u64 0 ∧ i = .int .i64 0) (fun _ _ => 0)
  case atStart => exact ⟨rfl, rfl⟩
  case round =>
    obtain ⟨rfl, rfl⟩ := hrel
    go_wp2_with fail
    go_ret3
    exact ⟨rfl, rfl⟩
def GRel (bs : List UInt8) (a : Nat) (v i : Value) : Prop := ∃ k acc : Nat, i = .int .i64 k ∧ v = .int .u64 (acc : Int) ∧ k ≤ 9 ∧ a + k ≤ bs.length ∧ acc < 128 ^ k ∧ getP bs a = rd k acc (bs.drop (a + k))

set_option maxRecDepth 100000 in
set_option maxHeartbeats 4000000 in
theorem get_in (bs : List UInt8) (a b off cap : Nat) (w : World) (ha : a < bs.length) (hn : (bs.length : Int) ≤ 9223372036854775807) (hc : ∀ j u, bs[j]? = some u → w.cell? ⟨b, off + j, none⟩ = some (u8 u)) :
    Calls Try.prog 10 #[.slice (some ⟨b, off, none⟩) bs.length cap, .int .i64 (a : Int)] w (G3 (getP bs a) w) := by
  have H0 := hide (show GRel bs a (.int .u64 0) (.int .i64 0) from ⟨0, 0, rfl, rfl, by omega, by omega, by omega, getP_start (by omega)⟩)
  have HC := hide hc
  have ha1 : (a : Int) < (bs.length : Int) := by omega
  clear hc
  obtain ⟨n, hnn⟩ : ∃ n, bs.length = n := ⟨_, rfl⟩
  have HN := hide hnn
  rw [hnn] at ha1 hn ha ⊢
  clear hnn
  go_enter Try.func10, Try.ntmps10
  go_wp2_with fail
  go_loop [7, 22] (fun v i => GRel bs a v i) (fun _ i => n - (intOf i).toNat)
  case atStart => exact unhide H0
  case round =>
    obtain ⟨k, acc, rfl, rfl, hk, hak, hacc, hg⟩ := hrel
    go_hideQ
    rw [unhide HN] at hak
    have HG := hide hg
    have HA := hide hacc
    have hac64 : (acc : Int) ≤ 18446744073709551615 := by
      have : 128 ^ k ≤ 128 ^ 9 := Nat.pow_le_pow_right (by omega) hk
      have : (128 : Nat) ^ 9 = 2 ^ 63 := by decide
      omega
    have hk9 : (k : Int) ≤ 9 := by omega
    clear hg hacc hak
    by_cases hlt : a + k < n
    · obtain ⟨c8, hc8⟩ : ∃ c8, bs[a + k]? = some c8 := ⟨_, List.getElem?_eq_getElem (by rw [unhide HN]; omega)⟩
      obtain ⟨c, hcc⟩ : ∃ c, c8.toNat = c := ⟨_, rfl⟩
      have hc256 : c < 256 := by have := byte_nat c8; omega
      have hci : (c : Int) < 256 := by omega
      have hcell : w.cell? ⟨b, off + (a + k), none⟩ = some (.int .u8 (c : Int)) := by
        rw [← hcc]
        exact (unhide HC) (a + k) c8 hc8
      have hlt1 : (k : Int) < (n : Int) - (a : Int) := by omega
      have hlt2 : (a : Int) + (k : Int) < (n : Int) := by omega
      have htn : ((a : Int) + (k : Int)).toNat = a + k := by omega
      have HC8 := hide hc8
      have HCC := hide hcc
      have H256 := hide hc256
      clear hc8 hcc hlt hc256
      by_cases hb : bad k c
      · have hm := hide (fun W => may_any c k (unhide H256) hk W)
        have hbd : decide (¬ bad k c) = false := by simp [hb]
        rw [hbd] at hm
        have HB := hide hb
        clear hb hbd
        go_wp2_with (go_at_call 19; refine (unhide hm _).mono ?_; rintro e w1 ⟨rfl, rfl⟩)
        go_ret3
        refine ⟨?_, rfl⟩
        rw [g_bad (unhide HG) (unhide HC8) hk (by rw [unhide HCC]; exact unhide HB)]
        rfl
      · have hm := hide (fun W => may_any c k (unhide H256) hk W)
        have hbd : decide (¬ bad k c) = true := by simp [hb]
        rw [hbd] at hm
        have HB := hide hb
        obtain ⟨t1, t2, t3⟩ := adds hk (unhide HA) hb
        have h1 := not_lo c (unhide H256)
        have h2 := fun W => run_shl (c % 128) k hk t1 W
        have h3 := or_64 k acc (c % 128) (unhide HA) (by omega) t1
        obtain ⟨d, hd⟩ : ∃ d, c % 128 = d := ⟨_, rfl⟩
        obtain ⟨t, ht⟩ : ∃ t, c % 128 * 128 ^ k = t := ⟨_, rfl⟩
        obtain ⟨s, hs⟩ : ∃ s, acc + t = s := ⟨_, rfl⟩
        rw [hd] at h1
        rw [ht] at t1 t2 t3 h3
        simp only [ht] at h2
        rw [hd] at h2
        rw [hs] at t2 t3 h3
        have hdi : (d : Int) < 128 := by omega
        have hti : (t : Int) ≤ 18446744073709551615 := by omega
        have hsi : (s : Int) ≤ 18446744073709551615 := by omega
        have HD := hide hd
        have HT := hide ht
        have HS := hide hs
        have HT3 := hide t3
        clear hb hbd hd ht hs t1 t2 t3
        by_cases hlo : c < 128
        · have h4 := hi_0 c hlo
          have HLO := hide hlo
          clear hlo
          go_wp2_with (go_at_call 19; refine (unhide hm _).mono ?_; rintro e w1 ⟨rfl, rfl⟩)
          go_ret3
          refine ⟨?_, rfl⟩
          rw [g_end (unhide HG) (unhide HC8) hk (by rw [unhide HCC]; exact unhide HB) (by rw [unhide HCC]; exact unhide HLO)]
          rw [unhide HCC, unhide HT, unhide HS]
          rfl
        · have h4 := hi_1 c hlo (unhide H256)
          have HLO := hide hlo
          clear hlo
          go_wp2_with (go_at_call 19; refine (unhide hm _).mono ?_; rintro e w1 ⟨rfl, rfl⟩)
          have hR : GRel bs a (.int .u64 (s : Int)) (.int .i64 ((k : Int) + 1)) := by
            have t3 := (unhide HT3) (unhide HLO)
            have hgo := g_on (unhide HG) (unhide HC8) hk (by rw [unhide HCC]; exact unhide HB) (by rw [unhide HCC]; exact unhide HLO)
            rw [unhide HCC, unhide HT, unhide HS] at hgo
            exact ⟨k + 1, s, by go_num, rfl, t3.2, by rw [unhide HN]; omega, t3.1, hgo⟩
          go_round
          case rel => exact hR
          case measure => simp [intOf]; omega
    · have hge : (n : Int) - (a : Int) ≤ (k : Int) := by omega
      have HE := hide (g_short (unhide HG) (by rw [unhide HN]; omega) hk)
      clear hlt
      go_wp2_with fail
      go_ret3
      rw [unhide HE]
      exact ⟨rfl, rfl⟩
end Go.Proofs.Ytldahjgafkhobaa.Vi
