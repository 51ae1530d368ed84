/-
  math/bits.Len64 and vint.size, walked: how many bits a number has, and how many bytes. Condition: a number below 2^64.
-/
import Derived.Test.YtldahjgafkhobaaSymMem
import Derived.Test.YtldahjgafkhobaaViPure2
import Derived.Test.YtldahjgafkhobaaProg
import Derived.Lib.Tables
import Derived.LoopTactic
import Derived.Lib.Walk
import Derived.IntWalk
import Derived.KernelRfl
import Derived.Outline
set_option linter.unusedVariables false
set_option linter.unusedSimpArgs false
namespace Go.Proofs.Ytldahjgafkhobaa.Vi
open Go.RowKit Go.Proofs.Ytldahjgafkhobaa.Mem

set_option maxRecDepth 100000 in
theorem len8_all : ∀ j : Fin 256, Lib.len8 (j.val : Int) = bitLen j.val := by decide +kernel
theorem len8_nat (i : Nat) (h : i < 256) : Lib.len8 (i : Int) = bitLen i := len8_all ⟨i, h⟩

theorem len8_le (y : Int) (h0 : 0 ≤ y) (h1 : y < 256) : 0 ≤ Lib.len8 y ∧ Lib.len8 y ≤ 8 := by
  obtain ⟨i, rfl⟩ := Int.eq_ofNat_of_zero_le h0
  rw [len8_nat i (by omega)]
  have := bitLen_le8 i (by omega)
  omega
theorem tab_v (y : Int) (h : y.toNat < Lib.len8tab.size) : ((Lib.len8tab[y.toNat]'h).toNat : Int) = Lib.len8 y := by simp only [Lib.len8, ByteArray.getElem?_lt' _ _ h, Option.getD_some]
theorem fin_k (k y : Int) (hk : 0 ≤ k ∧ k ≤ 56) (h : y.toNat < Lib.len8tab.size) (h1 : 0 ≤ Lib.len8 y) (h2 : Lib.len8 y ≤ 8) : wrap64 (k + wrap64 ((Lib.len8tab[y.toNat]'h).toNat : Int)) = k + Lib.len8 y := by
  rw [tab_v]
  unfold wrap64
  omega
theorem fin_0 (y : Int) (h : y.toNat < Lib.len8tab.size) (h1 : 0 ≤ Lib.len8 y) (h2 : Lib.len8 y ≤ 8) : wrap64 (wrap64 ((Lib.len8tab[y.toNat]'h).toNat : Int)) = Lib.len8 y := by
  rw [tab_v]
  unfold wrap64
  omega
theorem ret_i {a b : Int} (h : a = b) : Ending.returned (.int .i64 a) = .returned (.int .i64 b) := by rw [h]
set_option maxRecDepth 100000 in
set_option maxHeartbeats 1000000 in
theorem len64_0 (x : Int) (h0 : 0 ≤ x) (h1 : x < 4294967296) (h2 : x < 65536) (h3 : x < 256) (hy0 : 0 ≤ x) (hy : x < 256) (w : World) : Calls Try.prog 20 #[.int .u64 x] w fun e w' => e = .returned (.int .i64 (Lib.len8 x)) ∧ w' = w := by
  have hl := len8_le (x) hy0 hy
  obtain ⟨hl1, hl2⟩ := hl
  go_enter Try.func20, Try.ntmps20
  go_wp2
  go_ret
  exact ⟨ret_i (fin_0 _ _ hl1 hl2), rfl⟩
set_option maxRecDepth 100000 in
set_option maxHeartbeats 1000000 in
theorem len64_1 (x : Int) (h0 : 0 ≤ x) (h1 : x < 4294967296) (h2 : x < 65536) (h3 : 256 ≤ x) (hy0 : 0 ≤ x / 256) (hy : x / 256 < 256) (w : World) : Calls Try.prog 20 #[.int .u64 x] w fun e w' => e = .returned (.int .i64 (8 + Lib.len8 (x / 256))) ∧ w' = w := by
  have hl := len8_le (x / 256) hy0 hy
  obtain ⟨hl1, hl2⟩ := hl
  go_enter Try.func20, Try.ntmps20
  go_wp2
  go_ret
  exact ⟨ret_i (fin_k _ _ (by omega) _ hl1 hl2), rfl⟩
set_option maxRecDepth 100000 in
set_option maxHeartbeats 1000000 in
theorem len64_2 (x : Int) (h0 : 0 ≤ x) (h1 : x < 4294967296) (h2 : 65536 ≤ x) (h3 : x / 65536 < 256) (hy0 : 0 ≤ x / 65536) (hy : x / 65536 < 256) (w : World) : Calls Try.prog 20 #[.int .u64 x] w fun e w' => e = .returned (.int .i64 (16 + Lib.len8 (x / 65536))) ∧ w' = w := by
  have hl := len8_le (x / 65536) hy0 hy
  obtain ⟨hl1, hl2⟩ := hl
  go_enter Try.func20, Try.ntmps20
  go_wp2
  go_ret
  exact ⟨ret_i (fin_k _ _ (by omega) _ hl1 hl2), rfl⟩
set_option maxRecDepth 100000 in
set_option maxHeartbeats 1000000 in
theorem len64_3 (x : Int) (h0 : 0 ≤ x) (h1 : x < 4294967296) (h2 : 65536 ≤ x) (h3 : 256 ≤ x / 65536) (hy0 : 0 ≤ x / 65536 / 256) (hy : x / 65536 / 256 < 256) (w : World) : Calls Try.prog 20 #[.int .u64 x] w fun e w' => e = .returned (.int .i64 (24 + Lib.len8 (x / 65536 / 256))) ∧ w' = w := by
  have hl := len8_le (x / 65536 / 256) hy0 hy
  obtain ⟨hl1, hl2⟩ := hl
  go_enter Try.func20, Try.ntmps20
  go_wp2
  go_ret
  exact ⟨ret_i (fin_k _ _ (by omega) _ hl1 hl2), rfl⟩
set_option maxRecDepth 100000 in
set_option maxHeartbeats 1000000 in
theorem len64_4 (x : Int) (h0 : 0 ≤ x) (h1 : 4294967296 ≤ x) (h2 : x / 4294967296 < 65536) (h3 : x / 4294967296 < 256) (hy0 : 0 ≤ x / 4294967296) (hy : x / 4294967296 < 256) (w : World) : Calls Try.prog 20 #[.int .u64 x] w fun e w' => e = .returned (.int .i64 (32 + Lib.len8 (x / 4294967296))) ∧ w' = w := by
  have hl := len8_le (x / 4294967296) hy0 hy
  obtain ⟨hl1, hl2⟩ := hl
  go_enter Try.func20, Try.ntmps20
  go_wp2
  go_ret
  exact ⟨ret_i (fin_k _ _ (by omega) _ hl1 hl2), rfl⟩
set_option maxRecDepth 100000 in
set_option maxHeartbeats 1000000 in
theorem len64_5 (x : Int) (h0 : 0 ≤ x) (h1 : 4294967296 ≤ x) (h2 : x / 4294967296 < 65536) (h3 : 256 ≤ x / 4294967296) (hy0 : 0 ≤ x / 4294967296 / 256) (hy : x / 4294967296 / 256 < 256) (w : World) : Calls Try.prog 20 #[.int .u64 x] w fun e w' => e = .returned (.int .i64 (40 + Lib.len8 (x / 4294967296 / 256))) ∧ w' = w := by
  have hl := len8_le (x / 4294967296 / 256) hy0 hy
  obtain ⟨hl1, hl2⟩ := hl
  go_enter Try.func20, Try.ntmps20
  go_wp2
  go_ret
  exact ⟨ret_i (fin_k _ _ (by omega) _ hl1 hl2), rfl⟩
set_option maxRecDepth 100000 in
set_option maxHeartbeats 1000000 in
theorem len64_6 (x : Int) (h0 : 0 ≤ x) (h1 : 4294967296 ≤ x) (h2 : 65536 ≤ x / 4294967296) (h3 : x / 4294967296 / 65536 < 256) (hy0 : 0 ≤ x / 4294967296 / 65536) (hy : x / 4294967296 / 65536 < 256) (w : World) : Calls Try.prog 20 #[.int .u64 x] w fun e w' => e = .returned (.int .i64 (48 + Lib.len8 (x / 4294967296 / 65536))) ∧ w' = w := by
  have hl := len8_le (x / 4294967296 / 65536) hy0 hy
  obtain ⟨hl1, hl2⟩ := hl
  go_enter Try.func20, Try.ntmps20
  go_wp2
  go_ret
  exact ⟨ret_i (fin_k _ _ (by omega) _ hl1 hl2), rfl⟩
set_option maxRecDepth 100000 in
set_option maxHeartbeats 1000000 in
theorem len64_7 (x : Int) (h0 : 0 ≤ x) (h1 : 4294967296 ≤ x) (h2 : 65536 ≤ x / 4294967296) (h3 : 256 ≤ x / 4294967296 / 65536) (hy0 : 0 ≤ x / 4294967296 / 65536 / 256) (hy : x / 4294967296 / 65536 / 256 < 256) (w : World) : Calls Try.prog 20 #[.int .u64 x] w fun e w' => e = .returned (.int .i64 (56 + Lib.len8 (x / 4294967296 / 65536 / 256))) ∧ w' = w := by
  have hl := len8_le (x / 4294967296 / 65536 / 256) hy0 hy
  obtain ⟨hl1, hl2⟩ := hl
  go_enter Try.func20, Try.ntmps20
  go_wp2
  go_ret
  exact ⟨ret_i (fin_k _ _ (by omega) _ hl1 hl2), rfl⟩
theorem len8_bit (y : Int) (h0 : 0 ≤ y) (h1 : y < 256) : Lib.len8 y = bitLen y.toNat := by
  obtain ⟨i, rfl⟩ := Int.eq_ofNat_of_zero_le h0
  rw [len8_nat i (by omega), Int.toNat_natCast]
theorem shift_k (n b : Nat) (d : Int) (hd : d = ((2 ^ b : Nat) : Int)) (h : 1 ≤ (n : Int) / d) : bitLen n = b + bitLen ((n : Int) / d).toNat := by
  subst hd
  have e : ((n : Int) / ((2 ^ b : Nat) : Int)).toNat = n / 2 ^ b := by rw [← Int.natCast_ediv, Int.toNat_natCast]
  rw [e]
  refine bitLen_shift n b ?_
  rw [← Int.natCast_ediv] at h
  omega
theorem len64_any (n : Nat) (hn : (n : Int) ≤ 18446744073709551615) (w : World) : Calls Try.prog 20 #[.int .u64 n] w fun e w' => e = .returned (.int .i64 (bitLen n)) ∧ w' = w := by
  have fin : ∀ (k b : Nat) (y : Int), 0 ≤ y → y < 256 → bitLen n = k + bitLen y.toNat → Calls Try.prog 20 #[.int .u64 n] w (fun e w' => e = .returned (.int .i64 (k + Lib.len8 y)) ∧ w' = w) → Calls Try.prog 20 #[.int .u64 n] w fun e w' => e = .returned (.int .i64 (bitLen n)) ∧ w' = w := by
    intro k b y h0 h1 h2 h
    refine h.mono fun e w' ⟨he, hw⟩ => ⟨?_, hw⟩
    rw [he, h2, len8_bit y h0 h1]
    exact ret_i (by simp)
  by_cases a : (n : Int) < 4294967296
  · by_cases b : (n : Int) < 65536
    · by_cases c : (n : Int) < 256
      · refine (len64_0 n (by omega) a b c (by omega) c w).mono fun e w' ⟨he, hw⟩ => ⟨?_, hw⟩
        rw [he, len8_bit n (by omega) c, Int.toNat_natCast]
      · exact fin 8 0 _ (by omega) (by omega) (shift_k n 8 256 rfl (by omega)) (len64_1 n (by omega) a b (by omega) (by omega) (by omega) w)
    · by_cases c : (n : Int) / 65536 < 256
      · exact fin 16 0 _ (by omega) (by omega) (shift_k n 16 65536 rfl (by omega)) (len64_2 n (by omega) a (by omega) c (by omega) (by omega) w)
      · exact fin 24 0 _ (by omega) (by omega) (by rw [show (n : Int) / 65536 / 256 = (n : Int) / 16777216 by omega]; exact shift_k n 24 16777216 rfl (by omega)) (len64_3 n (by omega) a (by omega) (by omega) (by omega) (by omega) w)
  · by_cases b : (n : Int) / 4294967296 < 65536
    · by_cases c : (n : Int) / 4294967296 < 256
      · exact fin 32 0 _ (by omega) (by omega) (shift_k n 32 4294967296 rfl (by omega)) (len64_4 n (by omega) (by omega) b c (by omega) (by omega) w)
      · exact fin 40 0 _ (by omega) (by omega) (by rw [show (n : Int) / 4294967296 / 256 = (n : Int) / 1099511627776 by omega]; exact shift_k n 40 1099511627776 rfl (by omega)) (len64_5 n (by omega) (by omega) b (by omega) (by omega) (by omega) w)
    · by_cases c : (n : Int) / 4294967296 / 65536 < 256
      · exact fin 48 0 _ (by omega) (by omega) (by rw [show (n : Int) / 4294967296 / 65536 = (n : Int) / 281474976710656 by omega]; exact shift_k n 48 281474976710656 rfl (by omega)) (len64_6 n (by omega) (by omega) (by omega) c (by omega) (by omega) w)
      · exact fin 56 0 _ (by omega) (by omega) (by rw [show (n : Int) / 4294967296 / 65536 / 256 = (n : Int) / 72057594037927936 by omega]; exact shift_k n 56 72057594037927936 rfl (by omega)) (len64_7 n (by omega) (by omega) (by omega) (by omega) (by omega) (by omega) w)

set_option maxRecDepth 100000 in
set_option maxHeartbeats 1000000 in
theorem size_any (n : Nat) (hn : (n : Int) ≤ 18446744073709551615) (w : World) : Calls Try.prog 18 #[.int .u64 n] w fun e w' => e = .returned (.int .i64 (enc n).length) ∧ w' = w := by
  have HE := hide (enc_blen n)
  have hl : bitLen n ≤ 64 := blen_le (by omega)
  have C := hide (len64_any n hn w)
  go_enter Try.func18, Try.ntmps18
  go_wp2_with fail
  refine (unhide C).mono ?_
  rintro e w1 ⟨rfl, rfl⟩
  clear C
  go_wp2
  go_ret
  refine ⟨ret_i ?_, rfl⟩
  rw [unhide HE]
  omega
end Go.Proofs.Ytldahjgafkhobaa.Vi
