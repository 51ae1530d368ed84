/-
  Numbers as bytes: how many bytes a number has, by its bits; its bytes one by one. Pure: no program.
-/
import Derived.Test.YtldahjgafkhobaaViPure
import Derived.Laws.MathBits
set_option linter.unusedVariables false
set_option linter.unusedSimpArgs false
namespace Go.Proofs.Ytldahjgafkhobaa.Vi

theorem blen_small {n : Nat} (h : n < 128) : bitLen n ≤ 7 := by
  unfold bitLen
  split
  · omega
  · rename_i h0
    have := (Nat.log2_lt h0).2 (show n < 2 ^ 7 from h)
    omega
theorem blen_pos {n : Nat} (h : n ≠ 0) : 1 ≤ bitLen n := by unfold bitLen; rw [if_neg h]; omega
theorem blen_le {n : Nat} (h : n < 2 ^ 64) : bitLen n ≤ 64 := by
  unfold bitLen
  split
  · omega
  · rename_i h0
    have := (Nat.log2_lt h0).2 h
    omega
/-- how many bytes a number has, by its bits -/
theorem enc_blen (n : Nat) : (enc n).length = max 1 ((bitLen n + 6) / 7) := by
  induction n using Nat.strongRecOn with
  | _ n ih =>
    by_cases hn : n < 128
    · rw [enc_lt hn]
      have := blen_small hn
      simp only [List.length_cons, List.length_nil]
      omega
    · have h := ih (n / 128) (by omega)
      have h1 := bitLen_shift n 7 (by show n / 128 ≠ 0; omega)
      have h2 : n / 2 ^ 7 = n / 128 := rfl
      rw [h2] at h1
      have h3 := blen_pos (n := n / 128) (by omega)
      rw [enc_ge hn, List.length_cons, h, h1]
      omega
theorem enc_get : ∀ (k n : Nat), k + 1 < (enc n).length → (enc n)[k]? = some (UInt8.ofNat (n / 128 ^ k % 128 + 128))
  | 0, n, h => by
    by_cases hn : n < 128
    · rw [enc_lt hn] at h; simp at h
    · rw [enc_ge hn]; simp
  | k + 1, n, h => by
    by_cases hn : n < 128
    · rw [enc_lt hn] at h; simp at h
    · rw [enc_ge hn, List.length_cons] at h
      rw [enc_ge hn, List.getElem?_cons_succ, enc_get k (n / 128) (by omega), Nat.div_div_eq_div_mul, Nat.pow_succ, Nat.mul_comm (128 ^ k)]
theorem enc_last : ∀ (k n : Nat), k + 1 = (enc n).length → (enc n)[k]? = some (UInt8.ofNat (n / 128 ^ k)) ∧ n / 128 ^ k < 128
  | 0, n, h => by
    have hn := enc_one.1 h.symm
    rw [enc_lt hn]; simp [hn]
  | k + 1, n, h => by
    by_cases hn : n < 128
    · rw [enc_lt hn] at h; simp at h
    · rw [enc_ge hn, List.length_cons] at h
      have := enc_last k (n / 128) (by omega)
      rw [Nat.div_div_eq_div_mul, Nat.mul_comm 128, ← Nat.pow_succ] at this
      rw [enc_ge hn, List.getElem?_cons_succ]
      exact this
theorem p128 (k : Nat) : 2 ^ (7 * k) = 128 ^ k := by rw [Nat.pow_mul]
end Go.Proofs.Ytldahjgafkhobaa.Vi
