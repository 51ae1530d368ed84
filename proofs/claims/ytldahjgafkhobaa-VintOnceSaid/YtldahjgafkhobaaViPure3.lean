/-
  Reading a number, byte by byte: the steps of a reader; the arithmetic of its bits. Pure: no program.
-/
import Derived.Test.YtldahjgafkhobaaViPure2
import Derived.Laws.BitsAllLaws
set_option linter.unusedVariables false
set_option linter.unusedSimpArgs false
namespace Go.Proofs.Ytldahjgafkhobaa.Vi

theorem getP_start {bs : List UInt8} {a : Nat} (h : a ≤ bs.length) : getP bs (a : Int) = rd 0 0 (bs.drop (a + 0)) := by
  unfold getP
  rw [if_neg (by omega), Int.toNat_natCast, Nat.add_zero]
theorem getP_out {bs : List UInt8} {p : Int} (h : p < 0 ∨ (bs.length : Int) < p) : getP bs p = (0, 0, 10) := by
  unfold getP
  rw [if_pos h]
theorem drop_at {bs : List UInt8} {j : Nat} {c : UInt8} (hc : bs[j]? = some c) : bs.drop j = c :: bs.drop (j + 1) := by
  obtain ⟨h, rfl⟩ := List.getElem?_eq_some_iff.1 hc
  exact List.drop_eq_getElem_cons h
section
variable {bs : List UInt8} {g : Nat × Nat × Nat} {a k acc : Nat} {c : UInt8}
theorem g_short (hg : g = rd k acc (bs.drop (a + k))) (hl : bs.length ≤ a + k) (hk : k ≤ 9) : g = (0, 0, 14) := by
  rw [hg, List.drop_of_length_le hl, rd, if_neg (by omega)]
theorem g_bad (hg : g = rd k acc (bs.drop (a + k))) (hc : bs[a + k]? = some c) (hk : k ≤ 9) (hb : bad k c.toNat) : g = (0, 0, 11) := by
  rw [hg, drop_at hc, rd, if_neg (by omega), if_pos hb]
theorem g_end (hg : g = rd k acc (bs.drop (a + k))) (hc : bs[a + k]? = some c) (hk : k ≤ 9) (hb : ¬ bad k c.toNat) (h : c.toNat < 128) : g = (acc + c.toNat % 128 * 128 ^ k, k + 1, 0) := by
  rw [hg, drop_at hc, rd, if_neg (by omega), if_neg hb, if_pos h]
theorem g_on (hg : g = rd k acc (bs.drop (a + k))) (hc : bs[a + k]? = some c) (hk : k ≤ 9) (hb : ¬ bad k c.toNat) (h : ¬ c.toNat < 128) : g = rd (k + 1) (acc + c.toNat % 128 * 128 ^ k) (bs.drop (a + (k + 1))) := by
  rw [hg, drop_at hc, rd, if_neg (by omega), if_neg hb, if_neg h, Nat.add_assoc]
end
/-- what a byte adds: no bit is lost, none is there already -/
theorem adds {k acc c : Nat} (hk : k ≤ 9) (ha : acc < 128 ^ k) (hb : ¬ bad k c) : c % 128 * 128 ^ k < 2 ^ 64 ∧ acc + c % 128 * 128 ^ k < 2 ^ 64 ∧ (¬ c < 128 → acc + c % 128 * 128 ^ k < 128 ^ (k + 1) ∧ k + 1 ≤ 9) := by
  unfold bad at hb
  rcases pow9 k hk with rfl | hp
  · have e : (128 : Nat) ^ 9 = 2 ^ 63 := by decide
    rw [e] at ha ⊢
    omega
  · have h1 : c % 128 * 128 ^ k ≤ 127 * 128 ^ k := Nat.mul_le_mul_right _ (by omega)
    have h9 : k ≠ 9 := by
      rintro rfl
      have : (128 : Nat) ^ 9 * 128 ≤ 2 ^ 63 := hp
      have : ¬ ((128 : Nat) ^ 9 * 128 ≤ 2 ^ 63) := by decide
      contradiction
    refine ⟨by omega, by omega, fun _ => ⟨?_, by omega⟩⟩
    rw [Nat.pow_succ]
    omega
theorem or_add {k acc d : Nat} (ha : acc < 128 ^ k) : acc ||| d * 128 ^ k = acc + d * 128 ^ k := by
  rw [Nat.or_comm, nat_join (7 * k) (d * 128 ^ k) acc (by rw [p128]; exact Nat.mul_mod_left _ _) (by rw [p128]; exact ha), Nat.add_comm]
theorem and_hi : ∀ c : Fin 256, c.val &&& 128 = if c.val < 128 then 0 else 128 := by decide +kernel
theorem and_lo : ∀ c : Fin 256, c.val &&& 127 = c.val % 128 := by decide +kernel
end Go.Proofs.Ytldahjgafkhobaa.Vi
