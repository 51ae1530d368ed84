/-
  Numbers as bytes: seven bits a byte, the lowest ones first; reading them back; with a sign. Pure: no program.
-/
set_option linter.unusedVariables false
set_option linter.unusedSimpArgs false
namespace Go.Proofs.Ytldahjgafkhobaa.Vi

/-- a number's bytes -/
def enc (n : Nat) : List UInt8 := if n < 128 then [UInt8.ofNat n] else UInt8.ofNat (n % 128 + 128) :: enc (n / 128)
termination_by n
decreasing_by omega
theorem enc_lt {n : Nat} (h : n < 128) : enc n = [UInt8.ofNat n] := by rw [enc, if_pos h]
theorem enc_ge {n : Nat} (h : ¬ n < 128) : enc n = UInt8.ofNat (n % 128 + 128) :: enc (n / 128) := by rw [enc, if_neg h]
/-- is this byte wrong at place i? -/
def bad (i c : Nat) : Prop := (i = 9 ∧ 1 < c % 128) ∨ (0 < i ∧ c = 0) ∨ (i = 9 ∧ 128 ≤ c)
instance (i c : Nat) : Decidable (bad i c) := by unfold bad; infer_instance
/-- read from place i on: the number, how many bytes, the error -/
def rd (i acc : Nat) : List UInt8 → Nat × Nat × Nat
  | [] => (0, 0, if 10 ≤ i then 11 else 14)
  | c :: t => if 10 ≤ i then (0, 0, 11) else if bad i c.toNat then (0, 0, 11) else if c.toNat < 128 then (acc + c.toNat % 128 * 128 ^ i, i + 1, 0) else rd (i + 1) (acc + c.toNat % 128 * 128 ^ i) t
def getP (bs : List UInt8) (p : Int) : Nat × Nat × Nat := if p < 0 ∨ (bs.length : Int) < p then (0, 0, 10) else rd 0 0 (bs.drop p.toNat)

theorem pow9 : ∀ i, i ≤ 9 → i = 9 ∨ 128 ^ i * 128 ≤ 2 ^ 63
  | 0, _ | 1, _ | 2, _ | 3, _ | 4, _ | 5, _ | 6, _ | 7, _ | 8, _ => .inr (by decide)
  | 9, _ => .inl rfl
  | i + 10, h => by omega
theorem byte_nat (c : UInt8) : c.toNat < 256 := c.toNat_lt
theorem ofNat_nat {n : Nat} (h : n < 256) : (UInt8.ofNat n).toNat = n := by simp [UInt8.toNat_ofNat']; omega
theorem enc_len_pos (n : Nat) : 1 ≤ (enc n).length := by rw [enc]; split <;> simp
theorem enc_len (k : Nat) : ∀ n, n < 128 ^ (k + 1) → (enc n).length ≤ k + 1 := by
  induction k with
  | zero => intro n h; rw [enc_lt (by simpa using h)]; simp
  | succ k ih =>
    intro n h
    by_cases hn : n < 128
    · rw [enc_lt hn]; simp
    · rw [enc_ge hn, List.length_cons]
      have := ih (n / 128) (by rw [Nat.pow_succ] at h; omega)
      omega
theorem enc_ten {n : Nat} (h : n < 2 ^ 64) : (enc n).length ≤ 10 := enc_len 9 n (Nat.lt_of_lt_of_le h (by decide))
theorem enc_one {n : Nat} : (enc n).length = 1 ↔ n < 128 := by
  constructor
  · intro h
    by_cases hn : n < 128
    · exact hn
    · rw [enc_ge hn, List.length_cons] at h
      have := enc_len_pos (n / 128)
      omega
  · intro h; rw [enc_lt h]; rfl
/-- what was written is read -/
theorem rd_enc : ∀ (n i acc : Nat) (t : List UInt8), i ≤ 9 → n * 128 ^ i < 2 ^ 64 → (0 < i → 0 < n) → rd i acc (enc n ++ t) = (acc + n * 128 ^ i, i + (enc n).length, 0) := by
  intro n
  induction n using Nat.strongRecOn with
  | _ n ih =>
    intro i acc t hi hb hp
    have h9 : i = 9 → n ≤ 1 := by
      rintro rfl
      have : (128 : Nat) ^ 9 = 2 ^ 63 := by decide
      rw [this] at hb
      omega
    by_cases hn : n < 128
    · rw [enc_lt hn, List.singleton_append, rd, ofNat_nat (by omega), if_neg (by omega), if_neg, if_pos hn, Nat.mod_eq_of_lt hn]
      · rfl
      · unfold bad
        rintro (⟨h1, h2⟩ | ⟨h1, h2⟩ | ⟨h1, h2⟩)
        · have := h9 h1; omega
        · have := hp h1; omega
        · omega
    · have hi9 : i ≠ 9 := fun e => by have := h9 e; omega
      rw [enc_ge hn, List.cons_append, rd, ofNat_nat (by omega), if_neg (by omega), if_neg, if_neg (by omega)]
      · have e1 : (n % 128 + 128) % 128 = n % 128 := by omega
        rw [e1, ih (n / 128) (by omega) (i + 1) _ t (by omega) _ (fun _ => by omega)]
        · have e2 : n * 128 ^ i = n % 128 * 128 ^ i + n / 128 * 128 ^ (i + 1) := by
            have h := Nat.div_add_mod n 128
            rw [Nat.pow_succ, Nat.mul_comm (128 ^ i) 128, ← Nat.mul_assoc, ← Nat.add_mul, Nat.add_comm (n % 128), Nat.mul_comm (n / 128) 128, h]
          rw [List.length_cons]
          refine Prod.ext ?_ (Prod.ext ?_ rfl)
          · show acc + n % 128 * 128 ^ i + n / 128 * 128 ^ (i + 1) = acc + n * 128 ^ i
            omega
          · show i + 1 + (enc (n / 128)).length = i + ((enc (n / 128)).length + 1)
            omega
        · have h : n / 128 * 128 ≤ n := Nat.div_mul_le_self n 128
          have : n / 128 * 128 ^ (i + 1) ≤ n * 128 ^ i := by
            rw [Nat.pow_succ, Nat.mul_comm (128 ^ i) 128, ← Nat.mul_assoc]
            exact Nat.mul_le_mul_right _ h
          omega
      · unfold bad
        rintro (⟨h1, h2⟩ | ⟨h1, h2⟩ | ⟨h1, h2⟩) <;> omega
/-- what is read has no other bytes -/
theorem rd_once : ∀ (l : List UInt8) (i acc m s : Nat), i ≤ 9 → rd i acc l = (m, s, 0) → ∃ k n, s = i + k ∧ 1 ≤ k ∧ i + k ≤ 10 ∧ k ≤ l.length ∧ l.take k = enc n ∧ m = acc + n * 128 ^ i ∧ (0 < i → 0 < n) ∧ n * 128 ^ i < 2 ^ 64
  | [], i, acc, m, s, hi, h => by
    rw [rd] at h
    simp only [Prod.mk.injEq] at h
    split at h <;> omega
  | c :: t, i, acc, m, s, hi, h => by
    have hc := byte_nat c
    have hcc : UInt8.ofNat c.toNat = c := by simp
    rw [rd, if_neg (by omega)] at h
    split at h
    · simp only [Prod.mk.injEq] at h; omega
    · rename_i hbad
      unfold bad at hbad
      split at h
      · rename_i hlt
        simp only [Prod.mk.injEq] at h
        obtain ⟨rfl, rfl, _⟩ := h
        refine ⟨1, c.toNat, rfl, by omega, by omega, by simp, ?_, by rw [Nat.mod_eq_of_lt hlt], fun h0 => by omega, ?_⟩
        · rw [enc_lt hlt, hcc]; simp
        · rcases pow9 i hi with rfl | hp
          · have : (128 : Nat) ^ 9 = 2 ^ 63 := by decide
            rw [this]
            omega
          · have : c.toNat * 128 ^ i ≤ 128 * 128 ^ i := Nat.mul_le_mul_right _ (by omega)
            omega
      · rename_i hge
        have hi9 : i ≠ 9 := fun e => hbad (.inr (.inr ⟨e, by omega⟩))
        obtain ⟨k, n, rfl, h1, h2, h3, h4, rfl, h6, h7⟩ := rd_once t (i + 1) _ m s (by omega) h
        have hn := h6 (by omega)
        refine ⟨k + 1, c.toNat % 128 + 128 * n, by omega, by omega, by omega, by simp; omega, ?_, ?_, fun _ => by omega, ?_⟩
        · rw [enc_ge (by omega), List.take_succ_cons, h4]
          have e1 : (c.toNat % 128 + 128 * n) % 128 + 128 = c.toNat := by omega
          have e2 : (c.toNat % 128 + 128 * n) / 128 = n := by omega
          rw [e1, e2, hcc]
        · rw [Nat.add_mul, Nat.pow_succ, Nat.mul_comm 128 n, Nat.mul_assoc, Nat.mul_comm 128 (128 ^ i), Nat.add_assoc]
        · have e3 : (c.toNat % 128 + 128 * n) * 128 ^ i = c.toNat % 128 * 128 ^ i + n * 128 ^ (i + 1) := by
            rw [Nat.add_mul, Nat.pow_succ, Nat.mul_comm 128 n, Nat.mul_assoc, Nat.mul_comm 128 (128 ^ i)]
          have hlt : c.toNat % 128 * 128 ^ i < 128 ^ (i + 1) := by
            rw [Nat.pow_succ, Nat.mul_comm (128 ^ i)]
            exact Nat.mul_lt_mul_of_pos_right (by omega) (Nat.pow_pos (by omega))
          have hdvd : ∃ q, 2 ^ 64 = q * 128 ^ (i + 1) := by
            rcases i with _ | _ | _ | _ | _ | _ | _ | _ | _ | i
            · exact ⟨2 ^ 57, by decide⟩
            · exact ⟨2 ^ 50, by decide⟩
            · exact ⟨2 ^ 43, by decide⟩
            · exact ⟨2 ^ 36, by decide⟩
            · exact ⟨2 ^ 29, by decide⟩
            · exact ⟨2 ^ 22, by decide⟩
            · exact ⟨2 ^ 15, by decide⟩
            · exact ⟨2 ^ 8, by decide⟩
            · exact ⟨2, by decide⟩
            · omega
          obtain ⟨q, hq⟩ := hdvd
          rw [e3, hq]
          rw [hq] at h7
          have hnq : n < q := Nat.lt_of_mul_lt_mul_right h7
          calc c.toNat % 128 * 128 ^ i + n * 128 ^ (i + 1) < 128 ^ (i + 1) + n * 128 ^ (i + 1) := by omega
            _ = (n + 1) * 128 ^ (i + 1) := by rw [Nat.add_mul, Nat.one_mul, Nat.add_comm]
            _ ≤ q * 128 ^ (i + 1) := Nat.mul_le_mul_right _ hnq
theorem rd_err : ∀ (l : List UInt8) (i acc m s e : Nat), rd i acc l = (m, s, e) → e ≠ 0 → m = 0 ∧ s = 0
  | [], i, acc, m, s, e, h, he => by
    rw [rd] at h
    simp only [Prod.mk.injEq] at h
    exact ⟨h.1.symm, h.2.1.symm⟩
  | c :: t, i, acc, m, s, e, h, he => by
    rw [rd] at h
    split at h
    · simp only [Prod.mk.injEq] at h; exact ⟨h.1.symm, h.2.1.symm⟩
    · split at h
      · simp only [Prod.mk.injEq] at h; exact ⟨h.1.symm, h.2.1.symm⟩
      · split at h
        · simp only [Prod.mk.injEq] at h; omega
        · exact rd_err t _ _ _ _ _ h he
theorem get_err {bs : List UInt8} {p : Int} {m s e : Nat} (h : getP bs p = (m, s, e)) (he : e ≠ 0) : m = 0 ∧ s = 0 := by
  unfold getP at h
  split at h
  · simp only [Prod.mk.injEq] at h; exact ⟨h.1.symm, h.2.1.symm⟩
  · exact rd_err _ _ _ _ _ _ h he
/-- **what is read has no other bytes than those that stood there** -/
theorem get_once {bs : List UInt8} {p : Int} {m s : Nat} (h : getP bs p = (m, s, 0)) : 1 ≤ s ∧ s ≤ 10 ∧ 0 ≤ p ∧ (s : Int) ≤ bs.length - p ∧ (bs.drop p.toNat).take s = enc m ∧ m < 2 ^ 64 := by
  unfold getP at h
  split at h
  · simp only [Prod.mk.injEq] at h; omega
  · rename_i hr
    obtain ⟨k, n, rfl, h1, h2, h3, h4, rfl, _, h7⟩ := rd_once _ 0 0 m s (by omega) h
    rw [List.length_drop] at h3
    simp only [Nat.pow_zero, Nat.mul_one, Nat.zero_add] at *
    exact ⟨h1, h2, by omega, by omega, h4, h7⟩
/-- **a number is read from its bytes, wherever they stand** -/
theorem get_enc (n : Nat) (h : n < 2 ^ 64) (a t : List UInt8) : getP (a ++ enc n ++ t) a.length = (n, (enc n).length, 0) := by
  unfold getP
  rw [if_neg (by simp; omega)]
  have e : (a ++ enc n ++ t).drop (a.length : Int).toNat = enc n ++ t := by
    rw [List.append_assoc, Int.toNat_natCast, List.drop_left]
  rw [e, rd_enc n 0 0 t (by omega) (by simpa using h) (by omega)]
  simp
/- with a sign -/
def zig (n : Int) : Nat := if 0 ≤ n then (2 * n).toNat else (-2 * n - 1).toNat
def zag (u : Nat) : Int := if u % 2 = 0 then (u / 2 : Nat) else -1 - (u / 2 : Nat)
theorem zag_zig (n : Int) : zag (zig n) = n := by unfold zag zig; split <;> split <;> omega
theorem zig_zag (u : Nat) : zig (zag u) = u := by unfold zag zig; split <;> split <;> omega
theorem zig_lt {n : Int} (h0 : -9223372036854775808 ≤ n) (h1 : n ≤ 9223372036854775807) : zig n < 2 ^ 64 := by unfold zig; split <;> omega
theorem zag_in {u : Nat} (h : u < 2 ^ 64) : -9223372036854775808 ≤ zag u ∧ zag u ≤ 9223372036854775807 := by unfold zag; split <;> omega
theorem zig_small (n : Int) : zig n < 128 ↔ -64 ≤ n ∧ n < 64 := by unfold zig; split <;> omega
end Go.Proofs.Ytldahjgafkhobaa.Vi
