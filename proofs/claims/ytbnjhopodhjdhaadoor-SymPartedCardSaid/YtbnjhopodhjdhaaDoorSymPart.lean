/-
  Plain lists: what stands on both sides of a line end has its symbols by itself. No conditions.
-/
import Derived.Test.YtbnjhopodhjdhaaDoorSymPure
set_option linter.unusedVariables false
set_option linter.unusedSimpArgs false
namespace Go.Proofs.YtbnjhopodhjdhaaDoor.Sy
open Go.Lib

set_option maxHeartbeats 4000000 in
/-- A byte that cannot go on parts as the end does. -/
theorem dec_part (n n' a b c d b' c' d' : Nat) (hn : 1 ≤ n) (hn' : n < n') (h1 : n = 1 → b' = 10) (h2 : n = 2 → c' = 10) (h3 : n = 3 → d' = 10) (e1 : 1 < n → b' = b) (e2 : 2 < n → c' = c) (e3 : 3 < n → d' = d) :
    dec n' a b' c' d' = dec n a b c d := by
  unfold dec decodeN
  by_cases h0 : a < 128
  · rw [if_pos h0, if_pos h0]
  rw [if_neg h0, if_neg h0]
  have k1 : (1 < n' ∧ b' / 64 = 2) = (1 < n ∧ b / 64 = 2) := by
    apply propext
    by_cases h : 1 < n
    · rw [e1 h]; omega
    · have := h1 (by omega); subst this; omega
  have k2 : (2 < n' ∧ c' / 64 = 2) = (2 < n ∧ c / 64 = 2) ∨ n = 1 := by
    by_cases h : 2 < n
    · left; apply propext; rw [e2 h]; omega
    · by_cases h' : n = 1
      · exact .inr h'
      · left; apply propext; have := h2 (by omega); subst this; omega
  have k3 : (3 < n' ∧ d' / 64 = 2) = (3 < n ∧ d / 64 = 2) ∨ n < 3 := by
    by_cases h : 3 < n
    · left; apply propext; rw [e3 h]; omega
    · by_cases h' : n < 3
      · exact .inr h'
      · left; apply propext; have := h3 (by omega); subst this; omega
  by_cases c1 : 1 < n ∧ b / 64 = 2
  · have hb := e1 c1.1
    subst hb
    have k2' : (2 < n' ∧ c' / 64 = 2) = (2 < n ∧ c / 64 = 2) := by
      rcases k2 with h | h
      · exact h
      · omega
    by_cases c2 : 2 < n ∧ c / 64 = 2
    · have hc := e2 c2.1
      subst hc
      have k3' : (3 < n' ∧ d' / 64 = 2) = (3 < n ∧ d / 64 = 2) := by
        rcases k3 with h | h
        · exact h
        · omega
      by_cases c3 : 3 < n ∧ d / 64 = 2
      · have hd := e3 c3.1
        subst hd
        simp only [k1, k2', k3']
      · have f : ¬ (a / 8 = 30 ∧ (1 < n ∧ b' / 64 = 2) ∧ (2 < n ∧ c' / 64 = 2) ∧ (3 < n ∧ d / 64 = 2)) := fun h => c3 h.2.2.2
        simp only [k1, k2', k3']
        rw [if_neg f, if_neg f]
    · have f2 : ¬ (a / 16 = 14 ∧ (1 < n ∧ b' / 64 = 2) ∧ (2 < n ∧ c / 64 = 2)) := fun h => c2 h.2.2
      have f3 : ¬ (a / 8 = 30 ∧ (1 < n ∧ b' / 64 = 2) ∧ (2 < n ∧ c / 64 = 2) ∧ (3 < n' ∧ d' / 64 = 2)) := fun h => c2 h.2.2.1
      have f4 : ¬ (a / 8 = 30 ∧ (1 < n ∧ b' / 64 = 2) ∧ (2 < n ∧ c / 64 = 2) ∧ (3 < n ∧ d / 64 = 2)) := fun h => c2 h.2.2.1
      simp only [k1, k2']
      rw [if_neg f2, if_neg f2, if_neg f3, if_neg f4]
  · have c1' : ¬ (1 < n' ∧ b' / 64 = 2) := by rw [k1]; exact c1
    rw [if_neg (fun h => c1' h.2), if_neg (fun h => c1' h.2.1), if_neg (fun h => c1' h.2.1), if_neg (fun h => c1 h.2), if_neg (fun h => c1 h.2.1), if_neg (fun h => c1 h.2.1)]

theorem at_left (as bs : List UInt8) {k : Nat} (hk : k < as.length) : at_ (as ++ 10 :: bs) k = at_ as k := by
  have hl : (as ++ 10 :: bs).length = as.length + (bs.length + 1) := by simp
  have h10 : g (as ++ 10 :: bs) as.length = 10 := by simp [g]
  have hd := dec_part (as.length - k) ((as ++ 10 :: bs).length - k) (g as k) (g as (k + 1)) (g as (k + 2)) (g as (k + 3)) (g (as ++ 10 :: bs) (k + 1)) (g (as ++ 10 :: bs) (k + 2)) (g (as ++ 10 :: bs) (k + 3)) (by omega) (by omega)
    (fun h => by rw [show k + 1 = as.length by omega]; exact h10) (fun h => by rw [show k + 2 = as.length by omega]; exact h10) (fun h => by rw [show k + 3 = as.length by omega]; exact h10)
    (fun h => g_app_l (by omega)) (fun h => g_app_l (by omega)) (fun h => g_app_l (by omega))
  unfold at_ sy
  rw [g_app_l hk, hd]
theorem at_mid (as bs : List UInt8) : at_ (as ++ 10 :: bs) as.length = (10, 1) := by
  have h10 : g (as ++ 10 :: bs) as.length = 10 := by simp [g]
  unfold at_ sy dec decodeN
  rw [h10, if_neg (by rw [if_pos (by omega)]; simp), if_pos (by omega)]
theorem at_right (as bs : List UInt8) (i : Nat) : at_ (as ++ 10 :: bs) (as.length + 1 + i) = at_ bs i := by
  have hg : ∀ j, g (as ++ 10 :: bs) (as.length + 1 + j) = g bs j := fun j => by
    rw [g_app_r (by omega), show as.length + 1 + j - as.length = j + 1 by omega]
    simp [g]
  have hl : (as ++ 10 :: bs).length - (as.length + 1 + i) = bs.length - i := by simp; omega
  unfold at_
  rw [hl, hg, show as.length + 1 + i + 1 = as.length + 1 + (i + 1) by omega, hg, show as.length + 1 + i + 2 = as.length + 1 + (i + 2) by omega, hg, show as.length + 1 + i + 3 = as.length + 1 + (i + 3) by omega, hg]

theorem from_right (as bs : List UInt8) (i : Nat) : (from_ (as ++ 10 :: bs) (as.length + 1 + i)).map (·.2) = (from_ bs i).map (·.2) := by
  have hl : (as ++ 10 :: bs).length = as.length + (bs.length + 1) := by simp
  by_cases h : i < bs.length
  · rw [from_lt h, from_lt (by omega), at_right, List.map_cons, List.map_cons]
    have hs := at_size bs h
    rw [show as.length + 1 + i + (at_ bs i).2 = as.length + 1 + (i + (at_ bs i).2) by omega, from_right as bs (i + (at_ bs i).2)]
  · rw [from_ge (by omega), from_ge (by omega)]
termination_by bs.length - i
theorem from_left (as bs : List UInt8) (k : Nat) (hk : k ≤ as.length) : (from_ (as ++ 10 :: bs) k).map (·.2) = (from_ as k).map (·.2) ++ 10 :: (from_ bs 0).map (·.2) := by
  have hl : (as ++ 10 :: bs).length = as.length + (bs.length + 1) := by simp
  by_cases h : k < as.length
  · have hs := at_size as h
    rw [from_lt h, from_lt (by omega), at_left as bs h, List.map_cons, List.map_cons, from_left as bs (k + (at_ as k).2) hs.2.2]
    rfl
  · obtain rfl : k = as.length := by omega
    rw [from_ge (Nat.le_refl as.length), from_lt (by omega), at_mid, List.map_cons]
    have := from_right as bs 0
    rw [Nat.add_zero] at this
    rw [this]
    rfl
termination_by as.length - k
/-- **WHAT STANDS ON BOTH SIDES OF A LINE END HAS ITS SYMBOLS BY ITSELF.** -/
theorem syms_part (as bs : List UInt8) : syms (as ++ 10 :: bs) = syms as ++ 10 :: syms bs := from_left as bs 0 (Nat.zero_le _)
end Go.Proofs.YtbnjhopodhjdhaaDoor.Sy
