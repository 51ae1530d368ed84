/-
  Plain lists: the bytes of all symbols of any bytes are these bytes; each is a symbol; what a number's bytes are read as is that number. No conditions.
-/
import Derived.Test.YtbnjhopodhjdhaaDoorSymPure
set_option linter.unusedVariables false
set_option linter.unusedSimpArgs false
namespace Go.Proofs.YtbnjhopodhjdhaaDoor.Sy
open Go.Lib

def encs (l : List Int) : List Int := l.flatMap encZ
def nums (bs : List UInt8) : List Int := bs.map fun u => (u.toNat : Int)

set_option maxHeartbeats 1000000 in
theorem dec_ge (n a b c d : Nat) (h : dec n a b c d = (65533, 1)) : 128 ≤ a := by
  refine Nat.le_of_not_lt fun ha => ?_
  unfold dec decodeN at h
  rw [if_pos ha] at h
  have := congrArg Prod.fst h
  simp only [] at this
  omega

/-- A symbol's bytes are those that it was read from. -/
def Fits (r : Nat × Nat) (a b c d : Nat) : Prop := encZ (r.1 : Int) = (([a, b, c, d].take r.2).map fun x : Nat => (x : Int)) ∧ isS (r.1 : Int) = true
theorem fits1 {a b c d : Nat} (h : a < 128) : Fits (a, 1) a b c d := by
  refine ⟨?_, decide_eq_true (by simp only []; omega)⟩
  unfold encZ
  simp only []
  rw [if_neg (by omega), if_pos (by omega)]
  rfl
theorem fits_raw {a b c d : Nat} (h : 128 ≤ a) (ha : a < 256) : Fits (1114112 + a, 1) a b c d := by
  refine ⟨?_, decide_eq_true (by simp only []; omega)⟩
  unfold encZ
  simp only []
  rw [if_pos (by omega)]
  simp only [List.take_succ_cons, List.take_zero, List.map_cons, List.map_nil, List.cons.injEq, and_true]
  omega
theorem fits2 {a b c d : Nat} (h1 : a / 32 = 6) (h2 : b / 64 = 2) (hv : a % 32 * 64 + b % 64 ≥ 128) : Fits (a % 32 * 64 + b % 64, 2) a b c d := by
  refine ⟨?_, decide_eq_true (by simp only []; omega)⟩
  unfold encZ
  simp only []
  rw [if_neg (by omega), if_neg (by omega), if_pos (by omega)]
  simp only [List.take_succ_cons, List.take_zero, List.map_cons, List.map_nil, List.cons.injEq, and_true]
  omega
theorem fits3 {a b c d : Nat} (h1 : a / 16 = 14) (h2 : b / 64 = 2) (h3 : c / 64 = 2) (hv : a % 16 * 4096 + b % 64 * 64 + c % 64 ≥ 2048)
    (hw : a % 16 * 4096 + b % 64 * 64 + c % 64 < 55296 ∨ (57344 ≤ a % 16 * 4096 + b % 64 * 64 + c % 64 ∧ a % 16 * 4096 + b % 64 * 64 + c % 64 ≤ 1114111)) : Fits (a % 16 * 4096 + b % 64 * 64 + c % 64, 3) a b c d := by
  refine ⟨?_, decide_eq_true (by simp only []; omega)⟩
  unfold encZ
  simp only []
  rw [if_neg (by omega), if_neg (by omega), if_neg (by omega), if_pos (by omega)]
  simp only [List.take_succ_cons, List.take_zero, List.map_cons, List.map_nil, List.cons.injEq, and_true]
  omega
theorem fits4 {a b c d : Nat} (h1 : a / 8 = 30) (h2 : b / 64 = 2) (h3 : c / 64 = 2) (h4 : d / 64 = 2) (hv : a % 8 * 262144 + b % 64 * 4096 + c % 64 * 64 + d % 64 ≥ 65536)
    (hw : a % 8 * 262144 + b % 64 * 4096 + c % 64 * 64 + d % 64 ≤ 1114111) : Fits (a % 8 * 262144 + b % 64 * 4096 + c % 64 * 64 + d % 64, 4) a b c d := by
  refine ⟨?_, decide_eq_true (by simp only []; omega)⟩
  unfold encZ
  simp only []
  rw [if_neg (by omega), if_neg (by omega), if_neg (by omega), if_neg (by omega)]
  simp only [List.take_succ_cons, List.take_zero, List.map_cons, List.map_nil, List.cons.injEq, and_true]
  omega
theorem dec_fits (n a b c d : Nat) (ha : a < 256) : dec n a b c d = (65533, 1) ∨ Fits (dec n a b c d) a b c d := by
  unfold dec decodeN
  by_cases h0 : a < 128
  · rw [if_pos h0]; exact .inr (fits1 h0)
  rw [if_neg h0]
  by_cases h1 : a / 32 = 6 ∧ (1 < n ∧ b / 64 = 2)
  · rw [if_pos h1]
    by_cases hv : a % 32 * 64 + b % 64 ≥ 128
    · rw [if_pos hv]; exact .inr (fits2 h1.1 h1.2.2 hv)
    · rw [if_neg hv]; exact .inl rfl
  rw [if_neg h1]
  by_cases h2 : a / 16 = 14 ∧ (1 < n ∧ b / 64 = 2) ∧ (2 < n ∧ c / 64 = 2)
  · rw [if_pos h2]
    by_cases hv : a % 16 * 4096 + b % 64 * 64 + c % 64 ≥ 2048 ∧ (a % 16 * 4096 + b % 64 * 64 + c % 64 < 55296 ∨ (57344 ≤ a % 16 * 4096 + b % 64 * 64 + c % 64 ∧ a % 16 * 4096 + b % 64 * 64 + c % 64 ≤ 1114111))
    · rw [if_pos hv]; exact .inr (fits3 h2.1 h2.2.1.2 h2.2.2.2 hv.1 hv.2)
    · rw [if_neg hv]; exact .inl rfl
  rw [if_neg h2]
  by_cases h3 : a / 8 = 30 ∧ (1 < n ∧ b / 64 = 2) ∧ (2 < n ∧ c / 64 = 2) ∧ (3 < n ∧ d / 64 = 2)
  · rw [if_pos h3]
    by_cases hv : a % 8 * 262144 + b % 64 * 4096 + c % 64 * 64 + d % 64 ≥ 65536 ∧ (a % 8 * 262144 + b % 64 * 4096 + c % 64 * 64 + d % 64 < 55296 ∨ (57344 ≤ a % 8 * 262144 + b % 64 * 4096 + c % 64 * 64 + d % 64 ∧ a % 8 * 262144 + b % 64 * 4096 + c % 64 * 64 + d % 64 ≤ 1114111))
    · rw [if_pos hv]; exact .inr (fits4 h3.1 h3.2.1.2 h3.2.2.1.2 h3.2.2.2.2 hv.1 (by omega))
    · rw [if_neg hv]; exact .inl rfl
  rw [if_neg h3]
  exact .inl rfl
theorem sy_fits (n a b c d : Nat) (ha : a < 256) : Fits (sy n a b c d) a b c d := by
  rcases dec_fits n a b c d ha with h | h
  · unfold sy
    rw [h, if_pos ⟨rfl, rfl⟩]
    exact fits_raw (dec_ge n a b c d h) ha
  · unfold sy
    by_cases hb : (dec n a b c d).1 = 65533 ∧ (dec n a b c d).2 = 1
    · rw [if_pos hb]
      exact fits_raw (dec_ge n a b c d (Prod.ext hb.1 hb.2)) ha
    · rw [if_neg hb]; exact h

theorem take_g (bs : List UInt8) (k m : Nat) (hm : m ≤ 4) (hk : k + m ≤ bs.length) : ([g bs k, g bs (k + 1), g bs (k + 2), g bs (k + 3)].take m).map (fun x : Nat => (x : Int)) = nums ((bs.drop k).take m) := by
  apply List.ext_getElem?
  intro j
  unfold nums
  rw [List.getElem?_map, List.getElem?_take, List.getElem?_map, List.getElem?_take]
  by_cases hj : j < m
  · rw [if_pos hj, if_pos hj, List.getElem?_drop]
    have hlt : k + j < bs.length := by omega
    have hx := List.getElem?_eq_getElem hlt
    have hg : g bs (k + j) = (bs[k + j]).toNat := g_of hx
    rw [hx]
    have h4 : j < 4 := by omega
    match j, h4 with
    | 0, _ => simpa using congrArg (fun x : Nat => (x : Int)) hg
    | 1, _ => simpa using congrArg (fun x : Nat => (x : Int)) hg
    | 2, _ => simpa using congrArg (fun x : Nat => (x : Int)) hg
    | 3, _ => simpa using congrArg (fun x : Nat => (x : Int)) hg
  · rw [if_neg hj, if_neg hj]; rfl

theorem at_fits (bs : List UInt8) {k : Nat} (hk : k < bs.length) : encZ ((at_ bs k).1 : Int) = nums ((bs.drop k).take (at_ bs k).2) ∧ isS ((at_ bs k).1 : Int) = true := by
  have h := sy_fits (bs.length - k) (g bs k) (g bs (k + 1)) (g bs (k + 2)) (g bs (k + 3)) (g_lt _ _)
  have hs := at_size bs hk
  rw [← take_g bs k _ hs.2.1 hs.2.2]
  exact h

theorem encs_from (bs : List UInt8) (k : Nat) : encs ((from_ bs k).map fun x => (x.2 : Int)) = nums (bs.drop k) ∧ ∀ x ∈ (from_ bs k).map (fun x => (x.2 : Int)), isS x = true := by
  by_cases h : k < bs.length
  · have hs := at_size bs h
    have ih := encs_from bs (k + (at_ bs k).2)
    have hf := at_fits bs h
    rw [from_lt h, List.map_cons]
    refine ⟨?_, fun x hx => ?_⟩
    · have e : encs (((at_ bs k).1 : Int) :: (from_ bs (k + (at_ bs k).2)).map fun x => (x.2 : Int)) = encZ ((at_ bs k).1 : Int) ++ encs ((from_ bs (k + (at_ bs k).2)).map fun x => (x.2 : Int)) := by simp [encs]
      rw [e, ih.1, hf.1, ← List.drop_drop]
      unfold nums
      rw [← List.map_append, List.take_append_drop]
    · rcases List.mem_cons.1 hx with rfl | hx
      · exact hf.2
      · exact ih.2 x hx
  · rw [from_ge (by omega), List.drop_eq_nil_of_le (by omega)]
    exact ⟨rfl, fun x hx => by cases hx⟩
termination_by bs.length - k
decreasing_by have := at_size bs h; omega

/-- All symbols as ints. -/
def symsZ (bs : List UInt8) : List Int := (syms bs).map fun x : Nat => (x : Int)
theorem symsZ_eq (bs : List UInt8) : symsZ bs = (from_ bs 0).map fun x => (x.2 : Int) := by simp [symsZ, syms]
theorem encs_syms (bs : List UInt8) : encs (symsZ bs) = nums bs := by rw [symsZ_eq, (encs_from bs 0).1, List.drop_zero]
theorem all_syms (bs : List UInt8) : ∀ x ∈ symsZ bs, isS x = true := by rw [symsZ_eq]; exact (encs_from bs 0).2
theorem symsZ_len (bs : List UInt8) : (symsZ bs).length = (syms bs).length := by simp [symsZ]
end Go.Proofs.YtbnjhopodhjdhaaDoor.Sy
