/-
  Plain numbers and lists, no program: what symbols bytes have, where they begin, and which bytes a symbol has; that the bytes of all symbols are these bytes, that a symbol's bytes are read as it again, and that a line end parts. No conditions.
-/
import Derived.Lib.DecodeNEq
import Derived.Laws.BytesArg
set_option linter.unusedVariables false
set_option linter.unusedSimpArgs false
namespace Go.Proofs.YtbnjhopodhjdhaaDoor.Sy
open Go.Lib

/-- Byte k, and nought beyond. -/
def g (bs : List UInt8) (k : Nat) : Nat := (bs[k]?.getD 0).toNat
theorem g_lt (bs : List UInt8) (k : Nat) : g bs k < 256 := UInt8.toNat_lt _
theorem g_of {bs : List UInt8} {k : Nat} {x : UInt8} (h : bs[k]? = some x) : g bs k = x.toNat := by simp [g, h]
theorem g_drop (bs : List UInt8) (j k : Nat) : g (bs.drop j) k = g bs (j + k) := by simp [g, List.getElem?_drop]
theorem g_app_l {as bs : List UInt8} {k : Nat} (h : k < as.length) : g (as ++ bs) k = g as k := by simp [g, List.getElem?_append_left h]
theorem g_app_r {as bs : List UInt8} {k : Nat} (h : as.length ≤ k) : g (as ++ bs) k = g bs (k - as.length) := by simp [g, List.getElem?_append_right h]

/-- What the library's decoder tells of n bytes that begin a b c d. -/
abbrev dec := Lib.decodeN

/-- The symbol of n bytes that begin a b c d, and how many bytes it has. -/
def sy (n a b c d : Nat) : Nat × Nat := if (dec n a b c d).1 = 65533 ∧ (dec n a b c d).2 = 1 then (1114112 + a, 1) else dec n a b c d

theorem dec_size (n a b c d : Nat) (hn : 1 ≤ n) : 1 ≤ (dec n a b c d).2 ∧ (dec n a b c d).2 ≤ 4 ∧ (dec n a b c d).2 ≤ n := by
  unfold dec decodeN
  repeat' split
  all_goals (simp only []; omega)
theorem dec_top (n a b c d : Nat) : (dec n a b c d).1 ≤ 1114111 := by
  unfold dec decodeN
  repeat' split
  all_goals (simp only []; omega)
theorem sy_size (n a b c d : Nat) (hn : 1 ≤ n) : 1 ≤ (sy n a b c d).2 ∧ (sy n a b c d).2 ≤ 4 ∧ (sy n a b c d).2 ≤ n := by
  unfold sy
  split
  · exact ⟨Nat.le_refl _, by omega, hn⟩
  · exact dec_size n a b c d hn
theorem sy_top (n a b c d : Nat) (ha : a < 256) : (sy n a b c d).1 ≤ 1114367 := by
  unfold sy
  split
  · simp only []; omega
  · have := dec_top n a b c d; omega

/-- The symbol at k. -/
def at_ (bs : List UInt8) (k : Nat) : Nat × Nat := sy (bs.length - k) (g bs k) (g bs (k + 1)) (g bs (k + 2)) (g bs (k + 3))
theorem at_size (bs : List UInt8) {k : Nat} (hk : k < bs.length) : 1 ≤ (at_ bs k).2 ∧ (at_ bs k).2 ≤ 4 ∧ k + (at_ bs k).2 ≤ bs.length := by
  have := sy_size (bs.length - k) (g bs k) (g bs (k + 1)) (g bs (k + 2)) (g bs (k + 3)) (by omega)
  unfold at_
  omega
theorem at_top (bs : List UInt8) (k : Nat) : (at_ bs k).1 ≤ 1114367 := sy_top _ _ _ _ _ (g_lt _ _)

/-- All symbols from k on, each with where it begins. -/
def from_ (bs : List UInt8) (k : Nat) : List (Nat × Nat) :=
  if h : k < bs.length then (k, (at_ bs k).1) :: from_ bs (k + (at_ bs k).2) else []
termination_by bs.length - k
decreasing_by have := at_size bs h; omega
theorem from_lt {bs : List UInt8} {k : Nat} (h : k < bs.length) : from_ bs k = (k, (at_ bs k).1) :: from_ bs (k + (at_ bs k).2) := by rw [from_, dif_pos h]
theorem from_ge {bs : List UInt8} {k : Nat} (h : bs.length ≤ k) : from_ bs k = [] := by rw [from_, dif_neg (by omega)]
theorem from_len (bs : List UInt8) (k : Nat) : (from_ bs k).length + k ≤ max bs.length k := by
  by_cases h : k < bs.length
  · rw [from_lt h]
    have h1 := at_size bs h
    have h2 := from_len bs (k + (at_ bs k).2)
    simp only [List.length_cons]
    omega
  · rw [from_ge (by omega)]; simp; omega
termination_by bs.length - k

/-- All symbols of some bytes; where they begin; where they begin, and the end. -/
def syms (bs : List UInt8) : List Nat := (from_ bs 0).map (·.2)
def begins (bs : List UInt8) : List Nat := (from_ bs 0).map (·.1)
def starts (bs : List UInt8) : List Nat := begins bs ++ [bs.length]
theorem len_le (bs : List UInt8) : (from_ bs 0).length ≤ bs.length := by have := from_len bs 0; simp at this; omega
theorem syms_len (bs : List UInt8) : (syms bs).length ≤ bs.length := by simpa [syms] using len_le bs
theorem from_top (bs : List UInt8) (k : Nat) : ∀ x ∈ from_ bs k, x.1 < bs.length ∧ x.2 ≤ 1114367 := by
  by_cases h : k < bs.length
  · rw [from_lt h]
    have h1 := at_size bs h
    have ih := from_top bs (k + (at_ bs k).2)
    intro x hx
    rcases List.mem_cons.1 hx with rfl | hx
    · exact ⟨h, at_top bs k⟩
    · exact ih x hx
  · rw [from_ge (by omega)]; intro x hx; cases hx
termination_by bs.length - k

/-! ### a symbol's bytes -/
/-- Is a number a symbol? -/
def isS (x : Int) : Bool := decide ((0 ≤ x ∧ x ≤ 55295) ∨ (57344 ≤ x ∧ x ≤ 1114111) ∨ (1114240 ≤ x ∧ x ≤ 1114367))
def isRaw (x : Int) : Bool := decide (1114240 ≤ x ∧ x ≤ 1114367)
/-- A symbol's bytes, as numbers. -/
def encZ (x : Int) : List Int := if 1114112 ≤ x then [x - 1114112] else if x < 128 then [x] else if x < 2048 then [192 + x / 64, 128 + x % 64]
  else if x < 65536 then [224 + x / 4096, 128 + x / 64 % 64, 128 + x % 64] else [240 + x / 262144, 128 + x / 4096 % 64, 128 + x / 64 % 64, 128 + x % 64]
def enc (x : Int) : List UInt8 := (encZ x).map fun z => UInt8.ofNat z.toNat
theorem encZ_range (x : Int) (h : isS x = true) : ∀ z ∈ encZ x, 0 ≤ z ∧ z ≤ 255 := by
  unfold isS at h
  simp only [decide_eq_true_eq] at h
  unfold encZ
  repeat' split
  all_goals (intro z hz; simp only [List.mem_cons, List.mem_nil_iff, or_false] at hz; rcases hz with rfl | rfl | rfl | rfl <;> omega)
theorem encZ_len (x : Int) : 1 ≤ (encZ x).length ∧ (encZ x).length ≤ 4 := by
  unfold encZ
  repeat' split
  all_goals (simp only [List.length_cons, List.length_nil]; omega)
theorem enc_len (x : Int) : 1 ≤ (enc x).length ∧ (enc x).length ≤ 4 := by simpa [enc] using encZ_len x
/-- The bytes of symbols, one behind the other. -/
def encAll (l : List Int) : List UInt8 := l.flatMap enc
theorem encAll_snoc (l : List Int) (x : Int) : encAll (l ++ [x]) = encAll l ++ enc x := by simp [encAll]
theorem encAll_len (l : List Int) : (encAll l).length ≤ 4 * l.length := by
  induction l with
  | nil => simp [encAll]
  | cons x l ih => have := enc_len x; simp [encAll] at ih ⊢; omega

end Go.Proofs.YtbnjhopodhjdhaaDoor.Sy
