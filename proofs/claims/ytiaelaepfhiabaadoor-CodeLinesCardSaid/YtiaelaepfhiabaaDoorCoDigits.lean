/-
  The law's digits, walked. Condition: the number is an int.
-/
import Derived.Test.YtiaelaepfhiabaaDoorCoLine
set_option linter.unusedVariables false
set_option linter.unusedSimpArgs false
namespace Go.Proofs.YtiaelaepfhiabaaDoor.Co
open Go.RowKit Go.Proofs.YtiaelaepfhiabaaDoor.Mem Go.Proofs.YtiaelaepfhiabaaDoor.Rs
attribute [local go_sem] run_not_true run_not_false
attribute [local go_sem high] s_add

theorem dec_step (n : Nat) : Lib.decDigits n = (if n < 10 then [] else Lib.decDigits (n / 10)) ++ [UInt8.ofNat (48 + n % 10)] := by
  rw [Lib.decDigits]
  split
  · rename_i h
    rw [Nat.mod_eq_of_lt h]; rfl
  · rfl
/-- what is left stands ahead of what is there -/
def Left_ (n0 n : Nat) (s : List UInt8) : Prop := (s = [] ∧ n = n0) ∨ (s ≠ [] ∧ Lib.decDigits n0 = (if n = 0 then [] else Lib.decDigits n) ++ s)
theorem left_step {n0 n : Nat} {s : List UInt8} (h : Left_ n0 n s) (hg : 0 < n ∨ s = []) : Left_ n0 (n / 10) (cat [UInt8.ofNat (48 + n % 10)] s) := by
  refine .inr ⟨by simp [cat], ?_⟩
  have hd : (if n < 10 then ([] : List UInt8) else Lib.decDigits (n / 10)) = if n / 10 = 0 then [] else Lib.decDigits (n / 10) := by
    by_cases h1 : n < 10
    · rw [if_pos h1, if_pos (by omega)]
    · rw [if_neg h1, if_neg (by omega)]
  rcases h with ⟨rfl, rfl⟩ | ⟨hs, he⟩
  · rw [dec_step n, hd]; rfl
  · have hn : ¬ n = 0 := by
      rcases hg with h | h
      · omega
      · exact absurd h hs
    rw [he, if_neg hn, dec_step n, hd]
    simp [cat]
theorem left_end {n0 n : Nat} {s : List UInt8} (h : Left_ n0 n s) (h0 : n = 0) (hs : s ≠ []) : s = Lib.decDigits n0 := by
  rcases h with ⟨h1, _⟩ | ⟨_, he⟩
  · exact absurd h1 hs
  · rw [he, if_pos h0]; rfl
def digB : List UInt8 := [48, 49, 50, 51, 52, 53, 54, 55, 56, 57]
def digc (d : Nat) : UInt8 := digB.getD d 0
theorem digc_is (n : Nat) : digc (n % 10) = UInt8.ofNat (48 + n % 10) := by
  have key : ∀ d : Fin 10, digc d.val = UInt8.ofNat (48 + d.val) := by decide
  exact key ⟨n % 10, by omega⟩
def digT : ByteArray := ⟨#[48, 49, 50, 51, 52, 53, 54, 55, 56, 57]⟩
theorem digT_size : digT.size = 10 := by decide
theorem fold_digT : (⟨#[48, 49, 50, 51, 52, 53, 54, 55, 56, 57]⟩ : ByteArray) = digT := rfl
theorem run_index_digT {P : Program} (w : World) (t : TypeId) (k : IntKind) (n : Nat) (h : P.underlying t = some .string) :
    (Instr.index t (.string digT) (.int k ((n : Int) % 10))).run P w = .ok (.int .u8 ((digc (n % 10)).toNat : Int)) w := by
  rw [run_index_string w t digT k _ h, dif_pos ⟨by omega, by rw [digT_size]; omega⟩]
  have hlt : n % 10 < 10 := by omega
  have e : ((n : Int) % 10).toNat = n % 10 := by omega
  simp only [e]
  have key : ∀ d : Fin 10, (digT[d.val]'(by rw [digT_size]; exact d.isLt)) = digc d.val := by decide
  rw [key ⟨n % 10, hlt⟩]
theorem digc_encode (d : Nat) (h : d < 10) : Utf8.encode ((digc d).toNat : Int) = ⟨#[digc d]⟩ := by
  have key : ∀ d : Fin 10, Utf8.encode ((digc d.val).toNat : Int) = ⟨#[digc d.val]⟩ := by decide
  exact key ⟨d, h⟩
theorem run_convert_digc {P : Program} (w : World) (src dst : TypeId) (k : IntKind) (n : Nat) (hs : (P.underlying src).isSome = true) (hd : P.underlying dst = some .string) :
    (convert src dst (.int k ((digc (n % 10)).toNat : Int))).run P w = .ok (.string ⟨#[digc (n % 10)]⟩) w := by
  rw [run_convert_int_string w src dst k _ hs hd, digc_encode (n % 10) (by omega)]
attribute [local go_sem high] fold_digT run_index_digT run_convert_digc
def strNil : Value → Nat | .string b => if b.size = 0 then 1 else 0 | _ => 0
theorem strNil_cat (c : UInt8) (s : List UInt8) : strNil (Value.string ⟨(cat [c] s).toArray⟩) = 0 := by
  show (if (cat [c] s).toArray.size = 0 then 1 else 0) = 0
  simp [cat]
def DRel (n0 : Nat) (w : World) (vn vs : Value) (wr : World) : Prop := ∃ (n : Nat) (s : List UInt8), vn = .int .i64 (n : Int) ∧ vs = .string ⟨s.toArray⟩ ∧ Left_ n0 n s ∧ n ≤ n0 ∧ wr = w
theorem left_len {n0 n : Nat} {s : List UInt8} (h : Left_ n0 n s) : s.length ≤ (Lib.decDigits n0).length := by
  rcases h with ⟨rfl, _⟩ | ⟨_, he⟩
  · simp
  · rw [he, List.length_append]; omega
set_option maxRecDepth 100000 in
set_option maxHeartbeats 4000000 in
theorem digits_pos (n0 : Nat) (w : World) (h1 : (n0 : Int) ≤ 9223372036854775807) : Calls Tryd.prog 10 #[.int .i64 (n0 : Int)] w fun e w' => e = .returned (.string ⟨(Lib.decDigits n0).toArray⟩) ∧ w' = w := by
  have HL := hide (dec_len 18 n0 (by have : (10 : Nat) ^ 19 = 10000000000000000000 := by decide
                                     omega))
  have H1 := hide h1
  have e0 : ((n0 : Int) == -9223372036854775808) = false := by rw [beq_eq_false_iff_ne]; omega
  have e1 : 0 ≤ (n0 : Int) := by omega
  clear h1
  go_enter Tryd.func10, Tryd.ntmps10
  go_wp2_with fail
  go_loopw [0, 3] (fun vn vs wr => DRel n0 w vn vs wr) (fun vn vs _ => (intOf vn).toNat + strNil vs)
  case atStart => exact ⟨n0, [], rfl, rfl, .inl ⟨rfl, rfl⟩, Nat.le_refl _, rfl⟩
  case round =>
    obtain ⟨n, s, rfl, rfl, hleft, hle, rfl⟩ := hrel
    clear e0 e1
    have hnb : (n : Int) ≤ 9223372036854775807 := by have := unhide H1; omega
    have hm1 : Int.tmod (n : Int) 10 = (n : Int) % 10 := by rw [Int.tmod_eq_emod_of_nonneg (by omega)]
    have hsm : Small [digc (n % 10)] s := by
      have h2 := left_len hleft
      have h3 := unhide HL
      unfold Small
      rw [List.length_singleton]
      omega
    by_cases hg : 0 < n
    · have HST := hide (left_step hleft (.inl hg))
      have HN := hide (And.intro hg hle)
      have g1 : 0 < (n : Int) := by omega
      have hd0 : decide (0 < n) = true := decide_eq_true hg
      clear hleft hle hg
      go_wp2_with fail
      rw [show ((n : Int) / 10) = ((n / 10 : Nat) : Int) by omega]
      refine ⟨⟨n / 10, _, rfl, rfl, by have h := unhide HST; rw [← digc_is] at h; exact h, by have := (unhide HN).2; omega, rfl⟩, ?_⟩
      have h1 := (unhide HN).1
      have h2 : strNil (Value.string ⟨(cat [digc (n % 10)] s).toArray⟩) = 0 := strNil_cat _ _
      rw [h2]
      simp only [intOf, Int.toNat_natCast]
      omega
    · have hn0 : n = 0 := by omega
      cases s with
      | nil =>
        have HST := hide (left_step hleft (.inr rfl))
        have HN := hide (And.intro hn0 hle)
        have hd0 : decide (0 < n) = false := decide_eq_false hg
        have hd1 : decide (0 < (n : Int)) = false := decide_eq_false (by omega)
        have hd2 : (n : Int) ≤ 0 := by omega
        clear hleft hle hg hn0
        go_wp2_with fail
        rw [show ((n : Int) / 10) = ((n / 10 : Nat) : Int) by omega]
        refine ⟨⟨n / 10, _, rfl, rfl, by have h := unhide HST; rw [← digc_is] at h; exact h, by have := (unhide HN).2; omega, rfl⟩, ?_⟩
        have h1 := (unhide HN).1
        have h2 : strNil (Value.string ⟨(cat [digc (n % 10)] []).toArray⟩) = 0 := strNil_cat _ _
        rw [h2]
        have h3 : strNil (Value.string ⟨#[]⟩) = 1 := rfl
        rw [h3]
        simp only [intOf, Int.toNat_natCast]
        omega
      | cons ch t =>
        subst hn0
        have HE := hide (left_end hleft rfl (by simp))
        clear hleft hle hg hsm
        go_wp2_with fail
        go_ret
        exact ⟨by rw [← unhide HE]; rfl, rfl⟩
end Go.Proofs.YtiaelaepfhiabaaDoor.Co
