/-
  strconv.Itoa by the shelf; code.Name and Line, walked. Conditions: the two tables (the words, the powers of ten) read as they are laid; numbers are ints.
-/
import Derived.Shelf.Strconv.Itoa3
import Derived.Shelf.Lay
import Derived.Ground.NamesProg
import Derived.Test.YtiaelaepfhiabaaDoorCoSmall
set_option linter.unusedVariables false
set_option linter.unusedSimpArgs false
namespace Go.Proofs
open Go.Shelf
shelf_lay LaysM.n171 Nm 171 at Tryd as Tryd.laysItoa
end Go.Proofs
namespace Go.Proofs.YtiaelaepfhiabaaDoor.Co
open Go.Shelf Go.RowKit Go.Proofs.YtiaelaepfhiabaaDoor.Mem Go.Proofs.YtiaelaepfhiabaaDoor.Rs
attribute [local go_sem] run_not_true run_not_false

def wl : List (List UInt8) := [[], [115, 101, 116], [104, 111, 108, 100], [98, 97, 99, 107], [102, 111, 114, 107], [119, 97, 121], [106, 117, 109, 112], [105, 110, 105, 116], [108, 111, 111, 112], [109, 97, 114, 107], [110, 101, 120, 116], [111, 112, 101, 110], [99, 108, 111, 115, 101], [105, 110, 116, 111], [114, 101, 116, 114, 101, 97, 116], [109, 101, 101, 116], [99, 117, 116], [112, 101, 101, 107], [114, 101, 102, 117, 116, 101], [109, 97, 116, 99, 104]]
def wordL (k : Nat) : List UInt8 := wl.getD k []
def wordV (k : Nat) : Value := .string ⟨(wordL k).toArray⟩
/-- THE TWO TABLES LIE AS THE PROGRAM's TEXT LAYS THEM -/
structure Tb (w : World) : Prop where
  words : ∀ k, k < 20 → w.cell? ⟨0, k, none⟩ = some (wordV k)
  lt : 0 < w.heap.size
  pow : Lib.TabIs Tryd.prog w "internal/strconv.uint64pow10" .u64 Lib.pow10Tab
  ltp : 1 < w.heap.size
theorem g_pow : Tryd.prog.globalNamed "internal/strconv.uint64pow10" = some 1 := by kernel_rfl
theorem Tb.below {w w' : World} (h : Tb w) (hb : Below w.heap.size w w') : Tb w' := by
  refine ⟨fun k hk => (hb.cell (p := ⟨_, k, none⟩) h.lt).trans (h.words k hk), Nat.lt_of_lt_of_le h.lt hb.size, ?_, Nat.lt_of_lt_of_le h.ltp hb.size⟩
  have := h.pow
  unfold Lib.TabIs World.var? at this ⊢
  rw [g_pow] at this ⊢
  simp only [Option.bind_some] at this ⊢
  rw [hb.block _ h.ltp]
  exact this

theorem dec_len : ∀ (k u : Nat), u < 10 ^ (k + 1) → (Lib.decDigits u).length ≤ k + 1
  | 0, u, h => by
    unfold Lib.decDigits
    rw [dif_pos (by simpa using h)]
    simp
  | k + 1, u, h => by
    unfold Lib.decDigits
    by_cases h1 : u < 10
    · rw [dif_pos h1]; simp
    · rw [dif_neg h1]
      have h2 : u / 10 < 10 ^ (k + 1) := by
        rw [Nat.div_lt_iff_lt_mul (by omega)]
        rwa [Nat.pow_succ] at h
      have := dec_len k (u / 10) h2
      simp
      omega
theorem itoa_len {n : Int} (h0 : -9223372036854775808 ≤ n) (h1 : n ≤ 9223372036854775807) : (Lib.itoa n).length ≤ 20 := by
  unfold Lib.itoa
  split
  · have := dec_len 18 n.natAbs (by have : (10 : Nat) ^ 19 = 10000000000000000000 := by decide
                                    omega)
    simp
    omega
  · have := dec_len 18 n.toNat (by have : (10 : Nat) ^ 19 = 10000000000000000000 := by decide
                                   omega)
    omega
theorem below_grow {w : World} {k : Nat} {os : Array Obj} : Below w.heap.size w (Sort.grow (w.drewN k) os) :=
  ⟨rfl, rfl, rfl, by simp [Sort.grow, World.drewN], fun i hi => by
    have : (Sort.grow (w.drewN k) os).heap = w.heap ++ os := rfl
    rw [this, Array.getElem?_append_left hi]⟩
theorem itoa_any (n : Int) (w : World) (h0 : -9223372036854775808 ≤ n) (h1 : n ≤ 9223372036854775807) (hT : Tb w) :
    Calls Tryd.prog 22 #[.int .i64 n] w fun e w' => e = .returned (.string ⟨(Lib.itoa n).toArray⟩) ∧ Below w.heap.size w w' := by
  have h := Any.strconv_Itoa Tryd.laysItoa n h0 h1 w hT.pow
  change Calls Tryd.prog 22 _ _ _ at h
  refine h.mono ?_
  rintro e w' ⟨rfl, k, os, rfl⟩
  exact ⟨rfl, below_grow⟩

def nameL (op : Int) : List UInt8 := if withinB op 1 19 then wordL op.toNat else []
set_option maxHeartbeats 1000000 in
/-- **Name**. -/
theorem name_any (op : Int) (w : World) (hT : Tb w) : Calls Tryd.prog 11 #[.int .i64 op] w fun e w' => e = .returned (.string ⟨(nameL op).toArray⟩) ∧ Below w.heap.size w w' := by
  unfold nameL
  cases hq : withinB op 1 19
  · have H := hide hq
    clear hT hq
    go_enter Tryd.func11, Tryd.ntmps11
    go_wp2_with fail
    refine (within_any op 1 19 _).mono ?_
    rintro e w1 ⟨rfl, rfl⟩
    rw [unhide H]
    go_wp2_with fail
    go_ret
    exact ⟨rfl, Below.refl _ _⟩
  · have hk : ∃ k : Nat, op = (k : Int) ∧ k < 20 := by
      simp [withinB] at hq
      exact ⟨op.toNat, by omega, by omega⟩
    obtain ⟨k, rfl, hk⟩ := hk
    have hc := hT.words k hk
    have hkk : (k : Int) < 20 := by omega
    unfold wordV at hc
    have H := hide hq
    clear hT hq
    rw [show ((k : Int)).toNat = k from rfl]
    generalize wordL k = t at *
    go_enter Tryd.func11, Tryd.ntmps11
    go_wp2_with fail
    refine (within_any k 1 19 _).mono ?_
    rintro e w1 ⟨rfl, rfl⟩
    rw [unhide H]
    go_wp2_with fail
    go_ret
    exact ⟨rfl, Below.refl _ _⟩
end Go.Proofs.YtiaelaepfhiabaaDoor.Co
