/-
  Plain lists, no program: what stands behind a place of symbols, what holds there, and what comes again.
-/
import Derived.Lib.DecodeNEq
import Derived.Laws.BytesArg
import Derived.Test.YtdeaaidbmneplaaDoorMPuA
set_option linter.unusedSimpArgs false
set_option linter.unusedVariables false
namespace Go.Proofs.YtdeaaidbmneplaaDoor.Sy
section
open Go.Lib
def g (bs : List UInt8) (k : Nat) : Nat := (bs[k]?.getD 0).toNat
theorem g_lt (bs : List UInt8) (k : Nat) : g bs k < 256 := UInt8.toNat_lt _
theorem g_of {bs : List UInt8} {k : Nat} {x : UInt8} (h : bs[k]? = some x) : g bs k = x.toNat := by simp [g, h]
theorem g_drop (bs : List UInt8) (j k : Nat) : g (bs.drop j) k = g bs (j + k) := by simp [g, List.getElem?_drop]
abbrev dec := Lib.decodeN
def sy (n a b c d : Nat) : Nat × Nat := if (dec n a b c d).1 = 65533 ∧ (dec n a b c d).2 = 1 then (1114112 + a, 1) else dec n a b c d
theorem dec_size (n a b c d : Nat) (hn : 1 ≤ n) : 1 ≤ (dec n a b c d).2 ∧ (dec n a b c d).2 ≤ 4 ∧ (dec n a b c d).2 ≤ n := by
  unfold dec decodeN
  repeat' split
  all_goals (simp only []; omega)
theorem dec_top (n a b c d : Nat) : (dec n a b c d).1 ≤ 1114111 := by
  unfold dec decodeN
  repeat' split
  all_goals (simp only []; omega)
theorem sy_size (n a b c d : Nat) (hn : 1 ≤ n) : 1 ≤ (sy n a b c d).2 ∧ (sy n a b c d).2 ≤ 4 ∧ (sy n a b c d).2 ≤ n := by
  unfold sy
  split
  · exact ⟨Nat.le_refl _, by omega, hn⟩
  · exact dec_size n a b c d hn
theorem sy_top (n a b c d : Nat) (ha : a < 256) : (sy n a b c d).1 ≤ 1114367 := by
  unfold sy
  split
  · simp only []; omega
  · have := dec_top n a b c d; omega
def at_ (bs : List UInt8) (k : Nat) : Nat × Nat := sy (bs.length - k) (g bs k) (g bs (k + 1)) (g bs (k + 2)) (g bs (k + 3))
theorem at_size (bs : List UInt8) {k : Nat} (hk : k < bs.length) : 1 ≤ (at_ bs k).2 ∧ (at_ bs k).2 ≤ 4 ∧ k + (at_ bs k).2 ≤ bs.length := by
  have := sy_size (bs.length - k) (g bs k) (g bs (k + 1)) (g bs (k + 2)) (g bs (k + 3)) (by omega)
  unfold at_
  omega
theorem at_top (bs : List UInt8) (k : Nat) : (at_ bs k).1 ≤ 1114367 := sy_top _ _ _ _ _ (g_lt _ _)
def from_ (bs : List UInt8) (k : Nat) : List (Nat × Nat) :=
  if h : k < bs.length then (k, (at_ bs k).1) :: from_ bs (k + (at_ bs k).2) else []
termination_by bs.length - k
decreasing_by have := at_size bs h; omega
theorem from_lt {bs : List UInt8} {k : Nat} (h : k < bs.length) : from_ bs k = (k, (at_ bs k).1) :: from_ bs (k + (at_ bs k).2) := by rw [from_, dif_pos h]
theorem from_ge {bs : List UInt8} {k : Nat} (h : bs.length ≤ k) : from_ bs k = [] := by rw [from_, dif_neg (by omega)]
theorem from_len (bs : List UInt8) (k : Nat) : (from_ bs k).length + k ≤ max bs.length k := by
  by_cases h : k < bs.length
  · rw [from_lt h]
    have h1 := at_size bs h
    have h2 := from_len bs (k + (at_ bs k).2)
    simp only [List.length_cons]
    omega
  · rw [from_ge (by omega)]; simp; omega
termination_by bs.length - k
def syms (bs : List UInt8) : List Nat := (from_ bs 0).map (·.2)
def begins (bs : List UInt8) : List Nat := (from_ bs 0).map (·.1)
def starts (bs : List UInt8) : List Nat := begins bs ++ [bs.length]
theorem len_le (bs : List UInt8) : (from_ bs 0).length ≤ bs.length := by have := from_len bs 0; simp at this; omega
theorem syms_len (bs : List UInt8) : (syms bs).length ≤ bs.length := by simpa [syms] using len_le bs
def isS (x : Int) : Bool := decide ((0 ≤ x ∧ x ≤ 55295) ∨ (57344 ≤ x ∧ x ≤ 1114111) ∨ (1114240 ≤ x ∧ x ≤ 1114367))
def isRaw (x : Int) : Bool := decide (1114240 ≤ x ∧ x ≤ 1114367)
def encZ (x : Int) : List Int := if 1114112 ≤ x then [x - 1114112] else if x < 128 then [x] else if x < 2048 then [192 + x / 64, 128 + x % 64]
  else if x < 65536 then [224 + x / 4096, 128 + x / 64 % 64, 128 + x % 64] else [240 + x / 262144, 128 + x / 4096 % 64, 128 + x / 64 % 64, 128 + x % 64]
theorem encZ_range (x : Int) (h : isS x = true) : ∀ z ∈ encZ x, 0 ≤ z ∧ z ≤ 255 := by
  unfold isS at h
  simp only [decide_eq_true_eq] at h
  unfold encZ
  repeat' split
  all_goals (intro z hz; simp only [List.mem_cons, List.mem_nil_iff, or_false] at hz; rcases hz with rfl | rfl | rfl | rfl <;> omega)
theorem encZ_len (x : Int) : 1 ≤ (encZ x).length ∧ (encZ x).length ≤ 4 := by
  unfold encZ
  repeat' split
  all_goals (simp only [List.length_cons, List.length_nil]; omega)
end
section
open Go.Lib
def encs (l : List Int) : List Int := l.flatMap encZ
def nums (bs : List UInt8) : List Int := bs.map fun u => (u.toNat : Int)
set_option maxHeartbeats 1000000 in
theorem dec_ge (n a b c d : Nat) (h : dec n a b c d = (65533, 1)) : 128 ≤ a := by
  refine Nat.le_of_not_lt fun ha => ?_
  unfold dec decodeN at h
  rw [if_pos ha] at h
  have := congrArg Prod.fst h
  simp only [] at this
  omega
def Fits (r : Nat × Nat) (a b c d : Nat) : Prop := encZ (r.1 : Int) = (([a, b, c, d].take r.2).map fun x : Nat => (x : Int)) ∧ isS (r.1 : Int) = true
theorem fits1 {a b c d : Nat} (h : a < 128) : Fits (a, 1) a b c d := by
  refine ⟨?_, decide_eq_true (by simp only []; omega)⟩
  unfold encZ
  simp only []
  rw [if_neg (by omega), if_pos (by omega)]
  rfl
theorem fits_raw {a b c d : Nat} (h : 128 ≤ a) (ha : a < 256) : Fits (1114112 + a, 1) a b c d := by
  refine ⟨?_, decide_eq_true (by simp only []; omega)⟩
  unfold encZ
  simp only []
  rw [if_pos (by omega)]
  simp only [List.take_succ_cons, List.take_zero, List.map_cons, List.map_nil, List.cons.injEq, and_true]
  omega
theorem fits2 {a b c d : Nat} (h1 : a / 32 = 6) (h2 : b / 64 = 2) (hv : a % 32 * 64 + b % 64 ≥ 128) : Fits (a % 32 * 64 + b % 64, 2) a b c d := by
  refine ⟨?_, decide_eq_true (by simp only []; omega)⟩
  unfold encZ
  simp only []
  rw [if_neg (by omega), if_neg (by omega), if_pos (by omega)]
  simp only [List.take_succ_cons, List.take_zero, List.map_cons, List.map_nil, List.cons.injEq, and_true]
  omega
theorem fits3 {a b c d : Nat} (h1 : a / 16 = 14) (h2 : b / 64 = 2) (h3 : c / 64 = 2) (hv : a % 16 * 4096 + b % 64 * 64 + c % 64 ≥ 2048)
    (hw : a % 16 * 4096 + b % 64 * 64 + c % 64 < 55296 ∨ (57344 ≤ a % 16 * 4096 + b % 64 * 64 + c % 64 ∧ a % 16 * 4096 + b % 64 * 64 + c % 64 ≤ 1114111)) : Fits (a % 16 * 4096 + b % 64 * 64 + c % 64, 3) a b c d := by
  refine ⟨?_, decide_eq_true (by simp only []; omega)⟩
  unfold encZ
  simp only []
  rw [if_neg (by omega), if_neg (by omega), if_neg (by omega), if_pos (by omega)]
  simp only [List.take_succ_cons, List.take_zero, List.map_cons, List.map_nil, List.cons.injEq, and_true]
  omega
theorem fits4 {a b c d : Nat} (h1 : a / 8 = 30) (h2 : b / 64 = 2) (h3 : c / 64 = 2) (h4 : d / 64 = 2) (hv : a % 8 * 262144 + b % 64 * 4096 + c % 64 * 64 + d % 64 ≥ 65536)
    (hw : a % 8 * 262144 + b % 64 * 4096 + c % 64 * 64 + d % 64 ≤ 1114111) : Fits (a % 8 * 262144 + b % 64 * 4096 + c % 64 * 64 + d % 64, 4) a b c d := by
  refine ⟨?_, decide_eq_true (by simp only []; omega)⟩
  unfold encZ
  simp only []
  rw [if_neg (by omega), if_neg (by omega), if_neg (by omega), if_neg (by omega)]
  simp only [List.take_succ_cons, List.take_zero, List.map_cons, List.map_nil, List.cons.injEq, and_true]
  omega
theorem dec_fits (n a b c d : Nat) (ha : a < 256) : dec n a b c d = (65533, 1) ∨ Fits (dec n a b c d) a b c d := by
  unfold dec decodeN
  by_cases h0 : a < 128
  · rw [if_pos h0]; exact .inr (fits1 h0)
  rw [if_neg h0]
  by_cases h1 : a / 32 = 6 ∧ (1 < n ∧ b / 64 = 2)
  · rw [if_pos h1]
    by_cases hv : a % 32 * 64 + b % 64 ≥ 128
    · rw [if_pos hv]; exact .inr (fits2 h1.1 h1.2.2 hv)
    · rw [if_neg hv]; exact .inl rfl
  rw [if_neg h1]
  by_cases h2 : a / 16 = 14 ∧ (1 < n ∧ b / 64 = 2) ∧ (2 < n ∧ c / 64 = 2)
  · rw [if_pos h2]
    by_cases hv : a % 16 * 4096 + b % 64 * 64 + c % 64 ≥ 2048 ∧ (a % 16 * 4096 + b % 64 * 64 + c % 64 < 55296 ∨ (57344 ≤ a % 16 * 4096 + b % 64 * 64 + c % 64 ∧ a % 16 * 4096 + b % 64 * 64 + c % 64 ≤ 1114111))
    · rw [if_pos hv]; exact .inr (fits3 h2.1 h2.2.1.2 h2.2.2.2 hv.1 hv.2)
    · rw [if_neg hv]; exact .inl rfl
  rw [if_neg h2]
  by_cases h3 : a / 8 = 30 ∧ (1 < n ∧ b / 64 = 2) ∧ (2 < n ∧ c / 64 = 2) ∧ (3 < n ∧ d / 64 = 2)
  · rw [if_pos h3]
    by_cases hv : a % 8 * 262144 + b % 64 * 4096 + c % 64 * 64 + d % 64 ≥ 65536 ∧ (a % 8 * 262144 + b % 64 * 4096 + c % 64 * 64 + d % 64 < 55296 ∨ (57344 ≤ a % 8 * 262144 + b % 64 * 4096 + c % 64 * 64 + d % 64 ∧ a % 8 * 262144 + b % 64 * 4096 + c % 64 * 64 + d % 64 ≤ 1114111))
    · rw [if_pos hv]; exact .inr (fits4 h3.1 h3.2.1.2 h3.2.2.1.2 h3.2.2.2.2 hv.1 (by omega))
    · rw [if_neg hv]; exact .inl rfl
  rw [if_neg h3]
  exact .inl rfl
theorem sy_fits (n a b c d : Nat) (ha : a < 256) : Fits (sy n a b c d) a b c d := by
  rcases dec_fits n a b c d ha with h | h
  · unfold sy
    rw [h, if_pos ⟨rfl, rfl⟩]
    exact fits_raw (dec_ge n a b c d h) ha
  · unfold sy
    by_cases hb : (dec n a b c d).1 = 65533 ∧ (dec n a b c d).2 = 1
    · rw [if_pos hb]
      exact fits_raw (dec_ge n a b c d (Prod.ext hb.1 hb.2)) ha
    · rw [if_neg hb]; exact h
theorem take_g (bs : List UInt8) (k m : Nat) (hm : m ≤ 4) (hk : k + m ≤ bs.length) : ([g bs k, g bs (k + 1), g bs (k + 2), g bs (k + 3)].take m).map (fun x : Nat => (x : Int)) = nums ((bs.drop k).take m) := by
  apply List.ext_getElem?
  intro j
  unfold nums
  rw [List.getElem?_map, List.getElem?_take, List.getElem?_map, List.getElem?_take]
  by_cases hj : j < m
  · rw [if_pos hj, if_pos hj, List.getElem?_drop]
    have hlt : k + j < bs.length := by omega
    have hx := List.getElem?_eq_getElem hlt
    have hg : g bs (k + j) = (bs[k + j]).toNat := g_of hx
    rw [hx]
    have h4 : j < 4 := by omega
    match j, h4 with
    | 0, _ => simpa using congrArg (fun x : Nat => (x : Int)) hg
    | 1, _ => simpa using congrArg (fun x : Nat => (x : Int)) hg
    | 2, _ => simpa using congrArg (fun x : Nat => (x : Int)) hg
    | 3, _ => simpa using congrArg (fun x : Nat => (x : Int)) hg
  · rw [if_neg hj, if_neg hj]; rfl
theorem at_fits (bs : List UInt8) {k : Nat} (hk : k < bs.length) : encZ ((at_ bs k).1 : Int) = nums ((bs.drop k).take (at_ bs k).2) ∧ isS ((at_ bs k).1 : Int) = true := by
  have h := sy_fits (bs.length - k) (g bs k) (g bs (k + 1)) (g bs (k + 2)) (g bs (k + 3)) (g_lt _ _)
  have hs := at_size bs hk
  rw [← take_g bs k _ hs.2.1 hs.2.2]
  exact h
theorem encs_from (bs : List UInt8) (k : Nat) : encs ((from_ bs k).map fun x => (x.2 : Int)) = nums (bs.drop k) ∧ ∀ x ∈ (from_ bs k).map (fun x => (x.2 : Int)), isS x = true := by
  by_cases h : k < bs.length
  · have hs := at_size bs h
    have ih := encs_from bs (k + (at_ bs k).2)
    have hf := at_fits bs h
    rw [from_lt h, List.map_cons]
    refine ⟨?_, fun x hx => ?_⟩
    · have e : encs (((at_ bs k).1 : Int) :: (from_ bs (k + (at_ bs k).2)).map fun x => (x.2 : Int)) = encZ ((at_ bs k).1 : Int) ++ encs ((from_ bs (k + (at_ bs k).2)).map fun x => (x.2 : Int)) := by simp [encs]
      rw [e, ih.1, hf.1, ← List.drop_drop]
      unfold nums
      rw [← List.map_append, List.take_append_drop]
    · rcases List.mem_cons.1 hx with rfl | hx
      · exact hf.2
      · exact ih.2 x hx
  · rw [from_ge (by omega), List.drop_eq_nil_of_le (by omega)]
    exact ⟨rfl, fun x hx => by cases hx⟩
termination_by bs.length - k
decreasing_by have := at_size bs h; omega
def symsZ (bs : List UInt8) : List Int := (syms bs).map fun x : Nat => (x : Int)
theorem symsZ_eq (bs : List UInt8) : symsZ bs = (from_ bs 0).map fun x => (x.2 : Int) := by simp [symsZ, syms]
theorem encs_syms (bs : List UInt8) : encs (symsZ bs) = nums bs := by rw [symsZ_eq, (encs_from bs 0).1, List.drop_zero]
theorem all_syms (bs : List UInt8) : ∀ x ∈ symsZ bs, isS x = true := by rw [symsZ_eq]; exact (encs_from bs 0).2
theorem symsZ_len (bs : List UInt8) : (symsZ bs).length = (syms bs).length := by simp [symsZ]
end
end Go.Proofs.YtdeaaidbmneplaaDoor.Sy
namespace Go.Proofs.YtdeaaidbmneplaaDoor.Tx
open Go.Proofs.YtdeaaidbmneplaaDoor.Sy
def atZ (l : List Int) (k : Int) : Int := if 0 ≤ k then l[k.toNat]?.getD (-1) else -1
theorem atZ_out {l : List Int} {k : Int} (h : k < 0 ∨ (l.length : Int) ≤ k) : atZ l k = -1 := by
  unfold atZ
  split
  · rw [List.getElem?_eq_none (by omega)]; rfl
  · rfl
theorem atZ_in {l : List Int} {k : Nat} {x : Int} (h : l[k]? = some x) : atZ l (k : Int) = x := by
  unfold atZ
  rw [if_pos (by omega), Int.toNat_natCast, h]; rfl
def Sm (l : List Int) : Prop := ∀ x ∈ l, 0 ≤ x ∧ x ≤ 1114367
theorem sm_syms (bs : List UInt8) : Sm (symsZ bs) := fun x hx => by
  have := all_syms bs x hx
  unfold isS at this
  simp only [decide_eq_true_eq] at this
  omega
theorem atZ_bound {l : List Int} (h : Sm l) (k : Int) : -1 ≤ atZ l k ∧ atZ l k ≤ 1114367 := by
  unfold atZ
  split
  · cases hx : l[k.toNat]? with
    | none => exact ⟨by simp, by simp⟩
    | some x => have := h x (List.mem_of_getElem? hx); simp; omega
  · omega
theorem atZ_neg {l : List Int} (h : Sm l) (k : Int) : atZ l k < 0 ↔ (k < 0 ∨ (l.length : Int) ≤ k) := by
  constructor
  · intro hn
    refine Classical.byContradiction fun hc => ?_
    have hk : k.toNat < l.length := by omega
    have hx := List.getElem?_eq_getElem hk
    have e := atZ_in hx
    rw [show ((k.toNat : Nat) : Int) = k by omega] at e
    have := h _ (List.getElem_mem hk)
    omega
  · intro hn; rw [atZ_out hn]; omega
def wordZ (x : Int) : Bool := Rs.hasL (Cl.nameL [119, 111, 114, 100]) x
theorem wordZ_ref (x : Int) : (Cl.hasP [119, 111, 114, 100] x).1 = wordZ x := by rw [Cl.hasP_eq]; rfl
def holdZ (l : List Int) (what at_ : Int) : Bool :=
  if at_ < 0 ∨ (l.length : Int) < at_ then false
  else if what = 1 then at_ == 0
  else if what = 2 then at_ == l.length || (at_ == l.length - 1 && atZ l at_ == 10)
  else if what = 3 then at_ == l.length
  else if what = 4 then at_ == 0 || atZ l (at_ - 1) == 10
  else if what = 5 then at_ == l.length || atZ l at_ == 10
  else if what = 6 then wordZ (atZ l (at_ - 1)) != wordZ (atZ l at_)
  else if what = 7 then wordZ (atZ l (at_ - 1)) == wordZ (atZ l at_)
  else false
def sameZ (mode x y : Int) : Bool := if mode = 1 then Fo.foldZ x == Fo.foldZ y else x == y
theorem sameZ_self (mode x : Int) : sameZ mode x x = true := by unfold sameZ; split <;> simp
def runL (mode : Int) (xs ys : List Int) : Nat → Bool
  | 0 => true
  | n + 1 => runL mode xs ys n && sameZ mode (atZ xs (n : Nat)) (atZ ys (n : Nat))
theorem runL_false {mode : Int} {xs ys : List Int} {k : Nat} (h : runL mode xs ys k = false) : ∀ n, k ≤ n → runL mode xs ys n = false
  | 0, hn => by obtain rfl : k = 0 := by omega
                exact h
  | n + 1, hn => by
    rcases Nat.lt_or_ge n k with h1 | h1
    · obtain rfl : k = n + 1 := by omega
      exact h
    · rw [runL, runL_false h n h1]; rfl
theorem runL_step {mode x y : Int} {xs ys : List Int} {k : Nat} (h : runL mode xs ys k = true) (hx : xs[k]? = some x) (hy : ys[k]? = some y) : runL mode xs ys (k + 1) = sameZ mode x y := by
  rw [runL, h, Bool.true_and, atZ_in hx, atZ_in hy]
theorem runL_congr {mode : Int} {xs ys xs' ys' : List Int} : ∀ n, (∀ j, j < n → atZ xs (j : Nat) = atZ xs' (j : Nat) ∧ atZ ys (j : Nat) = atZ ys' (j : Nat)) → runL mode xs ys n = runL mode xs' ys' n
  | 0, _ => rfl
  | n + 1, h => by rw [runL, runL, runL_congr n (fun j hj => h j (by omega)), (h n (by omega)).1, (h n (by omega)).2]
theorem atZ_drop (l : List Int) (f j : Nat) : atZ (l.drop f) (j : Nat) = atZ l ((f + j : Nat) : Int) := by
  unfold atZ
  rw [if_pos (by omega), if_pos (by omega), List.getElem?_drop]
  rfl
theorem atZ_take {l : List Int} {n j : Nat} (h : j < n) : atZ (l.take n) (j : Nat) = atZ l (j : Nat) := by
  unfold atZ
  rw [if_pos (by omega), if_pos (by omega), Int.toNat_natCast, List.getElem?_take, if_pos h]
def againZ (l : List Int) (f t a mode : Int) : Option Int :=
  if 0 ≤ f ∧ f ≤ t ∧ t ≤ l.length ∧ 0 ≤ a ∧ a + (t - f) ≤ l.length then (if runL mode (l.drop f.toNat) (l.drop a.toNat) (t - f).toNat then some (a + (t - f)) else none) else none
theorem again_none {l : List Int} {f t a mode : Int} (h : ¬ (0 ≤ f ∧ f ≤ t ∧ t ≤ l.length ∧ 0 ≤ a ∧ a + (t - f) ≤ l.length)) : againZ l f t a mode = none := by unfold againZ; rw [if_neg h]
theorem again_nat {l : List Int} {f t a : Nat} {mode : Int} (h1 : f ≤ t) (h2 : t ≤ l.length) (h3 : a + (t - f) ≤ l.length) : againZ l f t a mode = if runL mode (l.drop f) (l.drop a) (t - f) then some ((a : Int) + ((t : Int) - f)) else none := by
  unfold againZ
  rw [if_pos (by omega), Int.toNat_natCast, Int.toNat_natCast, show ((t : Int) - (f : Int)).toNat = t - f by omega]
section
variable {l : List Int} {k : Int}
theorem hold_out {what : Int} (h : ¬ (0 ≤ k ∧ k ≤ l.length)) : holdZ l what k = false := by unfold holdZ; rw [if_pos (by omega)]
theorem hold1 (h : 0 ≤ k ∧ k ≤ l.length) : holdZ l 1 k = (k == 0) := by unfold holdZ; rw [if_neg (by omega), if_pos rfl]
theorem hold2 (h : 0 ≤ k ∧ k ≤ l.length) : holdZ l 2 k = (k == l.length || (k == l.length - 1 && atZ l k == 10)) := by unfold holdZ; rw [if_neg (by omega), if_neg (by decide), if_pos rfl]
theorem hold3 (h : 0 ≤ k ∧ k ≤ l.length) : holdZ l 3 k = (k == l.length) := by unfold holdZ; rw [if_neg (by omega), if_neg (by decide), if_neg (by decide), if_pos rfl]
theorem hold4 (h : 0 ≤ k ∧ k ≤ l.length) : holdZ l 4 k = (k == 0 || atZ l (k - 1) == 10) := by unfold holdZ; rw [if_neg (by omega), if_neg (by decide), if_neg (by decide), if_neg (by decide), if_pos rfl]
theorem hold5 (h : 0 ≤ k ∧ k ≤ l.length) : holdZ l 5 k = (k == l.length || atZ l k == 10) := by unfold holdZ; rw [if_neg (by omega), if_neg (by decide), if_neg (by decide), if_neg (by decide), if_neg (by decide), if_pos rfl]
theorem hold6 (h : 0 ≤ k ∧ k ≤ l.length) : holdZ l 6 k = (wordZ (atZ l (k - 1)) != wordZ (atZ l k)) := by unfold holdZ; rw [if_neg (by omega), if_neg (by decide), if_neg (by decide), if_neg (by decide), if_neg (by decide), if_neg (by decide), if_pos rfl]
theorem hold7 (h : 0 ≤ k ∧ k ≤ l.length) : holdZ l 7 k = (wordZ (atZ l (k - 1)) == wordZ (atZ l k)) := by unfold holdZ; rw [if_neg (by omega), if_neg (by decide), if_neg (by decide), if_neg (by decide), if_neg (by decide), if_neg (by decide), if_neg (by decide), if_pos rfl]
theorem hold_no {what : Int} (h : ¬ (1 ≤ what ∧ what ≤ 7)) : holdZ l what k = false := by
  unfold holdZ
  split
  · rfl
  · rw [if_neg (by omega), if_neg (by omega), if_neg (by omega), if_neg (by omega), if_neg (by omega), if_neg (by omega), if_neg (by omega)]
theorem left_lt (hs : Sm l) (h : 0 ≤ k ∧ k ≤ l.length) : decide (atZ l (k - 1) < 0) = (k == 0) := by
  have := atZ_neg hs (k - 1)
  rw [Bool.eq_iff_iff, decide_eq_true_iff, this, beq_iff_eq]
  omega
theorem right_lt (hs : Sm l) (h : 0 ≤ k ∧ k ≤ l.length) : decide (atZ l k < 0) = (k == (l.length : Int)) := by
  have := atZ_neg hs k
  rw [Bool.eq_iff_iff, decide_eq_true_iff, this, beq_iff_eq]
  omega
theorem next_lt (hs : Sm l) (h : 0 ≤ k ∧ k ≤ l.length) (hb : ¬ atZ l k < 0) : decide (atZ l (k + 1) < 0) = (k == (l.length : Int) - 1) := by
  have h1 := atZ_neg hs k
  have h2 := atZ_neg hs (k + 1)
  rw [Bool.eq_iff_iff, decide_eq_true_iff, h2, beq_iff_eq]
  omega
end
end Go.Proofs.YtdeaaidbmneplaaDoor.Tx
