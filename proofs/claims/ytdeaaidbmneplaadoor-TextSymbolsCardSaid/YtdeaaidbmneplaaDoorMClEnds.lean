/-
  The sets as texts: the ends of their ranges, two by two, one byte each.
-/
import Derived.Test.YtdeaaidbmneplaaDoorMRsMem
import Derived.WalkHide
set_option linter.unusedSimpArgs false
set_option linter.unusedVariables false
namespace Go.Proofs.YtdeaaidbmneplaaDoor.Cl
open Go.RowKit Go.Proofs.YtdeaaidbmneplaaDoor.Mem Go.Proofs.YtdeaaidbmneplaaDoor.Rs
theorem ret_b {a b : Bool} (h : a = b) : Ending.returned (.bool a) = .returned (.bool b) := by rw [h]
abbrev str (l : List UInt8) : Value := .string ⟨l.toArray⟩
def endsOf : List R → List UInt8
  | [] => []
  | r :: l => UInt8.ofNat r.1.toNat :: UInt8.ofNat r.2.toNat :: endsOf l
theorem endsOf_len : ∀ l : List R, (endsOf l).length = 2 * l.length
  | [] => rfl
  | r :: l => by simp only [endsOf, List.length_cons, endsOf_len l]; omega
def Byt (l : List R) : Prop := ∀ r ∈ l, 0 ≤ r.1 ∧ r.1 < 256 ∧ 0 ≤ r.2 ∧ r.2 < 256
instance (l : List R) : Decidable (Byt l) := by unfold Byt; infer_instance
theorem sets_byt : ∀ l ∈ sets, Byt l := by decide
theorem byte_at {x : Int} (h0 : 0 ≤ x) (h1 : x < 256) : ((UInt8.ofNat x.toNat).toNat : Int) = x := by
  have : (UInt8.ofNat x.toNat).toNat = x.toNat := by simp [UInt8.toNat_ofNat']; omega
  omega
theorem endsOf_at : ∀ (l : List R) (k : Nat) (r : R), Byt l → l[k]? = some r → (∃ b, (endsOf l)[2 * k]? = some b ∧ (b.toNat : Int) = r.1) ∧ ∃ b, (endsOf l)[2 * k + 1]? = some b ∧ (b.toNat : Int) = r.2
  | [], k, r, _, h => by simp at h
  | x :: l, 0, r, hb, h => by
    obtain rfl : x = r := by simpa using h
    obtain ⟨h0, h1, h2, h3⟩ := hb x (by simp)
    exact ⟨⟨_, rfl, byte_at h0 h1⟩, _, rfl, byte_at h2 h3⟩
  | x :: l, k + 1, r, hb, h => by
    have := endsOf_at l k r (fun r hr => hb r (List.mem_cons_of_mem _ hr)) (by simpa using h)
    rw [show 2 * (k + 1) = 2 * k + 1 + 1 by omega]
    simpa [endsOf] using this
structure EndsOf (e : ByteArray) (l : List R) : Prop where
  size : (e.size : Int) = 2 * (l.length : Int)
  lo : ∀ (k : Nat) (r : R), l[k]? = some r → ∀ W : World, (Instr.index 9 (.string e) (.int .i64 (2 * (k : Int)))).run Tryd.prog W = .ok (.int .u8 r.1) W
  hi : ∀ (k : Nat) (r : R), l[k]? = some r → ∀ W : World, (Instr.index 9 (.string e) (.int .i64 (2 * (k : Int) + 1))).run Tryd.prog W = .ok (.int .u8 r.2) W
  byt : Byt l
theorem endsOf_ends (l : List R) (hb : Byt l) : EndsOf ⟨(endsOf l).toArray⟩ l := by
  have hs : (⟨(endsOf l).toArray⟩ : ByteArray).size = 2 * l.length := by
    show (endsOf l).toArray.size = _
    rw [List.size_toArray, endsOf_len]
  have key : ∀ (j : Nat) (b : UInt8) (W : World), (endsOf l)[j]? = some b → (Instr.index 9 (.string ⟨(endsOf l).toArray⟩) (.int .i64 (j : Int))).run Tryd.prog W = .ok (.int .u8 b.toNat) W := by
    intro j b W hj
    obtain ⟨hlt, e⟩ := List.getElem?_eq_some_iff.1 hj
    have hsz : (⟨(endsOf l).toArray⟩ : ByteArray).size = (endsOf l).length := by show (endsOf l).toArray.size = _; simp
    rw [run_index_string (P := Tryd.prog) W 9 _ _ _ Tryd.underlying9, dif_pos ⟨by omega, by rw [hsz]; omega⟩]
    have : (⟨(endsOf l).toArray⟩ : ByteArray)[(j : Int).toNat]'(by rw [hsz]; exact hlt) = b := by
      rw [← e]; rfl
    rw [this]
  refine ⟨by rw [hs]; omega, fun k r hr W => ?_, fun k r hr W => ?_, hb⟩
  · obtain ⟨⟨b, h1, h2⟩, -⟩ := endsOf_at l k r hb hr
    have := key (2 * k) b W h1
    rw [h2] at this
    rw [show 2 * (k : Int) = ((2 * k : Nat) : Int) by omega]
    exact this
  · obtain ⟨-, b, h1, h2⟩ := endsOf_at l k r hb hr
    have := key (2 * k + 1) b W h1
    rw [h2] at this
    rw [show 2 * (k : Int) + 1 = ((2 * k + 1 : Nat) : Int) by omega]
    exact this
theorem nameL_byt (s : List UInt8) : Byt (nameL s) := by
  unfold nameL
  cases h : place s with
  | none => intro r hr; cases hr
  | some j =>
    obtain ⟨l, hs, hm⟩ := sets_at (place_lt h)
    show Byt (sets.getD j [])
    rw [List.getD, hs]
    exact sets_byt _ hm
end Go.Proofs.YtdeaaidbmneplaaDoor.Cl
