/-
  bytes.Clone and sym.Each, walked: the bytes are laid anew and boxed; the function value captures the box. Conditions: fewer than 2^40 bytes.
-/
import Derived.Test.YtbnjhopodhjdhaaDoorSymEach
import Derived.Test.YtbnjhopodhjdhaaDoorSymApp
import Derived.WalkSpells
set_option linter.unusedVariables false
set_option linter.unusedSimpArgs false
namespace Go.Proofs.YtbnjhopodhjdhaaDoor.Each
open Go.RowKit Go.Shelf Go.Proofs.YtbnjhopodhjdhaaDoor.Sy Go.Proofs.YtbnjhopodhjdhaaDoor.Mem Go.Proofs.YtbnjhopodhjdhaaDoor.Utf

theorem one_u8 (bs : List UInt8) : ∀ u ∈ bs.map u8, u.oneCell' = true := by
  intro u hu
  obtain ⟨x, _, rfl⟩ := List.mem_map.1 hu
  rfl
theorem own_empty (w : World) (e : TypeId) : (w.alloc (.cells #[] e)).ownsRow w.heap.size e 1 (.slice (some ⟨w.heap.size, 0, none⟩) 0 0) 0 [] := by
  have h := World.ownsRow_lit (base := w.heap.size) (e := e) (size := 1) w #[] 0 (Nat.le_refl _) (by unfold maxLen; omega) (by simp)
  simpa using h
theorem own_base {W : World} {base e size n : Nat} {v : Value} {xs : List Value} (h : W.ownsRow base e size v n xs) : ∀ k, v.ownBlock = some k → base ≤ k := by
  intro k hk
  rcases h.2 with ⟨rfl, _⟩ | ⟨g, cap, cur, rfl, hb, _, _⟩
  · simp [Value.ownBlock] at hk
  · obtain rfl : g = k := by simpa [Value.ownBlock] using hk
    exact hb

def Cloned (bs : List UInt8) (w : World) (e : Ending) (w' : World) : Prop := ∃ v, e = .returned v ∧ w'.ownsRow w.heap.size 5 1 v bs.length (bs.map u8) ∧ Below w.heap.size w w'

set_option maxHeartbeats 1000000 in
theorem clone_nil (cap : Nat) (w : World) : Calls Tryd.prog 25 #[.slice none 0 cap] w (Cloned [] w) := by
  have hq := @Lib.run_eql_slice_nil Tryd.prog
  go_enter Tryd.func25, Tryd.ntmps25
  go_wp2
  go_ret
  exact ⟨_, rfl, World.ownsRow_nil _ _ _ _, Below.refl _ _⟩

set_option maxHeartbeats 1000000 in
theorem clone_some (bs : List UInt8) (a : Addr) (cap : Nat) (w : World) (hlen : bs.length ≤ 1099511627776) (hr : Reads w w.heap.size 1 (some a) bs.length (bs.map u8)) :
    Calls Tryd.prog 25 #[.slice (some a) bs.length cap] w (Cloned bs w) := by
  obtain ⟨i0, hi, hz0, hz1, hz2⟩ := info_parts Put.info_byte
  have hq := @Lib.run_eql_slice_nil Tryd.prog
  have hmx : 0 + bs.length ≤ maxLen := by unfold maxLen; omega
  have HR := hide hr
  clear hr
  go_enter Tryd.func25, Tryd.ntmps25
  go_wp2_with (at_builtin; refine wpList_append_any _ rfl (.tmp 5) (.tmp 6) 22 rfl w.heap.size 5 i0 (.int .u8 0) 1 1 Tryd.underlying22 hi hz0 hz1 hz2 rfl (by decide) _ 0 [] rfl (own_empty w 5) _ _ _ _ (bs.map u8) rfl ((unhide HR).alloc (Nat.le_refl _) _) (one_u8 bs) hmx (by omega) (by rw [World.size_alloc]; omega) ?_; intro v1 W1 ho1 hg1 hn1)
  go_ret
  refine ⟨_, rfl, by simpa using ho1, ?_⟩
  exact ((Below.refl _ _).alloc (Nat.le_refl _) _).grown hg1 (by rw [World.size_alloc]; omega) (own_base (own_empty w 5))

theorem clone_any (bs : List UInt8) (A : Option Addr) (cap : Nat) (w : World) (hlen : bs.length ≤ 1099511627776) (hr : Reads w w.heap.size 1 A bs.length (bs.map u8)) :
    Calls Tryd.prog 25 #[.slice A bs.length cap] w (Cloned bs w) := by
  cases A with
  | none =>
    have h0 : bs.length = 0 := by
      rcases Nat.eq_zero_or_pos bs.length with h0 | h0
      · exact h0
      · obtain ⟨ad, h, _⟩ := hr.2 h0
        cases h
    rw [List.eq_nil_of_length_eq_zero h0]
    exact clone_nil cap w
  | some a => exact clone_some bs a cap w hlen hr

/-- What Each hands back. -/
def Seq (bs : List UInt8) (w : World) (e : Ending) (w' : World) : Prop :=
  ∃ Bs A c, e = .returned (.func (.func 30) #[] #[.pointer (some ⟨Bs, 0, none⟩)]) ∧ w.heap.size ≤ Bs ∧ Boxed w' Bs 22 (.slice A bs.length c) ∧ bs.length ≤ c ∧ c ≤ 9223372036854775807 ∧
    w'.ownsRow w.heap.size 5 1 (.slice A bs.length c) bs.length (bs.map u8) ∧ Below w.heap.size w w'

set_option maxHeartbeats 1000000 in
theorem Each_any (bs : List UInt8) (A : Option Addr) (cap : Nat) (w : World) (hlen : bs.length ≤ 1099511627776) (hr : Reads w w.heap.size 1 A bs.length (bs.map u8)) :
    Calls Tryd.prog 17 #[.slice A bs.length cap] w (Seq bs w) := by
  have HC := hide (clone_any bs A cap w hlen hr)
  clear hr
  go_enter Tryd.func17, Tryd.ntmps17
  go_wp2_with fail
  refine (unhide HC).mono ?_
  rintro e w1 ⟨v, rfl, hv, hB⟩
  have HV := hide hv
  have HB := hide hB
  clear HC hv hB
  obtain ⟨A1, c1, rfl, h1, h2⟩ : ∃ A1 c1, v = .slice A1 bs.length c1 ∧ bs.length ≤ c1 ∧ c1 ≤ 9223372036854775807 := by
    have hv := unhide HV
    rcases hv.2 with ⟨rfl, h0⟩ | ⟨g, cap, cur, rfl, _, _, h1, h2, _⟩
    · exact ⟨none, 0, by rw [h0], by omega, by omega⟩
    · exact ⟨_, cap, rfl, h1, by unfold maxLen at h2; omega⟩
  go_wp2_with fail
  refine (each_any A1 bs.length c1 w1).mono ?_
  rintro e w2 ⟨rfl, rfl⟩
  go_wp2
  go_ret
  exact ⟨w1.heap.size, A1, c1, rfl, (unhide HB).size, Boxed.new w1 _ _, h1, h2, (unhide HV).alloc _, (unhide HB).alloc (unhide HB).size _⟩
end Go.Proofs.YtbnjhopodhjdhaaDoor.Each
