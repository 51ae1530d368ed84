/-
  Two slices of the same numbers are told to be the same (clewlaw01.same, walked); nothing in memory turns but draws. Condition: fewer than 2^40 numbers.
-/
import Derived.Test.YtbnjhopodhjdhaaDoorSymMem
import Derived.Test.YtbnjhopodhjdhaaDoorProg
import Derived.WalkKit
import Derived.LoopTactic
import Derived.Deep.QuietTactic
import Derived.BigQuiet
set_option linter.unusedVariables false
set_option linter.unusedSimpArgs false
namespace Go.Proofs.YtbnjhopodhjdhaaDoor.Same
open Go.RowKit Go.Proofs.YtbnjhopodhjdhaaDoor.Mem

def Yes (w : World) (e : Ending) (w' : World) : Prop := e = .returned (.bool true) ∧ ∃ m, w' = w.drewN m

set_option maxHeartbeats 400000 in
theorem same_none (A A' : Option Addr) (cap cap' : Nat) (w : World) : Calls Tryd.prog 14 #[.slice A 0 cap, .slice A' 0 cap'] w (Yes w) := by
  go_enter Tryd.func14, Tryd.ntmps14
  go_wp2
  go_loop [13] (fun i => i = .int .i64 0) (fun _ => 0)
  case atStart => rfl
  case round =>
    subst hrel
    go_wp2
    go_ret
    exact ⟨rfl, 0, rfl⟩

set_option maxHeartbeats 1000000 in
theorem same_flat (zs : List Int) (b off cap b' off' cap' : Nat) (w : World) (hm : zs.length ≤ 1099511627776)
    (hc : ∀ j u, (zs.map i64)[j]? = some u → w.cell? ⟨b, off + j, none⟩ = some u) (hc' : ∀ j u, (zs.map i64)[j]? = some u → w.cell? ⟨b', off' + j, none⟩ = some u) :
    Calls Tryd.prog 14 #[.slice (some ⟨b, off, none⟩) zs.length cap, .slice (some ⟨b', off', none⟩) zs.length cap'] w (Yes w) := by
  have HC := hide hc
  have HC' := hide hc'
  clear hc hc'
  go_enter Tryd.func14, Tryd.ntmps14
  go_wp2
  go_loopw [13] (fun i wr => ∃ k m : Nat, i = .int .i64 k ∧ k ≤ zs.length ∧ wr = w.drewN m) (fun i _ => zs.length - (intOf i).toNat)
  case atStart => exact ⟨0, 0, rfl, Nat.zero_le _, rfl⟩
  case round =>
    obtain ⟨k, m, rfl, hk, rfl⟩ := hrel
    by_cases hlt : k < zs.length
    · have hz := List.getElem?_eq_getElem hlt
      generalize zs[k] = z at hz
      have c1 := (unhide HC) k (i64 z) (by simp [hz])
      have c2 := (unhide HC') k (i64 z) (by simp [hz])
      clear hz
      have hlt' : (k : Int) < (zs.length : Int) := by omega
      have hk0 : (0 : Int) ≤ (k : Int) := by omega
      go_wp2
      go_quiet (fail)
      go_wp2
      go_roundw
      case rel => exact ⟨k + 1, _, by go_num, by omega, rfl⟩
      case measure => simp [intOf]; omega
    · go_wp2
      go_ret
      exact ⟨rfl, m, rfl⟩

theorem same_any (zs : List Int) (B B' : Nat) (A A' : Option Addr) (cap cap' : Nat) (w : World) (hm : zs.length ≤ 1099511627776)
    (h : Reads w B 1 A zs.length (zs.map i64)) (h' : Reads w B' 1 A' zs.length (zs.map i64)) :
    Calls Tryd.prog 14 #[.slice A zs.length cap, .slice A' zs.length cap'] w (Yes w) := by
  by_cases hn : zs.length = 0
  · rw [hn]; exact same_none A A' cap cap' w
  · obtain ⟨b, off, rfl, _, hc⟩ := h.flat (by omega)
    obtain ⟨b', off', rfl, _, hc'⟩ := h'.flat (by omega)
    exact same_flat zs b off cap b' off' cap' w hm hc hc'
def ints (xs : List Nat) : List Int := xs.map fun x : Nat => (x : Int)
theorem ints_len (xs : List Nat) : (ints xs).length = xs.length := by simp [ints]
theorem ints_map (xs : List Nat) : (ints xs).map i64 = xs.map n64 := by simp [ints]
theorem same_nat (xs : List Nat) (B B' : Nat) (A A' : Option Addr) (cap cap' : Nat) (w : World) (hm : xs.length ≤ 1099511627776)
    (h : Reads w B 1 A xs.length (xs.map n64)) (h' : Reads w B' 1 A' xs.length (xs.map n64)) :
    Calls Tryd.prog 14 #[.slice A xs.length cap, .slice A' xs.length cap'] w (Yes w) := by
  have e := ints_len xs
  have f := ints_map xs
  rw [← e] at hm h h' ⊢
  rw [← f] at h h'
  exact same_any (ints xs) B B' A A' cap cap' w hm h h'
end Go.Proofs.YtbnjhopodhjdhaaDoor.Same
