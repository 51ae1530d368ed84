/-
  The law SymAt, walked: true at any bytes and any place. Conditions: the library's two tables hold what the program's text lays.
-/
import Derived.Test.YtbnjhopodhjdhaaDoorSymAnchor
import Derived.Test.YtbnjhopodhjdhaaDoorSymRefAt
set_option linter.unusedVariables false
set_option linter.unusedSimpArgs false
namespace Go.Proofs.YtbnjhopodhjdhaaDoor.LawAt
open Go.RowKit Go.Proofs.YtbnjhopodhjdhaaDoor.Sy Go.Proofs.YtbnjhopodhjdhaaDoor.Mem Go.Proofs.YtbnjhopodhjdhaaDoor.Utf Go.Proofs.YtbnjhopodhjdhaaDoor.At

set_option maxHeartbeats 1000000 in
theorem walk_out (a0 : Option Addr) (n cap : Nat) (a1 : Int) (w : World) (hT : Tabs w) (h : a1 < 0 ∨ (n : Int) ≤ a1) :
    Calls Tryd.prog 3 #[.slice a0 n cap, .int .i64 a1] w fun e w' => e = .returned (.bool true) ∧ Below w.heap.size w w' := by
  by_cases h0 : a1 < 0
  · clear h
    go_enter Tryd.func3, Tryd.ntmps3
    go_wp2_with fail
    refine (Anchor.anchor_any w hT).mono ?_
    rintro e w1 ⟨rfl, hB⟩
    go_wp2_with fail
    refine (at_out n cap a0 a1 w1 (.inl h0)).mono ?_
    rintro e w2 ⟨rfl, rfl⟩
    go_wp2
    go_ret
    exact ⟨rfl, hB⟩
  · have h2 : (n : Int) ≤ a1 := by omega
    have h3 : 0 ≤ a1 := by omega
    clear h
    go_enter Tryd.func3, Tryd.ntmps3
    go_wp2_with fail
    refine (Anchor.anchor_any w hT).mono ?_
    rintro e w1 ⟨rfl, hB⟩
    go_wp2_with fail
    refine (at_out n cap a0 a1 w1 (.inr h2)).mono ?_
    rintro e w2 ⟨rfl, rfl⟩
    go_wp2
    go_ret
    exact ⟨rfl, hB⟩

set_option maxHeartbeats 1000000 in
theorem walk_in (a0 : Option Addr) (cap k : Nat) (bs : List UInt8) (w : World) (hT : Tabs w) (hl : bs.length ≤ cap) (hm : cap ≤ 9223372036854775807) (hk : k < bs.length) (hr : Reads w w.heap.size 1 a0 bs.length (bs.map u8)) :
    Calls Tryd.prog 3 #[.slice a0 bs.length cap, .int .i64 (k : Int)] w fun e w' => e = .returned (.bool true) ∧ Below w.heap.size w w' := by
  have HR := hide hr
  have HT := hide hT
  clear hr hT
  go_enter Tryd.func3, Tryd.ntmps3
  go_wp2_with fail
  refine (Anchor.anchor_any w (unhide HT)).mono ?_
  rintro e w1 ⟨rfl, hB⟩
  have HB := hide hB
  clear hB
  go_wp2_with fail
  refine (at_in bs w.heap.size k cap a0 w1 ((unhide HT).below (unhide HB) (Nat.le_refl _)) hk hl hm ((unhide HR).below (unhide HB))).mono ?_
  rintro e w2 ⟨rfl, hB2⟩
  have HB2 := hide ((unhide HB).trans (hB2.mono (unhide HB).size))
  clear hB2
  go_wp2_with fail
  refine (Ref.ref_at bs w.heap.size k cap a0 w2 hk (by omega) ((unhide HR).below (unhide HB2))).mono ?_
  rintro e w3 ⟨rfl, rfl⟩
  generalize at_ bs k = x
  go_wp2
  go_ret
  exact ⟨rfl, unhide HB2⟩

theorem walk (a0 : Option Addr) (cap0 : Nat) (bs0 : List UInt8) (a1 : Int) (w : World) (hT : Tabs w) (hl0 : bs0.length ≤ cap0) (hm0 : cap0 ≤ 9223372036854775807) (h0 : Reads w w.heap.size 1 a0 bs0.length (bs0.map u8))
    (b1 : -9223372036854775808 ≤ a1 ∧ a1 ≤ 9223372036854775807) :
    Calls Tryd.prog 3 #[.slice a0 bs0.length cap0, .int .i64 a1] w fun e w' => e = .returned (.bool true) ∧ Below w.heap.size w w' := by
  by_cases h : a1 < 0 ∨ (bs0.length : Int) ≤ a1
  · exact walk_out a0 bs0.length cap0 a1 w hT h
  · obtain ⟨k, rfl⟩ : ∃ k : Nat, a1 = (k : Int) := ⟨a1.toNat, by omega⟩
    exact walk_in a0 cap0 k bs0 w hT hl0 hm0 (by omega) h0
end Go.Proofs.YtbnjhopodhjdhaaDoor.LawAt
