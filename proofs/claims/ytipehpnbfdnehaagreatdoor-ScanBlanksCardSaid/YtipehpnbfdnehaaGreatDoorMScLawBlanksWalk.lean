/-
  ScanBlanks, walked: true at any bytes, any number. Conditions: the bytes lie in memory; the tables hold what the program's text lays.
-/
import Derived.Test.YtipehpnbfdnehaaGreatDoorMScAnchor
import Derived.Test.YtipehpnbfdnehaaGreatDoorMScBlank
import Derived.Test.YtipehpnbfdnehaaGreatDoorMScRBlank
set_option linter.unusedVariables false
set_option linter.unusedSimpArgs false
namespace Go.Proofs.YtipehpnbfdnehaaGreatDoor.Sc
open Go.RowKit Go.Proofs.YtipehpnbfdnehaaGreatDoor.Mem
attribute [local go_sem] Go.Proofs.YtipehpnbfdnehaaGreatDoor.Rs.run_not_true Go.Proofs.YtipehpnbfdnehaaGreatDoor.Rs.run_not_false

theorem blz_fix (bs : List UInt8) (i : Int) (hl : bs.length ≤ 9223372036854775807) (hi : i ≤ 9223372036854775807) : blz bs (blz bs i) = blz bs i ∧ blz bs i ≤ 9223372036854775807 := by
  have key : ∀ k : Nat, (k : Int) ≤ 9223372036854775807 → blz bs (blk bs k false : Int) = (blk bs k false : Int) ∧ (blk bs k false : Int) ≤ 9223372036854775807 := fun k hk => by
    refine ⟨?_, by have := blk_le bs k false; omega⟩
    unfold blz
    rw [if_pos (by omega), Int.toNat_natCast, blk_fix]
  unfold blz
  by_cases h : 0 ≤ i
  · rw [if_pos h]
    have := key i.toNat (by omega)
    unfold blz at this
    exact this
  · rw [if_neg h]
    have := key 0 (by omega)
    unfold blz at this
    exact this

set_option maxRecDepth 100000 in
set_option maxHeartbeats 1000000 in
theorem walkBlanks (A : Option Addr) (cap : Nat) (bs : List UInt8) (i : Int) (w : World) (hG : Gl w) (hP : PV bs A cap w) (hi : -9223372036854775808 ≤ i ∧ i ≤ 9223372036854775807) :
    Calls Tryz.prog 7 #[.slice A bs.length cap, .int .i64 i] w fun e w' => e = .returned (.bool true) ∧ Below w.heap.size w w' := by
  have CA := hide (anchor_any w hG)
  have HF := hide (blz_fix bs i (by have := hP.room; have := hP.top; omega) hi.2)
  have C1 := hide (fun W (h : PV bs A cap W) => pblank_any bs A cap i W h hi.2)
  have C2 := hide (fun W (h : PV bs A cap W) => rblank_any bs A cap i W h hi.2)
  have C3 := hide (fun W (h : PV bs A cap W) => pblank_any bs A cap (blz bs i) W h (unhide HF).2)
  rw [(unhide HF).1] at C3
  have HP := hide hP
  clear hP hG HF
  generalize blz bs i = z at *
  go_enter Tryz.func7, Tryz.ntmps7
  go_wp2_with fail
  refine (unhide CA).mono ?_
  rintro e w1 ⟨rfl, hB⟩
  have HB := hide hB
  have HP1 := hide ((unhide HP).below hB)
  clear hB HP CA
  go_wp2_with fail
  refine ((unhide C1) _ (unhide HP1)).mono ?_
  rintro e w2 ⟨rfl, hw2⟩
  obtain rfl : _ = w2 := hw2.symm
  go_wp2_with fail
  refine ((unhide C2) _ (unhide HP1)).mono ?_
  rintro e w2 ⟨rfl, hw2⟩
  obtain rfl : _ = w2 := hw2.symm
  go_wp2_with fail
  refine ((unhide C3) _ (unhide HP1)).mono ?_
  rintro e w2 ⟨rfl, hw2⟩
  obtain rfl : _ = w2 := hw2.symm
  go_wp2
  go_ret
  exact ⟨rfl, unhide HB⟩
end Go.Proofs.YtipehpnbfdnehaaGreatDoor.Sc
