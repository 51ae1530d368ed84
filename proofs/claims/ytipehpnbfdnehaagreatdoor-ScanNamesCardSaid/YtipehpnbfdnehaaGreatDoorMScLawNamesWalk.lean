/-
  ScanNames, walked: true at any bytes, any number. Conditions: the bytes lie in memory; the tables hold what the program's text lays.
-/
import Derived.Test.YtipehpnbfdnehaaGreatDoorMScAnchor
import Derived.Test.YtipehpnbfdnehaaGreatDoorMScRName
set_option linter.unusedVariables false
set_option linter.unusedSimpArgs false
namespace Go.Proofs.YtipehpnbfdnehaaGreatDoor.Sc
open Go.RowKit Go.Proofs.YtipehpnbfdnehaaGreatDoor.Mem
attribute [local go_sem] Go.Proofs.YtipehpnbfdnehaaGreatDoor.Rs.run_not_true Go.Proofs.YtipehpnbfdnehaaGreatDoor.Rs.run_not_false

set_option maxRecDepth 100000 in
set_option maxHeartbeats 1000000 in
theorem walkNames (A : Option Addr) (cap : Nat) (bs : List UInt8) (i : Int) (w : World) (hG : Gl w) (hP : PV bs A cap w) (hi : -9223372036854775808 ≤ i ∧ i ≤ 9223372036854775807) :
    Calls Tryz.prog 4 #[.slice A bs.length cap, .int .i64 i] w fun e w' => e = .returned (.bool true) ∧ Below w.heap.size w w' := by
  have CA := hide (anchor_any w hG)
  have C1 := hide (fun W (h : PV bs A cap W) (hT : Gl W) => pname_any bs A cap i W h hT)
  have C2 := hide (fun W (h : PV bs A cap W) => rname_any bs A cap i W h)
  have HP := hide hP
  have HG := hide hG
  clear hP hG
  unfold GivesN at C1 C2
  have hv : ∃ (s : List UInt8) (a b : Int), namV (namez bs i) = .tuple #[.string ⟨s.toArray⟩, .int .i64 a, .int .i64 b] := by
    cases namez bs i with
    | none => exact ⟨[], _, _, rfl⟩
    | some q => exact ⟨_, _, _, rfl⟩
  obtain ⟨s, a, b, hv⟩ := hv
  rw [hv] at C1 C2
  have e1 : (s == s) = true := by simp
  clear hv
  go_enter Tryz.func4, Tryz.ntmps4
  go_wp2_with fail
  refine (unhide CA).mono ?_
  rintro e w1 ⟨rfl, hB⟩
  have HB := hide hB
  have HP1 := hide ((unhide HP).below hB)
  have HG1 := hide ((unhide HG).below hB)
  clear hB HP HG CA
  go_wp2_with fail
  refine ((unhide C1) _ (unhide HP1) (unhide HG1)).mono ?_
  rintro e w2 ⟨rfl, hB⟩
  have HB2 := hide ((unhide HB).trans (hB.mono (unhide HB).size))
  have HP2 := hide ((unhide HP1).below hB)
  clear hB HB HP1 HG1 C1
  go_wp2_with fail
  refine ((unhide C2) _ (unhide HP2)).mono ?_
  rintro e w3 ⟨rfl, hB⟩
  have HB3 := hide ((unhide HB2).trans (hB.mono (unhide HB2).size))
  clear hB HB2 HP2 C2
  go_wp2
  go_ret
  exact ⟨rfl, unhide HB3⟩
end Go.Proofs.YtipehpnbfdnehaaGreatDoor.Sc
