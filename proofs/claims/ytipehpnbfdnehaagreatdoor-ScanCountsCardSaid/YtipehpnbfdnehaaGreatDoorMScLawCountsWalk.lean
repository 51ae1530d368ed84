/-
  ScanCounts, walked: true at any bytes, any number. Conditions: the bytes lie in memory; the tables hold what the program's text lays.
-/
import Derived.Test.YtipehpnbfdnehaaGreatDoorMScAnchor
import Derived.Test.YtipehpnbfdnehaaGreatDoorMScRCount3
set_option linter.unusedVariables false
set_option linter.unusedSimpArgs false
namespace Go.Proofs.YtipehpnbfdnehaaGreatDoor.Sc
open Go.RowKit Go.Proofs.YtipehpnbfdnehaaGreatDoor.Mem
theorem eql_bb (b : Bool) (w : World) : Sem.run Tryz.prog (binOp .eql 4 (.bool b) (.bool b)) w = .ok (.bool true) w := by
  have h := run_equal_bool (P := Tryz.prog) w 4 b b Tryz.underlying4
  simp [binOp, h]
attribute [local go_sem] eql_bb eql_q eql_qg build_q4 Go.Proofs.YtipehpnbfdnehaaGreatDoor.Rs.run_not_true Go.Proofs.YtipehpnbfdnehaaGreatDoor.Rs.run_not_false

set_option maxRecDepth 100000 in
set_option maxHeartbeats 4000000 in
theorem walkCounts (A : Option Addr) (cap : Nat) (bs : List UInt8) (i : Int) (w : World) (hG : Gl w) (hP : PV bs A cap w) (hi : -9223372036854775808 ≤ i ∧ i ≤ 9223372036854775807) :
    Calls Tryz.prog 5 #[.slice A bs.length cap, .int .i64 i] w fun e w' => e = .returned (.bool true) ∧ Below w.heap.size w w' := by
  have CA := hide (anchor_any w hG)
  have C1 := hide (fun W (h : PV bs A cap W) (hT : Gl W) => pcount_any bs A cap i W h hT.tabs)
  have C2 := hide (fun W (h : PV bs A cap W) => rcount_any bs A cap i W h)
  have HP := hide hP
  have HG := hide hG
  clear hP hG
  unfold GivesC at C1 C2
  generalize cntz bs i = q at *
  generalize (q.lo : Int) = a at *
  generalize q.hi = hi' at *
  generalize (q.mode : Int) = b at *
  generalize (q.to : Int) = c at *
  generalize (q.e : Int) = d at *
  generalize q.is = is at *
  go_enter Tryz.func5, Tryz.ntmps5
  go_wp2_with fail
  refine (unhide CA).mono ?_
  rintro e w1 ⟨rfl, hB⟩
  have HB := hide hB
  have HP1 := hide ((unhide HP).below hB)
  have HG1 := hide ((unhide HG).below hB)
  clear hB HP HG CA
  go_wp2_with fail
  refine ((unhide C1) _ (unhide HP1) (unhide HG1)).mono ?_
  rintro e w2 ⟨rfl, hB⟩
  have hb2 := (unhide HB).trans (hB.mono (unhide HB).size)
  have HB2 := hide (hb2.alloc hb2.size (.cells #[.int .i64 a, .int .i64 hi', .int .i64 b, .int .i64 c] 42))
  have HP2 := hide (((unhide HP1).below hB).below ((Below.refl _ _).alloc (Nat.le_refl _) (.cells #[.int .i64 a, .int .i64 hi', .int .i64 b, .int .i64 c] 42)))
  have HK2 := hide (Blk.new w2 42 #[.int .i64 a, .int .i64 hi', .int .i64 b, .int .i64 c])
  clear hB hb2 HB HP1 HG1 C1
  go_wp2_with fail
  refine ((unhide C2) _ (unhide HP2)).mono ?_
  rintro e w3 ⟨rfl, hB⟩
  have hb3 := (unhide HB2).trans (hB.mono (unhide HB2).size)
  have HB3 := hide (hb3.alloc hb3.size (.cells #[.int .i64 a, .int .i64 hi', .int .i64 b, .int .i64 c] 45))
  have hK3 := ((unhide HK2).below hB (unhide HK2).lt).alloc (.cells #[.int .i64 a, .int .i64 hi', .int .i64 b, .int .i64 c] 45)
  have hL3 := Blk.new w3 45 #[.int .i64 a, .int .i64 hi', .int .i64 b, .int .i64 c]
  obtain ⟨⟨d0, d1, d2, d3⟩, f0, f1, f2, f3⟩ := cells4 hK3
  obtain ⟨⟨x0, x1, x2, x3⟩, y0, y1, y2, y3⟩ := cells4 hL3
  clear hB hb3 HB2 HP2 HK2 C2 hK3 hL3
  go_wp2
  go_ret
  exact ⟨rfl, unhide HB3⟩
end Go.Proofs.YtipehpnbfdnehaaGreatDoor.Sc
