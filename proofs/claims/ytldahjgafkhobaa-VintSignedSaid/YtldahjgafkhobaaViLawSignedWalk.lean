/-
  GetSigned; the law VintSigned, walked: true. Conditions: the bytes lie in memory; the place is an int.
-/
import Derived.Test.YtldahjgafkhobaaViLawGetsWalk
set_option linter.unusedVariables false
set_option linter.unusedSimpArgs false
namespace Go.Proofs.Ytldahjgafkhobaa.Vi
open Go.RowKit Go.Proofs.Ytldahjgafkhobaa.Mem

def S3 (x : Nat × Nat × Nat) (w : World) (e : Ending) (w' : World) : Prop := e = .returned (.tuple #[.int .i64 (zag x.1), .int .i64 (x.2.1 : Int), .int .i64 (x.2.2 : Int)]) ∧ w' = w
set_option maxHeartbeats 1000000 in
theorem getSigned_any (bs : List UInt8) (A : Option Addr) (cap B : Nat) (p : Int) (w : World) (hn : (bs.length : Int) ≤ 9223372036854775807) (hr : Reads w B 1 A bs.length (bs.map u8)) :
    Calls Try.prog 17 #[.slice A bs.length cap, .int .i64 p] w (S3 (getP bs p) w) := by
  have hlt := getP_lt bs p
  have C := hide (get_any bs A cap B p w hn hr)
  have D := hide (fun W => zag_any (getP bs p).1 (by omega) W)
  clear hr hlt
  generalize getP bs p = g at *
  go_enter Try.func17, Try.ntmps17
  go_wp2_with fail
  refine (unhide C).mono ?_
  rintro e w1 ⟨rfl, rfl⟩
  clear C
  go_wp2_with fail
  refine (unhide D w1).mono ?_
  rintro e w2 ⟨rfl, rfl⟩
  clear D
  go_wp2
  go_ret3
  exact ⟨rfl, rfl⟩
set_option maxRecDepth 100000 in
set_option maxHeartbeats 1000000 in
theorem walkSigned (bs : List UInt8) (A : Option Addr) (cap : Nat) (p : Int) (w : World) (hcap : bs.length ≤ cap) (hm : cap ≤ 9223372036854775807) (hr : Reads w w.heap.size 1 A bs.length (bs.map u8)) :
    Calls Try.prog 7 #[.slice A bs.length cap, .int .i64 p] w fun e w' => e = .returned (.bool true) ∧ Below w.heap.size w w' := by
  have HR := hide hr
  have hn : (bs.length : Int) ≤ 9223372036854775807 := by omega
  clear hr
  go_enter Try.func7, Try.ntmps7
  go_wp2_with fail
  refine (anchor_any w).mono ?_
  rintro e w1 ⟨rfl, hb1⟩
  have HB := hide hb1
  have HR1 := hide ((unhide HR).below hb1)
  clear hb1
  go_wp2_with fail
  refine (getSigned_any bs A cap _ p w1 hn (unhide HR1)).mono ?_
  rintro e w2 ⟨rfl, rfl⟩
  have hlt := getP_lt bs p
  have C := hide (ref_any bs A cap _ p w2 hn (unhide HR1))
  have D := hide (fun W => refZag_any (getP bs p).1 (by omega) W)
  clear hlt
  generalize getP bs p = g at *
  go_wp2_with fail
  refine (unhide C).mono ?_
  rintro e w3 ⟨rfl, rfl⟩
  clear C
  go_wp2_with fail
  refine (unhide D w3).mono ?_
  rintro e w4 ⟨rfl, rfl⟩
  clear D
  go_wp2
  go_ret
  exact ⟨rfl, unhide HB⟩
end Go.Proofs.Ytldahjgafkhobaa.Vi
