/-
  The reference's symbol at a place (clewref01.At), walked: it is 'at_' of the bytes; nothing in memory turns. No conditions but that the place is there.
-/
import Derived.Test.YtbnjhopodhjdhaaDoorSymAt
import Derived.LoopN
import Derived.Handy
set_option linter.unusedVariables false
set_option linter.unusedSimpArgs false
namespace Go.Proofs.YtbnjhopodhjdhaaDoor.Ref
open Go.RowKit Go.Proofs.YtbnjhopodhjdhaaDoor.Sy Go.Proofs.YtbnjhopodhjdhaaDoor.Mem


set_option maxHeartbeats 1000000 in
set_option maxRecDepth 100000 in
theorem ref_e3lo (n k b off cap a x1 x2 x3 : Nat) (w : World) (hk : (k : Int) < (n : Int)) (hm : (n : Int) ≤ 9223372036854775807) (la : (a : Int) < 256) (l1 : (x1 : Int) < 256) (l2 : (x2 : Int) < 256) (l3 : (x3 : Int) < 256)
    (h1 : 240 ≤ (a : Int)) (h2 : (a : Int) ≤ 247) (hs : 4 ≤ (n : Int) - k) (o1 : 128 ≤ (x1 : Int)) (p1 : (x1 : Int) ≤ 191) (o2 : 128 ≤ (x2 : Int)) (p2 : (x2 : Int) ≤ 191) (o : (x3 : Int) < 128)
    (hc0 : w.cell? ⟨b, off + k, none⟩ = some (.int .u8 (a : Int))) (hc1 : w.cell? ⟨b, off + (k + 1), none⟩ = some (.int .u8 (x1 : Int))) (hc2 : w.cell? ⟨b, off + (k + 2), none⟩ = some (.int .u8 (x2 : Int))) (hc3 : w.cell? ⟨b, off + (k + 3), none⟩ = some (.int .u8 (x3 : Int))) :
    Calls Tryd.prog 12 #[.slice (some ⟨b, off, none⟩) n cap, .int .i64 (k : Int)] w fun e w' => e = .returned (.tuple #[.int .i64 (1114112 + (a : Int)), .int .i64 1]) ∧ w' = w := by
  go_enter Tryd.func12, Tryd.ntmps12
  go_wp2
  go_rounds 4
  go_ret2
  exact ⟨rfl, rfl⟩

set_option maxHeartbeats 1000000 in
set_option maxRecDepth 100000 in
theorem ref_e3hi (n k b off cap a x1 x2 x3 : Nat) (w : World) (hk : (k : Int) < (n : Int)) (hm : (n : Int) ≤ 9223372036854775807) (la : (a : Int) < 256) (l1 : (x1 : Int) < 256) (l2 : (x2 : Int) < 256) (l3 : (x3 : Int) < 256)
    (h1 : 240 ≤ (a : Int)) (h2 : (a : Int) ≤ 247) (hs : 4 ≤ (n : Int) - k) (o1 : 128 ≤ (x1 : Int)) (p1 : (x1 : Int) ≤ 191) (o2 : 128 ≤ (x2 : Int)) (p2 : (x2 : Int) ≤ 191) (o : 191 < (x3 : Int))
    (hc0 : w.cell? ⟨b, off + k, none⟩ = some (.int .u8 (a : Int))) (hc1 : w.cell? ⟨b, off + (k + 1), none⟩ = some (.int .u8 (x1 : Int))) (hc2 : w.cell? ⟨b, off + (k + 2), none⟩ = some (.int .u8 (x2 : Int))) (hc3 : w.cell? ⟨b, off + (k + 3), none⟩ = some (.int .u8 (x3 : Int))) :
    Calls Tryd.prog 12 #[.slice (some ⟨b, off, none⟩) n cap, .int .i64 (k : Int)] w fun e w' => e = .returned (.tuple #[.int .i64 (1114112 + (a : Int)), .int .i64 1]) ∧ w' = w := by
  go_enter Tryd.func12, Tryd.ntmps12
  go_wp2
  go_rounds 4
  go_ret2
  exact ⟨rfl, rfl⟩

set_option maxHeartbeats 1000000 in
set_option maxRecDepth 100000 in
theorem ref_ev (n k b off cap a x1 x2 x3 : Nat) (w : World) (hk : (k : Int) < (n : Int)) (hm : (n : Int) ≤ 9223372036854775807) (la : (a : Int) < 256) (l1 : (x1 : Int) < 256) (l2 : (x2 : Int) < 256) (l3 : (x3 : Int) < 256)
    (h1 : 240 ≤ (a : Int)) (h2 : (a : Int) ≤ 247) (hs : 4 ≤ (n : Int) - k) (o1 : 128 ≤ (x1 : Int)) (p1 : (x1 : Int) ≤ 191) (o2 : 128 ≤ (x2 : Int)) (p2 : (x2 : Int) ≤ 191) (o3 : 128 ≤ (x3 : Int)) (p3 : (x3 : Int) ≤ 191) (hv : ((((a : Int) - 240) * 64 + x1 - 128) * 64 + x2 - 128) * 64 + x3 - 128 < 65536)
    (hc0 : w.cell? ⟨b, off + k, none⟩ = some (.int .u8 (a : Int))) (hc1 : w.cell? ⟨b, off + (k + 1), none⟩ = some (.int .u8 (x1 : Int))) (hc2 : w.cell? ⟨b, off + (k + 2), none⟩ = some (.int .u8 (x2 : Int))) (hc3 : w.cell? ⟨b, off + (k + 3), none⟩ = some (.int .u8 (x3 : Int))) :
    Calls Tryd.prog 12 #[.slice (some ⟨b, off, none⟩) n cap, .int .i64 (k : Int)] w fun e w' => e = .returned (.tuple #[.int .i64 (1114112 + (a : Int)), .int .i64 1]) ∧ w' = w := by
  go_enter Tryd.func12, Tryd.ntmps12
  go_wp2
  go_rounds 4
  go_ret2
  exact ⟨rfl, rfl⟩

set_option maxHeartbeats 1000000 in
set_option maxRecDepth 100000 in
theorem ref_ebig (n k b off cap a x1 x2 x3 : Nat) (w : World) (hk : (k : Int) < (n : Int)) (hm : (n : Int) ≤ 9223372036854775807) (la : (a : Int) < 256) (l1 : (x1 : Int) < 256) (l2 : (x2 : Int) < 256) (l3 : (x3 : Int) < 256)
    (h1 : 240 ≤ (a : Int)) (h2 : (a : Int) ≤ 247) (hs : 4 ≤ (n : Int) - k) (o1 : 128 ≤ (x1 : Int)) (p1 : (x1 : Int) ≤ 191) (o2 : 128 ≤ (x2 : Int)) (p2 : (x2 : Int) ≤ 191) (o3 : 128 ≤ (x3 : Int)) (p3 : (x3 : Int) ≤ 191) (hv : 1114111 < ((((a : Int) - 240) * 64 + x1 - 128) * 64 + x2 - 128) * 64 + x3 - 128)
    (hc0 : w.cell? ⟨b, off + k, none⟩ = some (.int .u8 (a : Int))) (hc1 : w.cell? ⟨b, off + (k + 1), none⟩ = some (.int .u8 (x1 : Int))) (hc2 : w.cell? ⟨b, off + (k + 2), none⟩ = some (.int .u8 (x2 : Int))) (hc3 : w.cell? ⟨b, off + (k + 3), none⟩ = some (.int .u8 (x3 : Int))) :
    Calls Tryd.prog 12 #[.slice (some ⟨b, off, none⟩) n cap, .int .i64 (k : Int)] w fun e w' => e = .returned (.tuple #[.int .i64 (1114112 + (a : Int)), .int .i64 1]) ∧ w' = w := by
  go_enter Tryd.func12, Tryd.ntmps12
  go_wp2
  go_rounds 4
  go_ret2
  exact ⟨rfl, rfl⟩

set_option maxHeartbeats 1000000 in
set_option maxRecDepth 100000 in
theorem ref_eok (n k b off cap a x1 x2 x3 : Nat) (w : World) (hk : (k : Int) < (n : Int)) (hm : (n : Int) ≤ 9223372036854775807) (la : (a : Int) < 256) (l1 : (x1 : Int) < 256) (l2 : (x2 : Int) < 256) (l3 : (x3 : Int) < 256)
    (h1 : 240 ≤ (a : Int)) (h2 : (a : Int) ≤ 247) (hs : 4 ≤ (n : Int) - k) (o1 : 128 ≤ (x1 : Int)) (p1 : (x1 : Int) ≤ 191) (o2 : 128 ≤ (x2 : Int)) (p2 : (x2 : Int) ≤ 191) (o3 : 128 ≤ (x3 : Int)) (p3 : (x3 : Int) ≤ 191) (hv : 65536 ≤ ((((a : Int) - 240) * 64 + x1 - 128) * 64 + x2 - 128) * 64 + x3 - 128) (hw : ((((a : Int) - 240) * 64 + x1 - 128) * 64 + x2 - 128) * 64 + x3 - 128 ≤ 1114111)
    (hc0 : w.cell? ⟨b, off + k, none⟩ = some (.int .u8 (a : Int))) (hc1 : w.cell? ⟨b, off + (k + 1), none⟩ = some (.int .u8 (x1 : Int))) (hc2 : w.cell? ⟨b, off + (k + 2), none⟩ = some (.int .u8 (x2 : Int))) (hc3 : w.cell? ⟨b, off + (k + 3), none⟩ = some (.int .u8 (x3 : Int))) :
    Calls Tryd.prog 12 #[.slice (some ⟨b, off, none⟩) n cap, .int .i64 (k : Int)] w fun e w' => e = .returned (.tuple #[.int .i64 (((((a : Int) - 240) * 64 + x1 - 128) * 64 + x2 - 128) * 64 + x3 - 128), .int .i64 4]) ∧ w' = w := by
  go_enter Tryd.func12, Tryd.ntmps12
  go_wp2
  go_rounds 4
  go_ret2
  exact ⟨rfl, rfl⟩
end Go.Proofs.YtbnjhopodhjdhaaDoor.Ref
