/-
  The reference's symbol at a place (clewref01.At), walked: it is 'at_' of the bytes; nothing in memory turns. No conditions but that the place is there.
-/
import Derived.Test.YtbnjhopodhjdhaaDoorSymAt
import Derived.LoopN
import Derived.Handy
set_option linter.unusedVariables false
set_option linter.unusedSimpArgs false
namespace Go.Proofs.YtbnjhopodhjdhaaDoor.Ref
open Go.RowKit Go.Proofs.YtbnjhopodhjdhaaDoor.Sy Go.Proofs.YtbnjhopodhjdhaaDoor.Mem


set_option maxHeartbeats 1000000 in
set_option maxRecDepth 100000 in
theorem ref_a1 (n k b off cap a x1 x2 x3 : Nat) (w : World) (hk : (k : Int) < (n : Int)) (hm : (n : Int) ≤ 9223372036854775807) (la : (a : Int) < 256) (l1 : (x1 : Int) < 256) (l2 : (x2 : Int) < 256) (l3 : (x3 : Int) < 256)
    (h1 : (a : Int) < 128)
    (hc0 : w.cell? ⟨b, off + k, none⟩ = some (.int .u8 (a : Int)))  :
    Calls Tryd.prog 12 #[.slice (some ⟨b, off, none⟩) n cap, .int .i64 (k : Int)] w fun e w' => e = .returned (.tuple #[.int .i64 (a : Int), .int .i64 1]) ∧ w' = w := by
  go_enter Tryd.func12, Tryd.ntmps12
  go_wp2
  go_ret2
  exact ⟨rfl, rfl⟩

set_option maxHeartbeats 1000000 in
set_option maxRecDepth 100000 in
theorem ref_b1 (n k b off cap a x1 x2 x3 : Nat) (w : World) (hk : (k : Int) < (n : Int)) (hm : (n : Int) ≤ 9223372036854775807) (la : (a : Int) < 256) (l1 : (x1 : Int) < 256) (l2 : (x2 : Int) < 256) (l3 : (x3 : Int) < 256)
    (h1 : 128 ≤ (a : Int)) (h2 : (a : Int) < 192)
    (hc0 : w.cell? ⟨b, off + k, none⟩ = some (.int .u8 (a : Int)))  :
    Calls Tryd.prog 12 #[.slice (some ⟨b, off, none⟩) n cap, .int .i64 (k : Int)] w fun e w' => e = .returned (.tuple #[.int .i64 (1114112 + (a : Int)), .int .i64 1]) ∧ w' = w := by
  go_enter Tryd.func12, Tryd.ntmps12
  go_wp2
  go_ret2
  exact ⟨rfl, rfl⟩

set_option maxHeartbeats 1000000 in
set_option maxRecDepth 100000 in
theorem ref_b2 (n k b off cap a x1 x2 x3 : Nat) (w : World) (hk : (k : Int) < (n : Int)) (hm : (n : Int) ≤ 9223372036854775807) (la : (a : Int) < 256) (l1 : (x1 : Int) < 256) (l2 : (x2 : Int) < 256) (l3 : (x3 : Int) < 256)
    (h1 : 248 ≤ (a : Int))
    (hc0 : w.cell? ⟨b, off + k, none⟩ = some (.int .u8 (a : Int)))  :
    Calls Tryd.prog 12 #[.slice (some ⟨b, off, none⟩) n cap, .int .i64 (k : Int)] w fun e w' => e = .returned (.tuple #[.int .i64 (1114112 + (a : Int)), .int .i64 1]) ∧ w' = w := by
  go_enter Tryd.func12, Tryd.ntmps12
  go_wp2
  go_ret2
  exact ⟨rfl, rfl⟩

set_option maxHeartbeats 1000000 in
set_option maxRecDepth 100000 in
theorem ref_cs (n k b off cap a x1 x2 x3 : Nat) (w : World) (hk : (k : Int) < (n : Int)) (hm : (n : Int) ≤ 9223372036854775807) (la : (a : Int) < 256) (l1 : (x1 : Int) < 256) (l2 : (x2 : Int) < 256) (l3 : (x3 : Int) < 256)
    (h1 : 192 ≤ (a : Int)) (h2 : (a : Int) ≤ 223) (hs : (n : Int) - k < 2)
    (hc0 : w.cell? ⟨b, off + k, none⟩ = some (.int .u8 (a : Int)))  :
    Calls Tryd.prog 12 #[.slice (some ⟨b, off, none⟩) n cap, .int .i64 (k : Int)] w fun e w' => e = .returned (.tuple #[.int .i64 (1114112 + (a : Int)), .int .i64 1]) ∧ w' = w := by
  go_enter Tryd.func12, Tryd.ntmps12
  go_wp2
  go_ret2
  exact ⟨rfl, rfl⟩

set_option maxHeartbeats 1000000 in
set_option maxRecDepth 100000 in
theorem ref_c1lo (n k b off cap a x1 x2 x3 : Nat) (w : World) (hk : (k : Int) < (n : Int)) (hm : (n : Int) ≤ 9223372036854775807) (la : (a : Int) < 256) (l1 : (x1 : Int) < 256) (l2 : (x2 : Int) < 256) (l3 : (x3 : Int) < 256)
    (h1 : 192 ≤ (a : Int)) (h2 : (a : Int) ≤ 223) (hs : 2 ≤ (n : Int) - k)  (o : (x1 : Int) < 128)
    (hc0 : w.cell? ⟨b, off + k, none⟩ = some (.int .u8 (a : Int))) (hc1 : w.cell? ⟨b, off + (k + 1), none⟩ = some (.int .u8 (x1 : Int))) :
    Calls Tryd.prog 12 #[.slice (some ⟨b, off, none⟩) n cap, .int .i64 (k : Int)] w fun e w' => e = .returned (.tuple #[.int .i64 (1114112 + (a : Int)), .int .i64 1]) ∧ w' = w := by
  go_enter Tryd.func12, Tryd.ntmps12
  go_wp2
  go_rounds 2
  go_ret2
  exact ⟨rfl, rfl⟩

set_option maxHeartbeats 1000000 in
set_option maxRecDepth 100000 in
theorem ref_c1hi (n k b off cap a x1 x2 x3 : Nat) (w : World) (hk : (k : Int) < (n : Int)) (hm : (n : Int) ≤ 9223372036854775807) (la : (a : Int) < 256) (l1 : (x1 : Int) < 256) (l2 : (x2 : Int) < 256) (l3 : (x3 : Int) < 256)
    (h1 : 192 ≤ (a : Int)) (h2 : (a : Int) ≤ 223) (hs : 2 ≤ (n : Int) - k)  (o : 191 < (x1 : Int))
    (hc0 : w.cell? ⟨b, off + k, none⟩ = some (.int .u8 (a : Int))) (hc1 : w.cell? ⟨b, off + (k + 1), none⟩ = some (.int .u8 (x1 : Int))) :
    Calls Tryd.prog 12 #[.slice (some ⟨b, off, none⟩) n cap, .int .i64 (k : Int)] w fun e w' => e = .returned (.tuple #[.int .i64 (1114112 + (a : Int)), .int .i64 1]) ∧ w' = w := by
  go_enter Tryd.func12, Tryd.ntmps12
  go_wp2
  go_rounds 2
  go_ret2
  exact ⟨rfl, rfl⟩

set_option maxHeartbeats 1000000 in
set_option maxRecDepth 100000 in
theorem ref_cv (n k b off cap a x1 x2 x3 : Nat) (w : World) (hk : (k : Int) < (n : Int)) (hm : (n : Int) ≤ 9223372036854775807) (la : (a : Int) < 256) (l1 : (x1 : Int) < 256) (l2 : (x2 : Int) < 256) (l3 : (x3 : Int) < 256)
    (h1 : 192 ≤ (a : Int)) (h2 : (a : Int) ≤ 223) (hs : 2 ≤ (n : Int) - k) (o1 : 128 ≤ (x1 : Int)) (p1 : (x1 : Int) ≤ 191) (hv : ((a : Int) - 192) * 64 + x1 - 128 < 128)
    (hc0 : w.cell? ⟨b, off + k, none⟩ = some (.int .u8 (a : Int))) (hc1 : w.cell? ⟨b, off + (k + 1), none⟩ = some (.int .u8 (x1 : Int))) :
    Calls Tryd.prog 12 #[.slice (some ⟨b, off, none⟩) n cap, .int .i64 (k : Int)] w fun e w' => e = .returned (.tuple #[.int .i64 (1114112 + (a : Int)), .int .i64 1]) ∧ w' = w := by
  go_enter Tryd.func12, Tryd.ntmps12
  go_wp2
  go_rounds 2
  go_ret2
  exact ⟨rfl, rfl⟩

set_option maxHeartbeats 1000000 in
set_option maxRecDepth 100000 in
theorem ref_cok (n k b off cap a x1 x2 x3 : Nat) (w : World) (hk : (k : Int) < (n : Int)) (hm : (n : Int) ≤ 9223372036854775807) (la : (a : Int) < 256) (l1 : (x1 : Int) < 256) (l2 : (x2 : Int) < 256) (l3 : (x3 : Int) < 256)
    (h1 : 192 ≤ (a : Int)) (h2 : (a : Int) ≤ 223) (hs : 2 ≤ (n : Int) - k) (o1 : 128 ≤ (x1 : Int)) (p1 : (x1 : Int) ≤ 191) (hv : 128 ≤ ((a : Int) - 192) * 64 + x1 - 128)
    (hc0 : w.cell? ⟨b, off + k, none⟩ = some (.int .u8 (a : Int))) (hc1 : w.cell? ⟨b, off + (k + 1), none⟩ = some (.int .u8 (x1 : Int))) :
    Calls Tryd.prog 12 #[.slice (some ⟨b, off, none⟩) n cap, .int .i64 (k : Int)] w fun e w' => e = .returned (.tuple #[.int .i64 (((a : Int) - 192) * 64 + x1 - 128), .int .i64 2]) ∧ w' = w := by
  go_enter Tryd.func12, Tryd.ntmps12
  go_wp2
  go_rounds 2
  go_ret2
  exact ⟨rfl, rfl⟩
end Go.Proofs.YtbnjhopodhjdhaaDoor.Ref
