/-
  The reference's symbol at a place (clewref01.At), whole: it is 'at_' of the bytes; nothing in memory turns.
-/
import Derived.Test.YtdeaaidbmneplaaDoorMSymAt
import Derived.LoopN
import Derived.Handy
set_option linter.unusedSimpArgs false
set_option linter.unusedVariables false
namespace Go.Proofs.YtdeaaidbmneplaaDoor.Ref
section
open Go.RowKit Go.Proofs.YtdeaaidbmneplaaDoor.Sy Go.Proofs.YtdeaaidbmneplaaDoor.Mem
set_option maxHeartbeats 1000000 in
set_option maxRecDepth 100000 in
theorem ref_a1 (n k b off cap a x1 x2 x3 : Nat) (w : World) (hk : (k : Int) < (n : Int)) (hm : (n : Int) ≤ 9223372036854775807) (la : (a : Int) < 256) (l1 : (x1 : Int) < 256) (l2 : (x2 : Int) < 256) (l3 : (x3 : Int) < 256)
    (h1 : (a : Int) < 128)
    (hc0 : w.cell? ⟨b, off + k, none⟩ = some (.int .u8 (a : Int)))  :
    Calls Tryd.prog 23 #[.slice (some ⟨b, off, none⟩) n cap, .int .i64 (k : Int)] w fun e w' => e = .returned (.tuple #[.int .i64 (a : Int), .int .i64 1]) ∧ w' = w := by
  go_enter Tryd.func23, Tryd.ntmps23
  go_wp2
  go_ret2
  exact ⟨rfl, rfl⟩
set_option maxHeartbeats 1000000 in
set_option maxRecDepth 100000 in
theorem ref_b1 (n k b off cap a x1 x2 x3 : Nat) (w : World) (hk : (k : Int) < (n : Int)) (hm : (n : Int) ≤ 9223372036854775807) (la : (a : Int) < 256) (l1 : (x1 : Int) < 256) (l2 : (x2 : Int) < 256) (l3 : (x3 : Int) < 256)
    (h1 : 128 ≤ (a : Int)) (h2 : (a : Int) < 192)
    (hc0 : w.cell? ⟨b, off + k, none⟩ = some (.int .u8 (a : Int)))  :
    Calls Tryd.prog 23 #[.slice (some ⟨b, off, none⟩) n cap, .int .i64 (k : Int)] w fun e w' => e = .returned (.tuple #[.int .i64 (1114112 + (a : Int)), .int .i64 1]) ∧ w' = w := by
  go_enter Tryd.func23, Tryd.ntmps23
  go_wp2
  go_ret2
  exact ⟨rfl, rfl⟩
set_option maxHeartbeats 1000000 in
set_option maxRecDepth 100000 in
theorem ref_b2 (n k b off cap a x1 x2 x3 : Nat) (w : World) (hk : (k : Int) < (n : Int)) (hm : (n : Int) ≤ 9223372036854775807) (la : (a : Int) < 256) (l1 : (x1 : Int) < 256) (l2 : (x2 : Int) < 256) (l3 : (x3 : Int) < 256)
    (h1 : 248 ≤ (a : Int))
    (hc0 : w.cell? ⟨b, off + k, none⟩ = some (.int .u8 (a : Int)))  :
    Calls Tryd.prog 23 #[.slice (some ⟨b, off, none⟩) n cap, .int .i64 (k : Int)] w fun e w' => e = .returned (.tuple #[.int .i64 (1114112 + (a : Int)), .int .i64 1]) ∧ w' = w := by
  go_enter Tryd.func23, Tryd.ntmps23
  go_wp2
  go_ret2
  exact ⟨rfl, rfl⟩
set_option maxHeartbeats 1000000 in
set_option maxRecDepth 100000 in
theorem ref_cs (n k b off cap a x1 x2 x3 : Nat) (w : World) (hk : (k : Int) < (n : Int)) (hm : (n : Int) ≤ 9223372036854775807) (la : (a : Int) < 256) (l1 : (x1 : Int) < 256) (l2 : (x2 : Int) < 256) (l3 : (x3 : Int) < 256)
    (h1 : 192 ≤ (a : Int)) (h2 : (a : Int) ≤ 223) (hs : (n : Int) - k < 2)
    (hc0 : w.cell? ⟨b, off + k, none⟩ = some (.int .u8 (a : Int)))  :
    Calls Tryd.prog 23 #[.slice (some ⟨b, off, none⟩) n cap, .int .i64 (k : Int)] w fun e w' => e = .returned (.tuple #[.int .i64 (1114112 + (a : Int)), .int .i64 1]) ∧ w' = w := by
  go_enter Tryd.func23, Tryd.ntmps23
  go_wp2
  go_ret2
  exact ⟨rfl, rfl⟩
set_option maxHeartbeats 1000000 in
set_option maxRecDepth 100000 in
theorem ref_c1lo (n k b off cap a x1 x2 x3 : Nat) (w : World) (hk : (k : Int) < (n : Int)) (hm : (n : Int) ≤ 9223372036854775807) (la : (a : Int) < 256) (l1 : (x1 : Int) < 256) (l2 : (x2 : Int) < 256) (l3 : (x3 : Int) < 256)
    (h1 : 192 ≤ (a : Int)) (h2 : (a : Int) ≤ 223) (hs : 2 ≤ (n : Int) - k)  (o : (x1 : Int) < 128)
    (hc0 : w.cell? ⟨b, off + k, none⟩ = some (.int .u8 (a : Int))) (hc1 : w.cell? ⟨b, off + (k + 1), none⟩ = some (.int .u8 (x1 : Int))) :
    Calls Tryd.prog 23 #[.slice (some ⟨b, off, none⟩) n cap, .int .i64 (k : Int)] w fun e w' => e = .returned (.tuple #[.int .i64 (1114112 + (a : Int)), .int .i64 1]) ∧ w' = w := by
  go_enter Tryd.func23, Tryd.ntmps23
  go_wp2
  go_rounds 2
  go_ret2
  exact ⟨rfl, rfl⟩
set_option maxHeartbeats 1000000 in
set_option maxRecDepth 100000 in
theorem ref_c1hi (n k b off cap a x1 x2 x3 : Nat) (w : World) (hk : (k : Int) < (n : Int)) (hm : (n : Int) ≤ 9223372036854775807) (la : (a : Int) < 256) (l1 : (x1 : Int) < 256) (l2 : (x2 : Int) < 256) (l3 : (x3 : Int) < 256)
    (h1 : 192 ≤ (a : Int)) (h2 : (a : Int) ≤ 223) (hs : 2 ≤ (n : Int) - k)  (o : 191 < (x1 : Int))
    (hc0 : w.cell? ⟨b, off + k, none⟩ = some (.int .u8 (a : Int))) (hc1 : w.cell? ⟨b, off + (k + 1), none⟩ = some (.int .u8 (x1 : Int))) :
    Calls Tryd.prog 23 #[.slice (some ⟨b, off, none⟩) n cap, .int .i64 (k : Int)] w fun e w' => e = .returned (.tuple #[.int .i64 (1114112 + (a : Int)), .int .i64 1]) ∧ w' = w := by
  go_enter Tryd.func23, Tryd.ntmps23
  go_wp2
  go_rounds 2
  go_ret2
  exact ⟨rfl, rfl⟩
set_option maxHeartbeats 1000000 in
set_option maxRecDepth 100000 in
theorem ref_cv (n k b off cap a x1 x2 x3 : Nat) (w : World) (hk : (k : Int) < (n : Int)) (hm : (n : Int) ≤ 9223372036854775807) (la : (a : Int) < 256) (l1 : (x1 : Int) < 256) (l2 : (x2 : Int) < 256) (l3 : (x3 : Int) < 256)
    (h1 : 192 ≤ (a : Int)) (h2 : (a : Int) ≤ 223) (hs : 2 ≤ (n : Int) - k) (o1 : 128 ≤ (x1 : Int)) (p1 : (x1 : Int) ≤ 191) (hv : ((a : Int) - 192) * 64 + x1 - 128 < 128)
    (hc0 : w.cell? ⟨b, off + k, none⟩ = some (.int .u8 (a : Int))) (hc1 : w.cell? ⟨b, off + (k + 1), none⟩ = some (.int .u8 (x1 : Int))) :
    Calls Tryd.prog 23 #[.slice (some ⟨b, off, none⟩) n cap, .int .i64 (k : Int)] w fun e w' => e = .returned (.tuple #[.int .i64 (1114112 + (a : Int)), .int .i64 1]) ∧ w' = w := by
  go_enter Tryd.func23, Tryd.ntmps23
  go_wp2
  go_rounds 2
  go_ret2
  exact ⟨rfl, rfl⟩
set_option maxHeartbeats 1000000 in
set_option maxRecDepth 100000 in
theorem ref_cok (n k b off cap a x1 x2 x3 : Nat) (w : World) (hk : (k : Int) < (n : Int)) (hm : (n : Int) ≤ 9223372036854775807) (la : (a : Int) < 256) (l1 : (x1 : Int) < 256) (l2 : (x2 : Int) < 256) (l3 : (x3 : Int) < 256)
    (h1 : 192 ≤ (a : Int)) (h2 : (a : Int) ≤ 223) (hs : 2 ≤ (n : Int) - k) (o1 : 128 ≤ (x1 : Int)) (p1 : (x1 : Int) ≤ 191) (hv : 128 ≤ ((a : Int) - 192) * 64 + x1 - 128)
    (hc0 : w.cell? ⟨b, off + k, none⟩ = some (.int .u8 (a : Int))) (hc1 : w.cell? ⟨b, off + (k + 1), none⟩ = some (.int .u8 (x1 : Int))) :
    Calls Tryd.prog 23 #[.slice (some ⟨b, off, none⟩) n cap, .int .i64 (k : Int)] w fun e w' => e = .returned (.tuple #[.int .i64 (((a : Int) - 192) * 64 + x1 - 128), .int .i64 2]) ∧ w' = w := by
  go_enter Tryd.func23, Tryd.ntmps23
  go_wp2
  go_rounds 2
  go_ret2
  exact ⟨rfl, rfl⟩
end
section
open Go.RowKit Go.Proofs.YtdeaaidbmneplaaDoor.Sy Go.Proofs.YtdeaaidbmneplaaDoor.Mem
set_option maxHeartbeats 1000000 in
set_option maxRecDepth 100000 in
theorem ref_ds (n k b off cap a x1 x2 x3 : Nat) (w : World) (hk : (k : Int) < (n : Int)) (hm : (n : Int) ≤ 9223372036854775807) (la : (a : Int) < 256) (l1 : (x1 : Int) < 256) (l2 : (x2 : Int) < 256) (l3 : (x3 : Int) < 256)
    (h1 : 224 ≤ (a : Int)) (h2 : (a : Int) ≤ 239) (hs : (n : Int) - k < 3)
    (hc0 : w.cell? ⟨b, off + k, none⟩ = some (.int .u8 (a : Int)))  :
    Calls Tryd.prog 23 #[.slice (some ⟨b, off, none⟩) n cap, .int .i64 (k : Int)] w fun e w' => e = .returned (.tuple #[.int .i64 (1114112 + (a : Int)), .int .i64 1]) ∧ w' = w := by
  go_enter Tryd.func23, Tryd.ntmps23
  go_wp2
  go_ret2
  exact ⟨rfl, rfl⟩
set_option maxHeartbeats 1000000 in
set_option maxRecDepth 100000 in
theorem ref_d1lo (n k b off cap a x1 x2 x3 : Nat) (w : World) (hk : (k : Int) < (n : Int)) (hm : (n : Int) ≤ 9223372036854775807) (la : (a : Int) < 256) (l1 : (x1 : Int) < 256) (l2 : (x2 : Int) < 256) (l3 : (x3 : Int) < 256)
    (h1 : 224 ≤ (a : Int)) (h2 : (a : Int) ≤ 239) (hs : 3 ≤ (n : Int) - k)  (o : (x1 : Int) < 128)
    (hc0 : w.cell? ⟨b, off + k, none⟩ = some (.int .u8 (a : Int))) (hc1 : w.cell? ⟨b, off + (k + 1), none⟩ = some (.int .u8 (x1 : Int))) :
    Calls Tryd.prog 23 #[.slice (some ⟨b, off, none⟩) n cap, .int .i64 (k : Int)] w fun e w' => e = .returned (.tuple #[.int .i64 (1114112 + (a : Int)), .int .i64 1]) ∧ w' = w := by
  go_enter Tryd.func23, Tryd.ntmps23
  go_wp2
  go_rounds 3
  go_ret2
  exact ⟨rfl, rfl⟩
set_option maxHeartbeats 1000000 in
set_option maxRecDepth 100000 in
theorem ref_d1hi (n k b off cap a x1 x2 x3 : Nat) (w : World) (hk : (k : Int) < (n : Int)) (hm : (n : Int) ≤ 9223372036854775807) (la : (a : Int) < 256) (l1 : (x1 : Int) < 256) (l2 : (x2 : Int) < 256) (l3 : (x3 : Int) < 256)
    (h1 : 224 ≤ (a : Int)) (h2 : (a : Int) ≤ 239) (hs : 3 ≤ (n : Int) - k)  (o : 191 < (x1 : Int))
    (hc0 : w.cell? ⟨b, off + k, none⟩ = some (.int .u8 (a : Int))) (hc1 : w.cell? ⟨b, off + (k + 1), none⟩ = some (.int .u8 (x1 : Int))) :
    Calls Tryd.prog 23 #[.slice (some ⟨b, off, none⟩) n cap, .int .i64 (k : Int)] w fun e w' => e = .returned (.tuple #[.int .i64 (1114112 + (a : Int)), .int .i64 1]) ∧ w' = w := by
  go_enter Tryd.func23, Tryd.ntmps23
  go_wp2
  go_rounds 3
  go_ret2
  exact ⟨rfl, rfl⟩
set_option maxHeartbeats 1000000 in
set_option maxRecDepth 100000 in
theorem ref_d2lo (n k b off cap a x1 x2 x3 : Nat) (w : World) (hk : (k : Int) < (n : Int)) (hm : (n : Int) ≤ 9223372036854775807) (la : (a : Int) < 256) (l1 : (x1 : Int) < 256) (l2 : (x2 : Int) < 256) (l3 : (x3 : Int) < 256)
    (h1 : 224 ≤ (a : Int)) (h2 : (a : Int) ≤ 239) (hs : 3 ≤ (n : Int) - k) (o1 : 128 ≤ (x1 : Int)) (p1 : (x1 : Int) ≤ 191) (o : (x2 : Int) < 128)
    (hc0 : w.cell? ⟨b, off + k, none⟩ = some (.int .u8 (a : Int))) (hc1 : w.cell? ⟨b, off + (k + 1), none⟩ = some (.int .u8 (x1 : Int))) (hc2 : w.cell? ⟨b, off + (k + 2), none⟩ = some (.int .u8 (x2 : Int))) :
    Calls Tryd.prog 23 #[.slice (some ⟨b, off, none⟩) n cap, .int .i64 (k : Int)] w fun e w' => e = .returned (.tuple #[.int .i64 (1114112 + (a : Int)), .int .i64 1]) ∧ w' = w := by
  go_enter Tryd.func23, Tryd.ntmps23
  go_wp2
  go_rounds 3
  go_ret2
  exact ⟨rfl, rfl⟩
set_option maxHeartbeats 1000000 in
set_option maxRecDepth 100000 in
theorem ref_d2hi (n k b off cap a x1 x2 x3 : Nat) (w : World) (hk : (k : Int) < (n : Int)) (hm : (n : Int) ≤ 9223372036854775807) (la : (a : Int) < 256) (l1 : (x1 : Int) < 256) (l2 : (x2 : Int) < 256) (l3 : (x3 : Int) < 256)
    (h1 : 224 ≤ (a : Int)) (h2 : (a : Int) ≤ 239) (hs : 3 ≤ (n : Int) - k) (o1 : 128 ≤ (x1 : Int)) (p1 : (x1 : Int) ≤ 191) (o : 191 < (x2 : Int))
    (hc0 : w.cell? ⟨b, off + k, none⟩ = some (.int .u8 (a : Int))) (hc1 : w.cell? ⟨b, off + (k + 1), none⟩ = some (.int .u8 (x1 : Int))) (hc2 : w.cell? ⟨b, off + (k + 2), none⟩ = some (.int .u8 (x2 : Int))) :
    Calls Tryd.prog 23 #[.slice (some ⟨b, off, none⟩) n cap, .int .i64 (k : Int)] w fun e w' => e = .returned (.tuple #[.int .i64 (1114112 + (a : Int)), .int .i64 1]) ∧ w' = w := by
  go_enter Tryd.func23, Tryd.ntmps23
  go_wp2
  go_rounds 3
  go_ret2
  exact ⟨rfl, rfl⟩
set_option maxHeartbeats 1000000 in
set_option maxRecDepth 100000 in
theorem ref_dv (n k b off cap a x1 x2 x3 : Nat) (w : World) (hk : (k : Int) < (n : Int)) (hm : (n : Int) ≤ 9223372036854775807) (la : (a : Int) < 256) (l1 : (x1 : Int) < 256) (l2 : (x2 : Int) < 256) (l3 : (x3 : Int) < 256)
    (h1 : 224 ≤ (a : Int)) (h2 : (a : Int) ≤ 239) (hs : 3 ≤ (n : Int) - k) (o1 : 128 ≤ (x1 : Int)) (p1 : (x1 : Int) ≤ 191) (o2 : 128 ≤ (x2 : Int)) (p2 : (x2 : Int) ≤ 191) (hv : (((a : Int) - 224) * 64 + x1 - 128) * 64 + x2 - 128 < 2048)
    (hc0 : w.cell? ⟨b, off + k, none⟩ = some (.int .u8 (a : Int))) (hc1 : w.cell? ⟨b, off + (k + 1), none⟩ = some (.int .u8 (x1 : Int))) (hc2 : w.cell? ⟨b, off + (k + 2), none⟩ = some (.int .u8 (x2 : Int))) :
    Calls Tryd.prog 23 #[.slice (some ⟨b, off, none⟩) n cap, .int .i64 (k : Int)] w fun e w' => e = .returned (.tuple #[.int .i64 (1114112 + (a : Int)), .int .i64 1]) ∧ w' = w := by
  go_enter Tryd.func23, Tryd.ntmps23
  go_wp2
  go_rounds 3
  go_ret2
  exact ⟨rfl, rfl⟩
set_option maxHeartbeats 1000000 in
set_option maxRecDepth 100000 in
theorem ref_dsur (n k b off cap a x1 x2 x3 : Nat) (w : World) (hk : (k : Int) < (n : Int)) (hm : (n : Int) ≤ 9223372036854775807) (la : (a : Int) < 256) (l1 : (x1 : Int) < 256) (l2 : (x2 : Int) < 256) (l3 : (x3 : Int) < 256)
    (h1 : 224 ≤ (a : Int)) (h2 : (a : Int) ≤ 239) (hs : 3 ≤ (n : Int) - k) (o1 : 128 ≤ (x1 : Int)) (p1 : (x1 : Int) ≤ 191) (o2 : 128 ≤ (x2 : Int)) (p2 : (x2 : Int) ≤ 191) (hv : 55296 ≤ (((a : Int) - 224) * 64 + x1 - 128) * 64 + x2 - 128) (hw : (((a : Int) - 224) * 64 + x1 - 128) * 64 + x2 - 128 ≤ 57343)
    (hc0 : w.cell? ⟨b, off + k, none⟩ = some (.int .u8 (a : Int))) (hc1 : w.cell? ⟨b, off + (k + 1), none⟩ = some (.int .u8 (x1 : Int))) (hc2 : w.cell? ⟨b, off + (k + 2), none⟩ = some (.int .u8 (x2 : Int))) :
    Calls Tryd.prog 23 #[.slice (some ⟨b, off, none⟩) n cap, .int .i64 (k : Int)] w fun e w' => e = .returned (.tuple #[.int .i64 (1114112 + (a : Int)), .int .i64 1]) ∧ w' = w := by
  go_enter Tryd.func23, Tryd.ntmps23
  go_wp2
  go_rounds 3
  go_ret2
  exact ⟨rfl, rfl⟩
set_option maxHeartbeats 1000000 in
set_option maxRecDepth 100000 in
theorem ref_dok1 (n k b off cap a x1 x2 x3 : Nat) (w : World) (hk : (k : Int) < (n : Int)) (hm : (n : Int) ≤ 9223372036854775807) (la : (a : Int) < 256) (l1 : (x1 : Int) < 256) (l2 : (x2 : Int) < 256) (l3 : (x3 : Int) < 256)
    (h1 : 224 ≤ (a : Int)) (h2 : (a : Int) ≤ 239) (hs : 3 ≤ (n : Int) - k) (o1 : 128 ≤ (x1 : Int)) (p1 : (x1 : Int) ≤ 191) (o2 : 128 ≤ (x2 : Int)) (p2 : (x2 : Int) ≤ 191) (hv : 2048 ≤ (((a : Int) - 224) * 64 + x1 - 128) * 64 + x2 - 128) (hw : (((a : Int) - 224) * 64 + x1 - 128) * 64 + x2 - 128 < 55296)
    (hc0 : w.cell? ⟨b, off + k, none⟩ = some (.int .u8 (a : Int))) (hc1 : w.cell? ⟨b, off + (k + 1), none⟩ = some (.int .u8 (x1 : Int))) (hc2 : w.cell? ⟨b, off + (k + 2), none⟩ = some (.int .u8 (x2 : Int))) :
    Calls Tryd.prog 23 #[.slice (some ⟨b, off, none⟩) n cap, .int .i64 (k : Int)] w fun e w' => e = .returned (.tuple #[.int .i64 ((((a : Int) - 224) * 64 + x1 - 128) * 64 + x2 - 128), .int .i64 3]) ∧ w' = w := by
  go_enter Tryd.func23, Tryd.ntmps23
  go_wp2
  go_rounds 3
  go_ret2
  exact ⟨rfl, rfl⟩
set_option maxHeartbeats 1000000 in
set_option maxRecDepth 100000 in
theorem ref_dok2 (n k b off cap a x1 x2 x3 : Nat) (w : World) (hk : (k : Int) < (n : Int)) (hm : (n : Int) ≤ 9223372036854775807) (la : (a : Int) < 256) (l1 : (x1 : Int) < 256) (l2 : (x2 : Int) < 256) (l3 : (x3 : Int) < 256)
    (h1 : 224 ≤ (a : Int)) (h2 : (a : Int) ≤ 239) (hs : 3 ≤ (n : Int) - k) (o1 : 128 ≤ (x1 : Int)) (p1 : (x1 : Int) ≤ 191) (o2 : 128 ≤ (x2 : Int)) (p2 : (x2 : Int) ≤ 191) (hv : 57343 < (((a : Int) - 224) * 64 + x1 - 128) * 64 + x2 - 128)
    (hc0 : w.cell? ⟨b, off + k, none⟩ = some (.int .u8 (a : Int))) (hc1 : w.cell? ⟨b, off + (k + 1), none⟩ = some (.int .u8 (x1 : Int))) (hc2 : w.cell? ⟨b, off + (k + 2), none⟩ = some (.int .u8 (x2 : Int))) :
    Calls Tryd.prog 23 #[.slice (some ⟨b, off, none⟩) n cap, .int .i64 (k : Int)] w fun e w' => e = .returned (.tuple #[.int .i64 ((((a : Int) - 224) * 64 + x1 - 128) * 64 + x2 - 128), .int .i64 3]) ∧ w' = w := by
  go_enter Tryd.func23, Tryd.ntmps23
  go_wp2
  go_rounds 3
  go_ret2
  exact ⟨rfl, rfl⟩
end
section
open Go.RowKit Go.Proofs.YtdeaaidbmneplaaDoor.Sy Go.Proofs.YtdeaaidbmneplaaDoor.Mem
set_option maxHeartbeats 1000000 in
set_option maxRecDepth 100000 in
theorem ref_es (n k b off cap a x1 x2 x3 : Nat) (w : World) (hk : (k : Int) < (n : Int)) (hm : (n : Int) ≤ 9223372036854775807) (la : (a : Int) < 256) (l1 : (x1 : Int) < 256) (l2 : (x2 : Int) < 256) (l3 : (x3 : Int) < 256)
    (h1 : 240 ≤ (a : Int)) (h2 : (a : Int) ≤ 247) (hs : (n : Int) - k < 4)
    (hc0 : w.cell? ⟨b, off + k, none⟩ = some (.int .u8 (a : Int)))  :
    Calls Tryd.prog 23 #[.slice (some ⟨b, off, none⟩) n cap, .int .i64 (k : Int)] w fun e w' => e = .returned (.tuple #[.int .i64 (1114112 + (a : Int)), .int .i64 1]) ∧ w' = w := by
  go_enter Tryd.func23, Tryd.ntmps23
  go_wp2
  go_ret2
  exact ⟨rfl, rfl⟩
set_option maxHeartbeats 1000000 in
set_option maxRecDepth 100000 in
theorem ref_e1lo (n k b off cap a x1 x2 x3 : Nat) (w : World) (hk : (k : Int) < (n : Int)) (hm : (n : Int) ≤ 9223372036854775807) (la : (a : Int) < 256) (l1 : (x1 : Int) < 256) (l2 : (x2 : Int) < 256) (l3 : (x3 : Int) < 256)
    (h1 : 240 ≤ (a : Int)) (h2 : (a : Int) ≤ 247) (hs : 4 ≤ (n : Int) - k)  (o : (x1 : Int) < 128)
    (hc0 : w.cell? ⟨b, off + k, none⟩ = some (.int .u8 (a : Int))) (hc1 : w.cell? ⟨b, off + (k + 1), none⟩ = some (.int .u8 (x1 : Int))) :
    Calls Tryd.prog 23 #[.slice (some ⟨b, off, none⟩) n cap, .int .i64 (k : Int)] w fun e w' => e = .returned (.tuple #[.int .i64 (1114112 + (a : Int)), .int .i64 1]) ∧ w' = w := by
  go_enter Tryd.func23, Tryd.ntmps23
  go_wp2
  go_rounds 4
  go_ret2
  exact ⟨rfl, rfl⟩
set_option maxHeartbeats 1000000 in
set_option maxRecDepth 100000 in
theorem ref_e1hi (n k b off cap a x1 x2 x3 : Nat) (w : World) (hk : (k : Int) < (n : Int)) (hm : (n : Int) ≤ 9223372036854775807) (la : (a : Int) < 256) (l1 : (x1 : Int) < 256) (l2 : (x2 : Int) < 256) (l3 : (x3 : Int) < 256)
    (h1 : 240 ≤ (a : Int)) (h2 : (a : Int) ≤ 247) (hs : 4 ≤ (n : Int) - k)  (o : 191 < (x1 : Int))
    (hc0 : w.cell? ⟨b, off + k, none⟩ = some (.int .u8 (a : Int))) (hc1 : w.cell? ⟨b, off + (k + 1), none⟩ = some (.int .u8 (x1 : Int))) :
    Calls Tryd.prog 23 #[.slice (some ⟨b, off, none⟩) n cap, .int .i64 (k : Int)] w fun e w' => e = .returned (.tuple #[.int .i64 (1114112 + (a : Int)), .int .i64 1]) ∧ w' = w := by
  go_enter Tryd.func23, Tryd.ntmps23
  go_wp2
  go_rounds 4
  go_ret2
  exact ⟨rfl, rfl⟩
set_option maxHeartbeats 1000000 in
set_option maxRecDepth 100000 in
theorem ref_e2lo (n k b off cap a x1 x2 x3 : Nat) (w : World) (hk : (k : Int) < (n : Int)) (hm : (n : Int) ≤ 9223372036854775807) (la : (a : Int) < 256) (l1 : (x1 : Int) < 256) (l2 : (x2 : Int) < 256) (l3 : (x3 : Int) < 256)
    (h1 : 240 ≤ (a : Int)) (h2 : (a : Int) ≤ 247) (hs : 4 ≤ (n : Int) - k) (o1 : 128 ≤ (x1 : Int)) (p1 : (x1 : Int) ≤ 191) (o : (x2 : Int) < 128)
    (hc0 : w.cell? ⟨b, off + k, none⟩ = some (.int .u8 (a : Int))) (hc1 : w.cell? ⟨b, off + (k + 1), none⟩ = some (.int .u8 (x1 : Int))) (hc2 : w.cell? ⟨b, off + (k + 2), none⟩ = some (.int .u8 (x2 : Int))) :
    Calls Tryd.prog 23 #[.slice (some ⟨b, off, none⟩) n cap, .int .i64 (k : Int)] w fun e w' => e = .returned (.tuple #[.int .i64 (1114112 + (a : Int)), .int .i64 1]) ∧ w' = w := by
  go_enter Tryd.func23, Tryd.ntmps23
  go_wp2
  go_rounds 4
  go_ret2
  exact ⟨rfl, rfl⟩
set_option maxHeartbeats 1000000 in
set_option maxRecDepth 100000 in
theorem ref_e2hi (n k b off cap a x1 x2 x3 : Nat) (w : World) (hk : (k : Int) < (n : Int)) (hm : (n : Int) ≤ 9223372036854775807) (la : (a : Int) < 256) (l1 : (x1 : Int) < 256) (l2 : (x2 : Int) < 256) (l3 : (x3 : Int) < 256)
    (h1 : 240 ≤ (a : Int)) (h2 : (a : Int) ≤ 247) (hs : 4 ≤ (n : Int) - k) (o1 : 128 ≤ (x1 : Int)) (p1 : (x1 : Int) ≤ 191) (o : 191 < (x2 : Int))
    (hc0 : w.cell? ⟨b, off + k, none⟩ = some (.int .u8 (a : Int))) (hc1 : w.cell? ⟨b, off + (k + 1), none⟩ = some (.int .u8 (x1 : Int))) (hc2 : w.cell? ⟨b, off + (k + 2), none⟩ = some (.int .u8 (x2 : Int))) :
    Calls Tryd.prog 23 #[.slice (some ⟨b, off, none⟩) n cap, .int .i64 (k : Int)] w fun e w' => e = .returned (.tuple #[.int .i64 (1114112 + (a : Int)), .int .i64 1]) ∧ w' = w := by
  go_enter Tryd.func23, Tryd.ntmps23
  go_wp2
  go_rounds 4
  go_ret2
  exact ⟨rfl, rfl⟩
end
section
open Go.RowKit Go.Proofs.YtdeaaidbmneplaaDoor.Sy Go.Proofs.YtdeaaidbmneplaaDoor.Mem
set_option maxHeartbeats 1000000 in
set_option maxRecDepth 100000 in
theorem ref_e3lo (n k b off cap a x1 x2 x3 : Nat) (w : World) (hk : (k : Int) < (n : Int)) (hm : (n : Int) ≤ 9223372036854775807) (la : (a : Int) < 256) (l1 : (x1 : Int) < 256) (l2 : (x2 : Int) < 256) (l3 : (x3 : Int) < 256)
    (h1 : 240 ≤ (a : Int)) (h2 : (a : Int) ≤ 247) (hs : 4 ≤ (n : Int) - k) (o1 : 128 ≤ (x1 : Int)) (p1 : (x1 : Int) ≤ 191) (o2 : 128 ≤ (x2 : Int)) (p2 : (x2 : Int) ≤ 191) (o : (x3 : Int) < 128)
    (hc0 : w.cell? ⟨b, off + k, none⟩ = some (.int .u8 (a : Int))) (hc1 : w.cell? ⟨b, off + (k + 1), none⟩ = some (.int .u8 (x1 : Int))) (hc2 : w.cell? ⟨b, off + (k + 2), none⟩ = some (.int .u8 (x2 : Int))) (hc3 : w.cell? ⟨b, off + (k + 3), none⟩ = some (.int .u8 (x3 : Int))) :
    Calls Tryd.prog 23 #[.slice (some ⟨b, off, none⟩) n cap, .int .i64 (k : Int)] w fun e w' => e = .returned (.tuple #[.int .i64 (1114112 + (a : Int)), .int .i64 1]) ∧ w' = w := by
  go_enter Tryd.func23, Tryd.ntmps23
  go_wp2
  go_rounds 4
  go_ret2
  exact ⟨rfl, rfl⟩
set_option maxHeartbeats 1000000 in
set_option maxRecDepth 100000 in
theorem ref_e3hi (n k b off cap a x1 x2 x3 : Nat) (w : World) (hk : (k : Int) < (n : Int)) (hm : (n : Int) ≤ 9223372036854775807) (la : (a : Int) < 256) (l1 : (x1 : Int) < 256) (l2 : (x2 : Int) < 256) (l3 : (x3 : Int) < 256)
    (h1 : 240 ≤ (a : Int)) (h2 : (a : Int) ≤ 247) (hs : 4 ≤ (n : Int) - k) (o1 : 128 ≤ (x1 : Int)) (p1 : (x1 : Int) ≤ 191) (o2 : 128 ≤ (x2 : Int)) (p2 : (x2 : Int) ≤ 191) (o : 191 < (x3 : Int))
    (hc0 : w.cell? ⟨b, off + k, none⟩ = some (.int .u8 (a : Int))) (hc1 : w.cell? ⟨b, off + (k + 1), none⟩ = some (.int .u8 (x1 : Int))) (hc2 : w.cell? ⟨b, off + (k + 2), none⟩ = some (.int .u8 (x2 : Int))) (hc3 : w.cell? ⟨b, off + (k + 3), none⟩ = some (.int .u8 (x3 : Int))) :
    Calls Tryd.prog 23 #[.slice (some ⟨b, off, none⟩) n cap, .int .i64 (k : Int)] w fun e w' => e = .returned (.tuple #[.int .i64 (1114112 + (a : Int)), .int .i64 1]) ∧ w' = w := by
  go_enter Tryd.func23, Tryd.ntmps23
  go_wp2
  go_rounds 4
  go_ret2
  exact ⟨rfl, rfl⟩
set_option maxHeartbeats 1000000 in
set_option maxRecDepth 100000 in
theorem ref_ev (n k b off cap a x1 x2 x3 : Nat) (w : World) (hk : (k : Int) < (n : Int)) (hm : (n : Int) ≤ 9223372036854775807) (la : (a : Int) < 256) (l1 : (x1 : Int) < 256) (l2 : (x2 : Int) < 256) (l3 : (x3 : Int) < 256)
    (h1 : 240 ≤ (a : Int)) (h2 : (a : Int) ≤ 247) (hs : 4 ≤ (n : Int) - k) (o1 : 128 ≤ (x1 : Int)) (p1 : (x1 : Int) ≤ 191) (o2 : 128 ≤ (x2 : Int)) (p2 : (x2 : Int) ≤ 191) (o3 : 128 ≤ (x3 : Int)) (p3 : (x3 : Int) ≤ 191) (hv : ((((a : Int) - 240) * 64 + x1 - 128) * 64 + x2 - 128) * 64 + x3 - 128 < 65536)
    (hc0 : w.cell? ⟨b, off + k, none⟩ = some (.int .u8 (a : Int))) (hc1 : w.cell? ⟨b, off + (k + 1), none⟩ = some (.int .u8 (x1 : Int))) (hc2 : w.cell? ⟨b, off + (k + 2), none⟩ = some (.int .u8 (x2 : Int))) (hc3 : w.cell? ⟨b, off + (k + 3), none⟩ = some (.int .u8 (x3 : Int))) :
    Calls Tryd.prog 23 #[.slice (some ⟨b, off, none⟩) n cap, .int .i64 (k : Int)] w fun e w' => e = .returned (.tuple #[.int .i64 (1114112 + (a : Int)), .int .i64 1]) ∧ w' = w := by
  go_enter Tryd.func23, Tryd.ntmps23
  go_wp2
  go_rounds 4
  go_ret2
  exact ⟨rfl, rfl⟩
set_option maxHeartbeats 1000000 in
set_option maxRecDepth 100000 in
theorem ref_ebig (n k b off cap a x1 x2 x3 : Nat) (w : World) (hk : (k : Int) < (n : Int)) (hm : (n : Int) ≤ 9223372036854775807) (la : (a : Int) < 256) (l1 : (x1 : Int) < 256) (l2 : (x2 : Int) < 256) (l3 : (x3 : Int) < 256)
    (h1 : 240 ≤ (a : Int)) (h2 : (a : Int) ≤ 247) (hs : 4 ≤ (n : Int) - k) (o1 : 128 ≤ (x1 : Int)) (p1 : (x1 : Int) ≤ 191) (o2 : 128 ≤ (x2 : Int)) (p2 : (x2 : Int) ≤ 191) (o3 : 128 ≤ (x3 : Int)) (p3 : (x3 : Int) ≤ 191) (hv : 1114111 < ((((a : Int) - 240) * 64 + x1 - 128) * 64 + x2 - 128) * 64 + x3 - 128)
    (hc0 : w.cell? ⟨b, off + k, none⟩ = some (.int .u8 (a : Int))) (hc1 : w.cell? ⟨b, off + (k + 1), none⟩ = some (.int .u8 (x1 : Int))) (hc2 : w.cell? ⟨b, off + (k + 2), none⟩ = some (.int .u8 (x2 : Int))) (hc3 : w.cell? ⟨b, off + (k + 3), none⟩ = some (.int .u8 (x3 : Int))) :
    Calls Tryd.prog 23 #[.slice (some ⟨b, off, none⟩) n cap, .int .i64 (k : Int)] w fun e w' => e = .returned (.tuple #[.int .i64 (1114112 + (a : Int)), .int .i64 1]) ∧ w' = w := by
  go_enter Tryd.func23, Tryd.ntmps23
  go_wp2
  go_rounds 4
  go_ret2
  exact ⟨rfl, rfl⟩
set_option maxHeartbeats 1000000 in
set_option maxRecDepth 100000 in
theorem ref_eok (n k b off cap a x1 x2 x3 : Nat) (w : World) (hk : (k : Int) < (n : Int)) (hm : (n : Int) ≤ 9223372036854775807) (la : (a : Int) < 256) (l1 : (x1 : Int) < 256) (l2 : (x2 : Int) < 256) (l3 : (x3 : Int) < 256)
    (h1 : 240 ≤ (a : Int)) (h2 : (a : Int) ≤ 247) (hs : 4 ≤ (n : Int) - k) (o1 : 128 ≤ (x1 : Int)) (p1 : (x1 : Int) ≤ 191) (o2 : 128 ≤ (x2 : Int)) (p2 : (x2 : Int) ≤ 191) (o3 : 128 ≤ (x3 : Int)) (p3 : (x3 : Int) ≤ 191) (hv : 65536 ≤ ((((a : Int) - 240) * 64 + x1 - 128) * 64 + x2 - 128) * 64 + x3 - 128) (hw : ((((a : Int) - 240) * 64 + x1 - 128) * 64 + x2 - 128) * 64 + x3 - 128 ≤ 1114111)
    (hc0 : w.cell? ⟨b, off + k, none⟩ = some (.int .u8 (a : Int))) (hc1 : w.cell? ⟨b, off + (k + 1), none⟩ = some (.int .u8 (x1 : Int))) (hc2 : w.cell? ⟨b, off + (k + 2), none⟩ = some (.int .u8 (x2 : Int))) (hc3 : w.cell? ⟨b, off + (k + 3), none⟩ = some (.int .u8 (x3 : Int))) :
    Calls Tryd.prog 23 #[.slice (some ⟨b, off, none⟩) n cap, .int .i64 (k : Int)] w fun e w' => e = .returned (.tuple #[.int .i64 (((((a : Int) - 240) * 64 + x1 - 128) * 64 + x2 - 128) * 64 + x3 - 128), .int .i64 4]) ∧ w' = w := by
  go_enter Tryd.func23, Tryd.ntmps23
  go_wp2
  go_rounds 4
  go_ret2
  exact ⟨rfl, rfl⟩
end
section
open Go.RowKit Go.Proofs.YtdeaaidbmneplaaDoor.Sy Go.Proofs.YtdeaaidbmneplaaDoor.Mem
open Go.Lib (decodeN)
def Two (x : Nat × Nat) (w : World) (e : Ending) (w' : World) : Prop := e = .returned (.tuple #[.int .i64 (x.1 : Int), .int .i64 (x.2 : Int)]) ∧ w' = w
theorem two_of {x : Nat × Nat} {w w' : World} {e : Ending} {p q : Int} (h : e = .returned (.tuple #[.int .i64 p, .int .i64 q]) ∧ w' = w) (r s : Nat) (hx : x = (r, s)) (hp : p = r) (hq : q = s) : Two x w e w' := by
  subst hx; subst hp; subst hq; exact h
theorem sy_bad {n a b c d : Nat} (h : dec n a b c d = (65533, 1)) : sy n a b c d = (1114112 + a, 1) := by unfold sy; rw [h]; rfl
theorem sy_ok {n a b c d r m : Nat} (h : dec n a b c d = (r, m)) (hm : m ≠ 1 ∨ r ≠ 65533) : sy n a b c d = (r, m) := by
  unfold sy
  rw [h, if_neg (by simp only []; omega)]
set_option maxRecDepth 100000 in
theorem sy_a1 (m a x1 x2 x3 : Nat) (hm : 1 ≤ m) (la : a < 256) (l1 : x1 < 256) (l2 : x2 < 256) (l3 : x3 < 256) (h1 : a < 128) : sy m a x1 x2 x3 = (a, 1) := by
  refine sy_ok ?_ (by omega)
  unfold dec decodeN
  repeat' split
  all_goals first | rfl | (exfalso; omega) | (apply Prod.ext <;> simp only [] <;> omega)
set_option maxRecDepth 100000 in
theorem sy_b1 (m a x1 x2 x3 : Nat) (hm : 1 ≤ m) (la : a < 256) (l1 : x1 < 256) (l2 : x2 < 256) (l3 : x3 < 256) (h1 : 128 ≤ a) (h2 : a < 192) : sy m a x1 x2 x3 = (1114112 + a, 1) := by
  refine sy_bad ?_
  unfold dec decodeN
  repeat' split
  all_goals first | rfl | (exfalso; omega) | (apply Prod.ext <;> simp only [] <;> omega)
set_option maxRecDepth 100000 in
theorem sy_b2 (m a x1 x2 x3 : Nat) (hm : 1 ≤ m) (la : a < 256) (l1 : x1 < 256) (l2 : x2 < 256) (l3 : x3 < 256) (h1 : 248 ≤ a) : sy m a x1 x2 x3 = (1114112 + a, 1) := by
  refine sy_bad ?_
  unfold dec decodeN
  repeat' split
  all_goals first | rfl | (exfalso; omega) | (apply Prod.ext <;> simp only [] <;> omega)
set_option maxRecDepth 100000 in
theorem sy_cs (m a x1 x2 x3 : Nat) (hm : 1 ≤ m) (la : a < 256) (l1 : x1 < 256) (l2 : x2 < 256) (l3 : x3 < 256) (h1 : 192 ≤ a) (h2 : a ≤ 223) (hs : m < 2) : sy m a x1 x2 x3 = (1114112 + a, 1) := by
  refine sy_bad ?_
  unfold dec decodeN
  repeat' split
  all_goals first | rfl | (exfalso; omega) | (apply Prod.ext <;> simp only [] <;> omega)
set_option maxRecDepth 100000 in
theorem sy_c1lo (m a x1 x2 x3 : Nat) (hm : 1 ≤ m) (la : a < 256) (l1 : x1 < 256) (l2 : x2 < 256) (l3 : x3 < 256) (h1 : 192 ≤ a) (h2 : a ≤ 223) (hs : 2 ≤ m)  (o : x1 < 128) : sy m a x1 x2 x3 = (1114112 + a, 1) := by
  refine sy_bad ?_
  unfold dec decodeN
  repeat' split
  all_goals first | rfl | (exfalso; omega) | (apply Prod.ext <;> simp only [] <;> omega)
set_option maxRecDepth 100000 in
theorem sy_c1hi (m a x1 x2 x3 : Nat) (hm : 1 ≤ m) (la : a < 256) (l1 : x1 < 256) (l2 : x2 < 256) (l3 : x3 < 256) (h1 : 192 ≤ a) (h2 : a ≤ 223) (hs : 2 ≤ m)  (o : 191 < x1) : sy m a x1 x2 x3 = (1114112 + a, 1) := by
  refine sy_bad ?_
  unfold dec decodeN
  repeat' split
  all_goals first | rfl | (exfalso; omega) | (apply Prod.ext <;> simp only [] <;> omega)
set_option maxRecDepth 100000 in
theorem sy_cv (m a x1 x2 x3 : Nat) (hm : 1 ≤ m) (la : a < 256) (l1 : x1 < 256) (l2 : x2 < 256) (l3 : x3 < 256) (h1 : 192 ≤ a) (h2 : a ≤ 223) (hs : 2 ≤ m) (o1 : 128 ≤ x1) (p1 : x1 ≤ 191) (hv : (a - 192) * 64 + x1 - 128 < 128) : sy m a x1 x2 x3 = (1114112 + a, 1) := by
  refine sy_bad ?_
  unfold dec decodeN
  repeat' split
  all_goals first | rfl | (exfalso; omega) | (apply Prod.ext <;> simp only [] <;> omega)
set_option maxRecDepth 100000 in
theorem sy_cok (m a x1 x2 x3 : Nat) (hm : 1 ≤ m) (la : a < 256) (l1 : x1 < 256) (l2 : x2 < 256) (l3 : x3 < 256) (h1 : 192 ≤ a) (h2 : a ≤ 223) (hs : 2 ≤ m) (o1 : 128 ≤ x1) (p1 : x1 ≤ 191) (hv : 128 ≤ (a - 192) * 64 + x1 - 128) : sy m a x1 x2 x3 = ((a - 192) * 64 + x1 - 128, 2) := by
  refine sy_ok ?_ (by omega)
  unfold dec decodeN
  repeat' split
  all_goals first | rfl | (exfalso; omega) | (apply Prod.ext <;> simp only [] <;> omega)
set_option maxRecDepth 100000 in
theorem sy_ds (m a x1 x2 x3 : Nat) (hm : 1 ≤ m) (la : a < 256) (l1 : x1 < 256) (l2 : x2 < 256) (l3 : x3 < 256) (h1 : 224 ≤ a) (h2 : a ≤ 239) (hs : m < 3) : sy m a x1 x2 x3 = (1114112 + a, 1) := by
  refine sy_bad ?_
  unfold dec decodeN
  repeat' split
  all_goals first | rfl | (exfalso; omega) | (apply Prod.ext <;> simp only [] <;> omega)
set_option maxRecDepth 100000 in
theorem sy_d1lo (m a x1 x2 x3 : Nat) (hm : 1 ≤ m) (la : a < 256) (l1 : x1 < 256) (l2 : x2 < 256) (l3 : x3 < 256) (h1 : 224 ≤ a) (h2 : a ≤ 239) (hs : 3 ≤ m)  (o : x1 < 128) : sy m a x1 x2 x3 = (1114112 + a, 1) := by
  refine sy_bad ?_
  unfold dec decodeN
  repeat' split
  all_goals first | rfl | (exfalso; omega) | (apply Prod.ext <;> simp only [] <;> omega)
set_option maxRecDepth 100000 in
theorem sy_d1hi (m a x1 x2 x3 : Nat) (hm : 1 ≤ m) (la : a < 256) (l1 : x1 < 256) (l2 : x2 < 256) (l3 : x3 < 256) (h1 : 224 ≤ a) (h2 : a ≤ 239) (hs : 3 ≤ m)  (o : 191 < x1) : sy m a x1 x2 x3 = (1114112 + a, 1) := by
  refine sy_bad ?_
  unfold dec decodeN
  repeat' split
  all_goals first | rfl | (exfalso; omega) | (apply Prod.ext <;> simp only [] <;> omega)
set_option maxRecDepth 100000 in
theorem sy_d2lo (m a x1 x2 x3 : Nat) (hm : 1 ≤ m) (la : a < 256) (l1 : x1 < 256) (l2 : x2 < 256) (l3 : x3 < 256) (h1 : 224 ≤ a) (h2 : a ≤ 239) (hs : 3 ≤ m) (o1 : 128 ≤ x1) (p1 : x1 ≤ 191) (o : x2 < 128) : sy m a x1 x2 x3 = (1114112 + a, 1) := by
  refine sy_bad ?_
  unfold dec decodeN
  repeat' split
  all_goals first | rfl | (exfalso; omega) | (apply Prod.ext <;> simp only [] <;> omega)
set_option maxRecDepth 100000 in
theorem sy_d2hi (m a x1 x2 x3 : Nat) (hm : 1 ≤ m) (la : a < 256) (l1 : x1 < 256) (l2 : x2 < 256) (l3 : x3 < 256) (h1 : 224 ≤ a) (h2 : a ≤ 239) (hs : 3 ≤ m) (o1 : 128 ≤ x1) (p1 : x1 ≤ 191) (o : 191 < x2) : sy m a x1 x2 x3 = (1114112 + a, 1) := by
  refine sy_bad ?_
  unfold dec decodeN
  repeat' split
  all_goals first | rfl | (exfalso; omega) | (apply Prod.ext <;> simp only [] <;> omega)
set_option maxRecDepth 100000 in
theorem sy_dv (m a x1 x2 x3 : Nat) (hm : 1 ≤ m) (la : a < 256) (l1 : x1 < 256) (l2 : x2 < 256) (l3 : x3 < 256) (h1 : 224 ≤ a) (h2 : a ≤ 239) (hs : 3 ≤ m) (o1 : 128 ≤ x1) (p1 : x1 ≤ 191) (o2 : 128 ≤ x2) (p2 : x2 ≤ 191) (hv : ((a - 224) * 64 + x1 - 128) * 64 + x2 - 128 < 2048) : sy m a x1 x2 x3 = (1114112 + a, 1) := by
  refine sy_bad ?_
  unfold dec decodeN
  repeat' split
  all_goals first | rfl | (exfalso; omega) | (apply Prod.ext <;> simp only [] <;> omega)
set_option maxRecDepth 100000 in
theorem sy_dsur (m a x1 x2 x3 : Nat) (hm : 1 ≤ m) (la : a < 256) (l1 : x1 < 256) (l2 : x2 < 256) (l3 : x3 < 256) (h1 : 224 ≤ a) (h2 : a ≤ 239) (hs : 3 ≤ m) (o1 : 128 ≤ x1) (p1 : x1 ≤ 191) (o2 : 128 ≤ x2) (p2 : x2 ≤ 191) (hv : 55296 ≤ ((a - 224) * 64 + x1 - 128) * 64 + x2 - 128) (hw : ((a - 224) * 64 + x1 - 128) * 64 + x2 - 128 ≤ 57343) : sy m a x1 x2 x3 = (1114112 + a, 1) := by
  refine sy_bad ?_
  unfold dec decodeN
  repeat' split
  all_goals first | rfl | (exfalso; omega) | (apply Prod.ext <;> simp only [] <;> omega)
set_option maxRecDepth 100000 in
theorem sy_dok1 (m a x1 x2 x3 : Nat) (hm : 1 ≤ m) (la : a < 256) (l1 : x1 < 256) (l2 : x2 < 256) (l3 : x3 < 256) (h1 : 224 ≤ a) (h2 : a ≤ 239) (hs : 3 ≤ m) (o1 : 128 ≤ x1) (p1 : x1 ≤ 191) (o2 : 128 ≤ x2) (p2 : x2 ≤ 191) (hv : 2048 ≤ ((a - 224) * 64 + x1 - 128) * 64 + x2 - 128) (hw : ((a - 224) * 64 + x1 - 128) * 64 + x2 - 128 < 55296) : sy m a x1 x2 x3 = (((a - 224) * 64 + x1 - 128) * 64 + x2 - 128, 3) := by
  refine sy_ok ?_ (by omega)
  unfold dec decodeN
  repeat' split
  all_goals first | rfl | (exfalso; omega) | (apply Prod.ext <;> simp only [] <;> omega)
set_option maxRecDepth 100000 in
theorem sy_dok2 (m a x1 x2 x3 : Nat) (hm : 1 ≤ m) (la : a < 256) (l1 : x1 < 256) (l2 : x2 < 256) (l3 : x3 < 256) (h1 : 224 ≤ a) (h2 : a ≤ 239) (hs : 3 ≤ m) (o1 : 128 ≤ x1) (p1 : x1 ≤ 191) (o2 : 128 ≤ x2) (p2 : x2 ≤ 191) (hv : 57343 < ((a - 224) * 64 + x1 - 128) * 64 + x2 - 128) : sy m a x1 x2 x3 = (((a - 224) * 64 + x1 - 128) * 64 + x2 - 128, 3) := by
  refine sy_ok ?_ (by omega)
  unfold dec decodeN
  repeat' split
  all_goals first | rfl | (exfalso; omega) | (apply Prod.ext <;> simp only [] <;> omega)
set_option maxRecDepth 100000 in
theorem sy_es (m a x1 x2 x3 : Nat) (hm : 1 ≤ m) (la : a < 256) (l1 : x1 < 256) (l2 : x2 < 256) (l3 : x3 < 256) (h1 : 240 ≤ a) (h2 : a ≤ 247) (hs : m < 4) : sy m a x1 x2 x3 = (1114112 + a, 1) := by
  refine sy_bad ?_
  unfold dec decodeN
  repeat' split
  all_goals first | rfl | (exfalso; omega) | (apply Prod.ext <;> simp only [] <;> omega)
set_option maxRecDepth 100000 in
theorem sy_e1lo (m a x1 x2 x3 : Nat) (hm : 1 ≤ m) (la : a < 256) (l1 : x1 < 256) (l2 : x2 < 256) (l3 : x3 < 256) (h1 : 240 ≤ a) (h2 : a ≤ 247) (hs : 4 ≤ m)  (o : x1 < 128) : sy m a x1 x2 x3 = (1114112 + a, 1) := by
  refine sy_bad ?_
  unfold dec decodeN
  repeat' split
  all_goals first | rfl | (exfalso; omega) | (apply Prod.ext <;> simp only [] <;> omega)
set_option maxRecDepth 100000 in
theorem sy_e1hi (m a x1 x2 x3 : Nat) (hm : 1 ≤ m) (la : a < 256) (l1 : x1 < 256) (l2 : x2 < 256) (l3 : x3 < 256) (h1 : 240 ≤ a) (h2 : a ≤ 247) (hs : 4 ≤ m)  (o : 191 < x1) : sy m a x1 x2 x3 = (1114112 + a, 1) := by
  refine sy_bad ?_
  unfold dec decodeN
  repeat' split
  all_goals first | rfl | (exfalso; omega) | (apply Prod.ext <;> simp only [] <;> omega)
set_option maxRecDepth 100000 in
theorem sy_e2lo (m a x1 x2 x3 : Nat) (hm : 1 ≤ m) (la : a < 256) (l1 : x1 < 256) (l2 : x2 < 256) (l3 : x3 < 256) (h1 : 240 ≤ a) (h2 : a ≤ 247) (hs : 4 ≤ m) (o1 : 128 ≤ x1) (p1 : x1 ≤ 191) (o : x2 < 128) : sy m a x1 x2 x3 = (1114112 + a, 1) := by
  refine sy_bad ?_
  unfold dec decodeN
  repeat' split
  all_goals first | rfl | (exfalso; omega) | (apply Prod.ext <;> simp only [] <;> omega)
set_option maxRecDepth 100000 in
theorem sy_e2hi (m a x1 x2 x3 : Nat) (hm : 1 ≤ m) (la : a < 256) (l1 : x1 < 256) (l2 : x2 < 256) (l3 : x3 < 256) (h1 : 240 ≤ a) (h2 : a ≤ 247) (hs : 4 ≤ m) (o1 : 128 ≤ x1) (p1 : x1 ≤ 191) (o : 191 < x2) : sy m a x1 x2 x3 = (1114112 + a, 1) := by
  refine sy_bad ?_
  unfold dec decodeN
  repeat' split
  all_goals first | rfl | (exfalso; omega) | (apply Prod.ext <;> simp only [] <;> omega)
set_option maxRecDepth 100000 in
theorem sy_e3lo (m a x1 x2 x3 : Nat) (hm : 1 ≤ m) (la : a < 256) (l1 : x1 < 256) (l2 : x2 < 256) (l3 : x3 < 256) (h1 : 240 ≤ a) (h2 : a ≤ 247) (hs : 4 ≤ m) (o1 : 128 ≤ x1) (p1 : x1 ≤ 191) (o2 : 128 ≤ x2) (p2 : x2 ≤ 191) (o : x3 < 128) : sy m a x1 x2 x3 = (1114112 + a, 1) := by
  refine sy_bad ?_
  unfold dec decodeN
  repeat' split
  all_goals first | rfl | (exfalso; omega) | (apply Prod.ext <;> simp only [] <;> omega)
set_option maxRecDepth 100000 in
theorem sy_e3hi (m a x1 x2 x3 : Nat) (hm : 1 ≤ m) (la : a < 256) (l1 : x1 < 256) (l2 : x2 < 256) (l3 : x3 < 256) (h1 : 240 ≤ a) (h2 : a ≤ 247) (hs : 4 ≤ m) (o1 : 128 ≤ x1) (p1 : x1 ≤ 191) (o2 : 128 ≤ x2) (p2 : x2 ≤ 191) (o : 191 < x3) : sy m a x1 x2 x3 = (1114112 + a, 1) := by
  refine sy_bad ?_
  unfold dec decodeN
  repeat' split
  all_goals first | rfl | (exfalso; omega) | (apply Prod.ext <;> simp only [] <;> omega)
set_option maxRecDepth 100000 in
theorem sy_ev (m a x1 x2 x3 : Nat) (hm : 1 ≤ m) (la : a < 256) (l1 : x1 < 256) (l2 : x2 < 256) (l3 : x3 < 256) (h1 : 240 ≤ a) (h2 : a ≤ 247) (hs : 4 ≤ m) (o1 : 128 ≤ x1) (p1 : x1 ≤ 191) (o2 : 128 ≤ x2) (p2 : x2 ≤ 191) (o3 : 128 ≤ x3) (p3 : x3 ≤ 191) (hv : (((a - 240) * 64 + x1 - 128) * 64 + x2 - 128) * 64 + x3 - 128 < 65536) : sy m a x1 x2 x3 = (1114112 + a, 1) := by
  refine sy_bad ?_
  unfold dec decodeN
  repeat' split
  all_goals first | rfl | (exfalso; omega) | (apply Prod.ext <;> simp only [] <;> omega)
set_option maxRecDepth 100000 in
theorem sy_ebig (m a x1 x2 x3 : Nat) (hm : 1 ≤ m) (la : a < 256) (l1 : x1 < 256) (l2 : x2 < 256) (l3 : x3 < 256) (h1 : 240 ≤ a) (h2 : a ≤ 247) (hs : 4 ≤ m) (o1 : 128 ≤ x1) (p1 : x1 ≤ 191) (o2 : 128 ≤ x2) (p2 : x2 ≤ 191) (o3 : 128 ≤ x3) (p3 : x3 ≤ 191) (hv : 1114111 < (((a - 240) * 64 + x1 - 128) * 64 + x2 - 128) * 64 + x3 - 128) : sy m a x1 x2 x3 = (1114112 + a, 1) := by
  refine sy_bad ?_
  unfold dec decodeN
  repeat' split
  all_goals first | rfl | (exfalso; omega) | (apply Prod.ext <;> simp only [] <;> omega)
set_option maxRecDepth 100000 in
theorem sy_eok (m a x1 x2 x3 : Nat) (hm : 1 ≤ m) (la : a < 256) (l1 : x1 < 256) (l2 : x2 < 256) (l3 : x3 < 256) (h1 : 240 ≤ a) (h2 : a ≤ 247) (hs : 4 ≤ m) (o1 : 128 ≤ x1) (p1 : x1 ≤ 191) (o2 : 128 ≤ x2) (p2 : x2 ≤ 191) (o3 : 128 ≤ x3) (p3 : x3 ≤ 191) (hv : 65536 ≤ (((a - 240) * 64 + x1 - 128) * 64 + x2 - 128) * 64 + x3 - 128) (hw : (((a - 240) * 64 + x1 - 128) * 64 + x2 - 128) * 64 + x3 - 128 ≤ 1114111) : sy m a x1 x2 x3 = ((((a - 240) * 64 + x1 - 128) * 64 + x2 - 128) * 64 + x3 - 128, 4) := by
  refine sy_ok ?_ (by omega)
  unfold dec decodeN
  repeat' split
  all_goals first | rfl | (exfalso; omega) | (apply Prod.ext <;> simp only [] <;> omega)
set_option maxRecDepth 100000 in
theorem ref_class_c (n k b off cap a x1 x2 x3 : Nat) (w : World) (hk : k < n) (hm : n ≤ 9223372036854775807) (la : a < 256) (l1 : x1 < 256) (l2 : x2 < 256) (l3 : x3 < 256)
    (ha : 192 ≤ a ∧ a ≤ 223) (hc0 : w.cell? ⟨b, off + k, none⟩ = some (.int .u8 (a : Int))) (hc1 : k + 1 < n → w.cell? ⟨b, off + (k + 1), none⟩ = some (.int .u8 (x1 : Int)))
    (hc2 : k + 2 < n → w.cell? ⟨b, off + (k + 2), none⟩ = some (.int .u8 (x2 : Int))) (hc3 : k + 3 < n → w.cell? ⟨b, off + (k + 3), none⟩ = some (.int .u8 (x3 : Int))) :
    Calls Tryd.prog 23 #[.slice (some ⟨b, off, none⟩) n cap, .int .i64 (k : Int)] w (Two (sy (n - k) a x1 x2 x3) w) := by
  by_cases t2 : n - k < 2
  · exact (ref_cs n k b off cap a x1 x2 x3 w (by omega) (by omega) (by omega) (by omega) (by omega) (by omega) (by omega) (by omega) (by omega) hc0 ).mono fun e w' h => two_of h _ _ (sy_cs (n - k) a x1 x2 x3 (by omega) (by omega) (by omega) (by omega) (by omega) (by omega) (by omega) (by omega)) (by omega) rfl
  by_cases t2 : x1 < 128
  · exact (ref_c1lo n k b off cap a x1 x2 x3 w (by omega) (by omega) (by omega) (by omega) (by omega) (by omega) (by omega) (by omega) (by omega) (by omega) hc0 (hc1 (by omega))).mono fun e w' h => two_of h _ _ (sy_c1lo (n - k) a x1 x2 x3 (by omega) (by omega) (by omega) (by omega) (by omega) (by omega) (by omega) (by omega) (by omega)) (by omega) rfl
  by_cases t2 : 191 < x1
  · exact (ref_c1hi n k b off cap a x1 x2 x3 w (by omega) (by omega) (by omega) (by omega) (by omega) (by omega) (by omega) (by omega) (by omega) (by omega) hc0 (hc1 (by omega))).mono fun e w' h => two_of h _ _ (sy_c1hi (n - k) a x1 x2 x3 (by omega) (by omega) (by omega) (by omega) (by omega) (by omega) (by omega) (by omega) (by omega)) (by omega) rfl
  by_cases t2 : (a - 192) * 64 + x1 - 128 < 128
  · exact (ref_cv n k b off cap a x1 x2 x3 w (by omega) (by omega) (by omega) (by omega) (by omega) (by omega) (by omega) (by omega) (by omega) (by omega) (by omega) (by omega) hc0 (hc1 (by omega))).mono fun e w' h => two_of h _ _ (sy_cv (n - k) a x1 x2 x3 (by omega) (by omega) (by omega) (by omega) (by omega) (by omega) (by omega) (by omega) (by omega) (by omega) (by omega)) (by omega) rfl
  exact (ref_cok n k b off cap a x1 x2 x3 w (by omega) (by omega) (by omega) (by omega) (by omega) (by omega) (by omega) (by omega) (by omega) (by omega) (by omega) (by omega) hc0 (hc1 (by omega))).mono fun e w' h => two_of h _ _ (sy_cok (n - k) a x1 x2 x3 (by omega) (by omega) (by omega) (by omega) (by omega) (by omega) (by omega) (by omega) (by omega) (by omega) (by omega)) (by omega) rfl
set_option maxRecDepth 100000 in
theorem ref_class_d (n k b off cap a x1 x2 x3 : Nat) (w : World) (hk : k < n) (hm : n ≤ 9223372036854775807) (la : a < 256) (l1 : x1 < 256) (l2 : x2 < 256) (l3 : x3 < 256)
    (ha : 224 ≤ a ∧ a ≤ 239) (hc0 : w.cell? ⟨b, off + k, none⟩ = some (.int .u8 (a : Int))) (hc1 : k + 1 < n → w.cell? ⟨b, off + (k + 1), none⟩ = some (.int .u8 (x1 : Int)))
    (hc2 : k + 2 < n → w.cell? ⟨b, off + (k + 2), none⟩ = some (.int .u8 (x2 : Int))) (hc3 : k + 3 < n → w.cell? ⟨b, off + (k + 3), none⟩ = some (.int .u8 (x3 : Int))) :
    Calls Tryd.prog 23 #[.slice (some ⟨b, off, none⟩) n cap, .int .i64 (k : Int)] w (Two (sy (n - k) a x1 x2 x3) w) := by
  by_cases t2 : n - k < 3
  · exact (ref_ds n k b off cap a x1 x2 x3 w (by omega) (by omega) (by omega) (by omega) (by omega) (by omega) (by omega) (by omega) (by omega) hc0 ).mono fun e w' h => two_of h _ _ (sy_ds (n - k) a x1 x2 x3 (by omega) (by omega) (by omega) (by omega) (by omega) (by omega) (by omega) (by omega)) (by omega) rfl
  by_cases t2 : x1 < 128
  · exact (ref_d1lo n k b off cap a x1 x2 x3 w (by omega) (by omega) (by omega) (by omega) (by omega) (by omega) (by omega) (by omega) (by omega) (by omega) hc0 (hc1 (by omega))).mono fun e w' h => two_of h _ _ (sy_d1lo (n - k) a x1 x2 x3 (by omega) (by omega) (by omega) (by omega) (by omega) (by omega) (by omega) (by omega) (by omega)) (by omega) rfl
  by_cases t2 : 191 < x1
  · exact (ref_d1hi n k b off cap a x1 x2 x3 w (by omega) (by omega) (by omega) (by omega) (by omega) (by omega) (by omega) (by omega) (by omega) (by omega) hc0 (hc1 (by omega))).mono fun e w' h => two_of h _ _ (sy_d1hi (n - k) a x1 x2 x3 (by omega) (by omega) (by omega) (by omega) (by omega) (by omega) (by omega) (by omega) (by omega)) (by omega) rfl
  by_cases t2 : x2 < 128
  · exact (ref_d2lo n k b off cap a x1 x2 x3 w (by omega) (by omega) (by omega) (by omega) (by omega) (by omega) (by omega) (by omega) (by omega) (by omega) (by omega) (by omega) hc0 (hc1 (by omega)) (hc2 (by omega))).mono fun e w' h => two_of h _ _ (sy_d2lo (n - k) a x1 x2 x3 (by omega) (by omega) (by omega) (by omega) (by omega) (by omega) (by omega) (by omega) (by omega) (by omega) (by omega)) (by omega) rfl
  by_cases t2 : 191 < x2
  · exact (ref_d2hi n k b off cap a x1 x2 x3 w (by omega) (by omega) (by omega) (by omega) (by omega) (by omega) (by omega) (by omega) (by omega) (by omega) (by omega) (by omega) hc0 (hc1 (by omega)) (hc2 (by omega))).mono fun e w' h => two_of h _ _ (sy_d2hi (n - k) a x1 x2 x3 (by omega) (by omega) (by omega) (by omega) (by omega) (by omega) (by omega) (by omega) (by omega) (by omega) (by omega)) (by omega) rfl
  by_cases t2 : ((a - 224) * 64 + x1 - 128) * 64 + x2 - 128 < 2048
  · exact (ref_dv n k b off cap a x1 x2 x3 w (by omega) (by omega) (by omega) (by omega) (by omega) (by omega) (by omega) (by omega) (by omega) (by omega) (by omega) (by omega) (by omega) (by omega) hc0 (hc1 (by omega)) (hc2 (by omega))).mono fun e w' h => two_of h _ _ (sy_dv (n - k) a x1 x2 x3 (by omega) (by omega) (by omega) (by omega) (by omega) (by omega) (by omega) (by omega) (by omega) (by omega) (by omega) (by omega) (by omega)) (by omega) rfl
  by_cases t2 : 57343 < ((a - 224) * 64 + x1 - 128) * 64 + x2 - 128
  · exact (ref_dok2 n k b off cap a x1 x2 x3 w (by omega) (by omega) (by omega) (by omega) (by omega) (by omega) (by omega) (by omega) (by omega) (by omega) (by omega) (by omega) (by omega) (by omega) hc0 (hc1 (by omega)) (hc2 (by omega))).mono fun e w' h => two_of h _ _ (sy_dok2 (n - k) a x1 x2 x3 (by omega) (by omega) (by omega) (by omega) (by omega) (by omega) (by omega) (by omega) (by omega) (by omega) (by omega) (by omega) (by omega)) (by omega) rfl
  by_cases t2 : 55296 ≤ ((a - 224) * 64 + x1 - 128) * 64 + x2 - 128
  · exact (ref_dsur n k b off cap a x1 x2 x3 w (by omega) (by omega) (by omega) (by omega) (by omega) (by omega) (by omega) (by omega) (by omega) (by omega) (by omega) (by omega) (by omega) (by omega) (by omega) hc0 (hc1 (by omega)) (hc2 (by omega))).mono fun e w' h => two_of h _ _ (sy_dsur (n - k) a x1 x2 x3 (by omega) (by omega) (by omega) (by omega) (by omega) (by omega) (by omega) (by omega) (by omega) (by omega) (by omega) (by omega) (by omega) (by omega)) (by omega) rfl
  exact (ref_dok1 n k b off cap a x1 x2 x3 w (by omega) (by omega) (by omega) (by omega) (by omega) (by omega) (by omega) (by omega) (by omega) (by omega) (by omega) (by omega) (by omega) (by omega) (by omega) hc0 (hc1 (by omega)) (hc2 (by omega))).mono fun e w' h => two_of h _ _ (sy_dok1 (n - k) a x1 x2 x3 (by omega) (by omega) (by omega) (by omega) (by omega) (by omega) (by omega) (by omega) (by omega) (by omega) (by omega) (by omega) (by omega) (by omega)) (by omega) rfl
set_option maxRecDepth 100000 in
theorem ref_class_e (n k b off cap a x1 x2 x3 : Nat) (w : World) (hk : k < n) (hm : n ≤ 9223372036854775807) (la : a < 256) (l1 : x1 < 256) (l2 : x2 < 256) (l3 : x3 < 256)
    (ha : 240 ≤ a ∧ a ≤ 247) (hc0 : w.cell? ⟨b, off + k, none⟩ = some (.int .u8 (a : Int))) (hc1 : k + 1 < n → w.cell? ⟨b, off + (k + 1), none⟩ = some (.int .u8 (x1 : Int)))
    (hc2 : k + 2 < n → w.cell? ⟨b, off + (k + 2), none⟩ = some (.int .u8 (x2 : Int))) (hc3 : k + 3 < n → w.cell? ⟨b, off + (k + 3), none⟩ = some (.int .u8 (x3 : Int))) :
    Calls Tryd.prog 23 #[.slice (some ⟨b, off, none⟩) n cap, .int .i64 (k : Int)] w (Two (sy (n - k) a x1 x2 x3) w) := by
  by_cases t2 : n - k < 4
  · exact (ref_es n k b off cap a x1 x2 x3 w (by omega) (by omega) (by omega) (by omega) (by omega) (by omega) (by omega) (by omega) (by omega) hc0 ).mono fun e w' h => two_of h _ _ (sy_es (n - k) a x1 x2 x3 (by omega) (by omega) (by omega) (by omega) (by omega) (by omega) (by omega) (by omega)) (by omega) rfl
  by_cases t2 : x1 < 128
  · exact (ref_e1lo n k b off cap a x1 x2 x3 w (by omega) (by omega) (by omega) (by omega) (by omega) (by omega) (by omega) (by omega) (by omega) (by omega) hc0 (hc1 (by omega))).mono fun e w' h => two_of h _ _ (sy_e1lo (n - k) a x1 x2 x3 (by omega) (by omega) (by omega) (by omega) (by omega) (by omega) (by omega) (by omega) (by omega)) (by omega) rfl
  by_cases t2 : 191 < x1
  · exact (ref_e1hi n k b off cap a x1 x2 x3 w (by omega) (by omega) (by omega) (by omega) (by omega) (by omega) (by omega) (by omega) (by omega) (by omega) hc0 (hc1 (by omega))).mono fun e w' h => two_of h _ _ (sy_e1hi (n - k) a x1 x2 x3 (by omega) (by omega) (by omega) (by omega) (by omega) (by omega) (by omega) (by omega) (by omega)) (by omega) rfl
  by_cases t2 : x2 < 128
  · exact (ref_e2lo n k b off cap a x1 x2 x3 w (by omega) (by omega) (by omega) (by omega) (by omega) (by omega) (by omega) (by omega) (by omega) (by omega) (by omega) (by omega) hc0 (hc1 (by omega)) (hc2 (by omega))).mono fun e w' h => two_of h _ _ (sy_e2lo (n - k) a x1 x2 x3 (by omega) (by omega) (by omega) (by omega) (by omega) (by omega) (by omega) (by omega) (by omega) (by omega) (by omega)) (by omega) rfl
  by_cases t2 : 191 < x2
  · exact (ref_e2hi n k b off cap a x1 x2 x3 w (by omega) (by omega) (by omega) (by omega) (by omega) (by omega) (by omega) (by omega) (by omega) (by omega) (by omega) (by omega) hc0 (hc1 (by omega)) (hc2 (by omega))).mono fun e w' h => two_of h _ _ (sy_e2hi (n - k) a x1 x2 x3 (by omega) (by omega) (by omega) (by omega) (by omega) (by omega) (by omega) (by omega) (by omega) (by omega) (by omega)) (by omega) rfl
  by_cases t2 : x3 < 128
  · exact (ref_e3lo n k b off cap a x1 x2 x3 w (by omega) (by omega) (by omega) (by omega) (by omega) (by omega) (by omega) (by omega) (by omega) (by omega) (by omega) (by omega) (by omega) (by omega) hc0 (hc1 (by omega)) (hc2 (by omega)) (hc3 (by omega))).mono fun e w' h => two_of h _ _ (sy_e3lo (n - k) a x1 x2 x3 (by omega) (by omega) (by omega) (by omega) (by omega) (by omega) (by omega) (by omega) (by omega) (by omega) (by omega) (by omega) (by omega)) (by omega) rfl
  by_cases t2 : 191 < x3
  · exact (ref_e3hi n k b off cap a x1 x2 x3 w (by omega) (by omega) (by omega) (by omega) (by omega) (by omega) (by omega) (by omega) (by omega) (by omega) (by omega) (by omega) (by omega) (by omega) hc0 (hc1 (by omega)) (hc2 (by omega)) (hc3 (by omega))).mono fun e w' h => two_of h _ _ (sy_e3hi (n - k) a x1 x2 x3 (by omega) (by omega) (by omega) (by omega) (by omega) (by omega) (by omega) (by omega) (by omega) (by omega) (by omega) (by omega) (by omega)) (by omega) rfl
  by_cases t2 : (((a - 240) * 64 + x1 - 128) * 64 + x2 - 128) * 64 + x3 - 128 < 65536
  · exact (ref_ev n k b off cap a x1 x2 x3 w (by omega) (by omega) (by omega) (by omega) (by omega) (by omega) (by omega) (by omega) (by omega) (by omega) (by omega) (by omega) (by omega) (by omega) (by omega) (by omega) hc0 (hc1 (by omega)) (hc2 (by omega)) (hc3 (by omega))).mono fun e w' h => two_of h _ _ (sy_ev (n - k) a x1 x2 x3 (by omega) (by omega) (by omega) (by omega) (by omega) (by omega) (by omega) (by omega) (by omega) (by omega) (by omega) (by omega) (by omega) (by omega) (by omega)) (by omega) rfl
  by_cases t2 : 1114111 < (((a - 240) * 64 + x1 - 128) * 64 + x2 - 128) * 64 + x3 - 128
  · exact (ref_ebig n k b off cap a x1 x2 x3 w (by omega) (by omega) (by omega) (by omega) (by omega) (by omega) (by omega) (by omega) (by omega) (by omega) (by omega) (by omega) (by omega) (by omega) (by omega) (by omega) hc0 (hc1 (by omega)) (hc2 (by omega)) (hc3 (by omega))).mono fun e w' h => two_of h _ _ (sy_ebig (n - k) a x1 x2 x3 (by omega) (by omega) (by omega) (by omega) (by omega) (by omega) (by omega) (by omega) (by omega) (by omega) (by omega) (by omega) (by omega) (by omega) (by omega)) (by omega) rfl
  exact (ref_eok n k b off cap a x1 x2 x3 w (by omega) (by omega) (by omega) (by omega) (by omega) (by omega) (by omega) (by omega) (by omega) (by omega) (by omega) (by omega) (by omega) (by omega) (by omega) (by omega) (by omega) hc0 (hc1 (by omega)) (hc2 (by omega)) (hc3 (by omega))).mono fun e w' h => two_of h _ _ (sy_eok (n - k) a x1 x2 x3 (by omega) (by omega) (by omega) (by omega) (by omega) (by omega) (by omega) (by omega) (by omega) (by omega) (by omega) (by omega) (by omega) (by omega) (by omega) (by omega)) (by omega) rfl
theorem ref_cells (n k b off cap a x1 x2 x3 : Nat) (w : World) (hk : k < n) (hm : n ≤ 9223372036854775807) (la : a < 256) (l1 : x1 < 256) (l2 : x2 < 256) (l3 : x3 < 256)
    (hc0 : w.cell? ⟨b, off + k, none⟩ = some (.int .u8 (a : Int))) (hc1 : k + 1 < n → w.cell? ⟨b, off + (k + 1), none⟩ = some (.int .u8 (x1 : Int)))
    (hc2 : k + 2 < n → w.cell? ⟨b, off + (k + 2), none⟩ = some (.int .u8 (x2 : Int))) (hc3 : k + 3 < n → w.cell? ⟨b, off + (k + 3), none⟩ = some (.int .u8 (x3 : Int))) :
    Calls Tryd.prog 23 #[.slice (some ⟨b, off, none⟩) n cap, .int .i64 (k : Int)] w (Two (sy (n - k) a x1 x2 x3) w) := by
  by_cases h1 : a < 128
  · exact (ref_a1 n k b off cap a x1 x2 x3 w (by omega) (by omega) (by omega) (by omega) (by omega) (by omega) (by omega) hc0 ).mono fun e w' h => two_of h _ _ (sy_a1 (n - k) a x1 x2 x3 (by omega) (by omega) (by omega) (by omega) (by omega) (by omega)) (by omega) rfl
  by_cases h2 : a < 192
  · exact (ref_b1 n k b off cap a x1 x2 x3 w (by omega) (by omega) (by omega) (by omega) (by omega) (by omega) (by omega) (by omega) hc0 ).mono fun e w' h => two_of h _ _ (sy_b1 (n - k) a x1 x2 x3 (by omega) (by omega) (by omega) (by omega) (by omega) (by omega) (by omega)) (by omega) rfl
  by_cases h3 : 248 ≤ a
  · exact (ref_b2 n k b off cap a x1 x2 x3 w (by omega) (by omega) (by omega) (by omega) (by omega) (by omega) (by omega) hc0 ).mono fun e w' h => two_of h _ _ (sy_b2 (n - k) a x1 x2 x3 (by omega) (by omega) (by omega) (by omega) (by omega) (by omega)) (by omega) rfl
  by_cases h4 : a ≤ 223
  · exact ref_class_c n k b off cap a x1 x2 x3 w hk hm la l1 l2 l3 (by omega) hc0 hc1 hc2 hc3
  by_cases h5 : a ≤ 239
  · exact ref_class_d n k b off cap a x1 x2 x3 w hk hm la l1 l2 l3 (by omega) hc0 hc1 hc2 hc3
  exact ref_class_e n k b off cap a x1 x2 x3 w hk hm la l1 l2 l3 (by omega) hc0 hc1 hc2 hc3
theorem ref_at (bs : List UInt8) (B k cap : Nat) (A : Option Addr) (w : World) (hk : k < bs.length) (hm : bs.length ≤ 9223372036854775807) (h : Reads w B 1 A bs.length (bs.map u8)) :
    Calls Tryd.prog 23 #[.slice A bs.length cap, .int .i64 (k : Int)] w (Two (at_ bs k) w) := by
  obtain ⟨b, off, rfl, _, hc⟩ := h.flat (by omega)
  have hg : ∀ j, j < bs.length → w.cell? ⟨b, off + j, none⟩ = some (.int .u8 (g bs j : Int)) := fun j hj => by
    have h := List.getElem?_eq_getElem hj
    rw [g_of h]
    exact hc j _ (by simp [h])
  exact ref_cells bs.length k b off cap _ _ _ _ w hk hm (g_lt _ _) (g_lt _ _) (g_lt _ _) (g_lt _ _) (hg k hk) (hg (k + 1)) (hg (k + 2)) (hg (k + 3))
end
end Go.Proofs.YtdeaaidbmneplaaDoor.Ref
