/-
  The library's decoder of one symbol's bytes (unicode/utf8.DecodeRune), walked at every slice of bytes that is 
-/
import Derived.Test.YtdeaaidbmneplaaDoorProg
import Derived.Test.YtdeaaidbmneplaaDoorMPuB
import Derived.Test.YtdeaaidbmneplaaDoorMSymMem
import Derived.WalkKit
import Derived.Lib.Walk
import Derived.Lib.Strings
import Derived.Lib.IndexBytes
import Derived.Laws.Strings3
import Derived.Laws.BitsLemmas
import Derived.Deep.DeepFit
import Derived.LoopTactic
set_option linter.unusedSimpArgs false
set_option linter.unusedVariables false
namespace Go.Proofs.YtdeaaidbmneplaaDoor.Utf
open Go.RowKit Go.Lib Go.Proofs.YtdeaaidbmneplaaDoor.Sy Go.Proofs.YtdeaaidbmneplaaDoor.Mem
def Tabs (w : World) : Prop :=
  (∀ c, c < 256 → w.cell? ⟨0, c, none⟩ = some (.int .u8 (firstT c))) ∧
  (∀ i, i < 16 → w.cell? ⟨1, 2 * i, none⟩ = some (.int .u8 (accLo i)) ∧ w.cell? ⟨1, 2 * i + 1, none⟩ = some (.int .u8 (accHi i)))
theorem Tabs.below {w w' : World} (h : Tabs w) {B : Nat} (hb : Below B w w') (hB : w.heap.size ≤ B) : Tabs w' :=
  ⟨fun c hc => (hb.cell (Nat.lt_of_lt_of_le (cell_lt (h.1 c hc)) hB)).trans (h.1 c hc),
   fun i hi => ⟨(hb.cell (Nat.lt_of_lt_of_le (cell_lt (h.2 i hi).1) hB)).trans (h.2 i hi).1, (hb.cell (Nat.lt_of_lt_of_le (cell_lt (h.2 i hi).2) hB)).trans (h.2 i hi).2⟩⟩
theorem Tabs.room {w : World} (h : Tabs w) : 0 < w.heap.size ∧ 1 < w.heap.size :=
  ⟨cell_lt (h.1 0 (by omega)), cell_lt (h.2 0 (by omega)).1⟩
theorem mask241 : wrap32 517543559168 / 2147483648 = -1 := by unfold wrap32; omega
set_option maxRecDepth 100000 in
theorem drop_byte : ∀ x : Fin 256, bits .or .i32 (bits .andNot .i32 ((x.val : Nat) : Int) (-1)) (bits .and .i32 65533 (-1)) = 65533 := by decide
theorem first_cases (b : Nat) : firstT b = 240 ∨ firstT b = 241 ∨ firstT b = 2 ∨ firstT b = 19 ∨ firstT b = 3 ∨ firstT b = 35 ∨ firstT b = 52 ∨ firstT b = 4 ∨ firstT b = 68 := by
  unfold firstT
  repeat' split
  all_goals simp
def Gives (x : Nat × Nat) (w : World) (e : Ending) (w' : World) : Prop := e = .returned (.tuple #[.int .i32 (x.1 : Int), .int .i64 (x.2 : Int)]) ∧ Below w.heap.size w w'
set_option maxHeartbeats 1000000 in
set_option maxRecDepth 1000000 in
theorem slow_bad (n x0 b off cap : Nat) (w : World) (h1 : ¬ ((n : Int) < 1)) (hz0 : (0 : Int) < (n : Int)) (l0 : x0 < 256) (hs0 : w.cell? ⟨b, off, none⟩ = some (.int .u8 (x0 : Int)))
    (hc0 : w.cell? ⟨0, x0, none⟩ = some (.int .u8 241)) :
    Calls Tryd.prog 42 #[.slice (some ⟨b, off, none⟩) n cap] w (Gives (65533, 1) w) := by
  go_enter Tryd.func42, Tryd.ntmps42
  go_wp2
  rw [mask241, drop_byte ⟨x0, l0⟩]
  go_ret2
  exact ⟨rfl, Below.refl _ _⟩
set_option maxHeartbeats 2000000 in
set_option maxRecDepth 1000000 in
theorem slow_C2_short (n x0 x1 x2 x3 b off cap : Nat) (w : World) (h1 : ¬ ((n : Int) < 1)) (hz0 : (0 : Int) < (n : Int)) (hn : (n : Int) < 2) (hb : b < w.heap.size) (l0 : x0 < 256) (l1 : x1 < 256) (l2 : x2 < 256) (l3 : x3 < 256)
    (hs0 : w.cell? ⟨b, off, none⟩ = some (.int .u8 (x0 : Int))) (hc0 : w.cell? ⟨0, x0, none⟩ = some (.int .u8 2))
    (ha0 : w.cell? ⟨1, 0, none⟩ = some (.int .u8 128)) (ha1 : w.cell? ⟨1, 1, none⟩ = some (.int .u8 191)) :
    Calls Tryd.prog 42 #[.slice (some ⟨b, off, none⟩) n cap] w (Gives (slowN n x0 x1 x2 x3 2 128 191) w) := by
  go_enter Tryd.func42, Tryd.ntmps42
  go_wp2
  all_goals (go_ret2; refine ⟨?_, (Below.refl _ _).alloc (Nat.le_refl _) _⟩)
  all_goals (unfold slowN; repeat' split)
  all_goals first
    | (exfalso; omega)
    | rfl
    | (simp only [Int.natCast_add, Int.natCast_mul, Int.natCast_emod, Int.natCast_ofNat]; rfl)
set_option maxHeartbeats 2000000 in
set_option maxRecDepth 1000000 in
theorem slow_C2_long (n x0 x1 x2 x3 b off cap : Nat) (w : World) (h1 : ¬ ((n : Int) < 1)) (hz0 : (0 : Int) < (n : Int)) (hz1 : (1 : Int) < (n : Int)) (hs1 : w.cell? ⟨b, off + 1, none⟩ = some (.int .u8 (x1 : Int))) (hb : b < w.heap.size) (l0 : x0 < 256) (l1 : x1 < 256) (l2 : x2 < 256) (l3 : x3 < 256)
    (hs0 : w.cell? ⟨b, off, none⟩ = some (.int .u8 (x0 : Int))) (hc0 : w.cell? ⟨0, x0, none⟩ = some (.int .u8 2))
    (ha0 : w.cell? ⟨1, 0, none⟩ = some (.int .u8 128)) (ha1 : w.cell? ⟨1, 1, none⟩ = some (.int .u8 191)) :
    Calls Tryd.prog 42 #[.slice (some ⟨b, off, none⟩) n cap] w (Gives (slowN n x0 x1 x2 x3 2 128 191) w) := by
  go_enter Tryd.func42, Tryd.ntmps42
  go_wp2
  all_goals (go_ret2; refine ⟨?_, (Below.refl _ _).alloc (Nat.le_refl _) _⟩)
  all_goals (unfold slowN; repeat' split)
  all_goals first
    | (exfalso; omega)
    | rfl
    | (simp only [Int.natCast_add, Int.natCast_mul, Int.natCast_emod, Int.natCast_ofNat]; rfl)
set_option maxHeartbeats 2000000 in
set_option maxRecDepth 1000000 in
theorem slow_E0_short (n x0 x1 x2 x3 b off cap : Nat) (w : World) (h1 : ¬ ((n : Int) < 1)) (hz0 : (0 : Int) < (n : Int)) (hn : (n : Int) < 3) (hb : b < w.heap.size) (l0 : x0 < 256) (l1 : x1 < 256) (l2 : x2 < 256) (l3 : x3 < 256)
    (hs0 : w.cell? ⟨b, off, none⟩ = some (.int .u8 (x0 : Int))) (hc0 : w.cell? ⟨0, x0, none⟩ = some (.int .u8 19))
    (ha0 : w.cell? ⟨1, 2, none⟩ = some (.int .u8 160)) (ha1 : w.cell? ⟨1, 3, none⟩ = some (.int .u8 191)) :
    Calls Tryd.prog 42 #[.slice (some ⟨b, off, none⟩) n cap] w (Gives (slowN n x0 x1 x2 x3 3 160 191) w) := by
  go_enter Tryd.func42, Tryd.ntmps42
  go_wp2
  all_goals (go_ret2; refine ⟨?_, (Below.refl _ _).alloc (Nat.le_refl _) _⟩)
  all_goals (unfold slowN; repeat' split)
  all_goals first
    | (exfalso; omega)
    | rfl
    | (simp only [Int.natCast_add, Int.natCast_mul, Int.natCast_emod, Int.natCast_ofNat]; rfl)
set_option maxHeartbeats 2000000 in
set_option maxRecDepth 1000000 in
theorem slow_E0_long (n x0 x1 x2 x3 b off cap : Nat) (w : World) (h1 : ¬ ((n : Int) < 1)) (hz0 : (0 : Int) < (n : Int)) (hz1 : (1 : Int) < (n : Int)) (hz2 : (2 : Int) < (n : Int)) (hs1 : w.cell? ⟨b, off + 1, none⟩ = some (.int .u8 (x1 : Int))) (hs2 : w.cell? ⟨b, off + 2, none⟩ = some (.int .u8 (x2 : Int))) (hb : b < w.heap.size) (l0 : x0 < 256) (l1 : x1 < 256) (l2 : x2 < 256) (l3 : x3 < 256)
    (hs0 : w.cell? ⟨b, off, none⟩ = some (.int .u8 (x0 : Int))) (hc0 : w.cell? ⟨0, x0, none⟩ = some (.int .u8 19))
    (ha0 : w.cell? ⟨1, 2, none⟩ = some (.int .u8 160)) (ha1 : w.cell? ⟨1, 3, none⟩ = some (.int .u8 191)) :
    Calls Tryd.prog 42 #[.slice (some ⟨b, off, none⟩) n cap] w (Gives (slowN n x0 x1 x2 x3 3 160 191) w) := by
  go_enter Tryd.func42, Tryd.ntmps42
  go_wp2
  all_goals (go_ret2; refine ⟨?_, (Below.refl _ _).alloc (Nat.le_refl _) _⟩)
  all_goals (unfold slowN; repeat' split)
  all_goals first
    | (exfalso; omega)
    | rfl
    | (simp only [Int.natCast_add, Int.natCast_mul, Int.natCast_emod, Int.natCast_ofNat]; rfl)
set_option maxHeartbeats 2000000 in
set_option maxRecDepth 1000000 in
theorem slow_E1_short (n x0 x1 x2 x3 b off cap : Nat) (w : World) (h1 : ¬ ((n : Int) < 1)) (hz0 : (0 : Int) < (n : Int)) (hn : (n : Int) < 3) (hb : b < w.heap.size) (l0 : x0 < 256) (l1 : x1 < 256) (l2 : x2 < 256) (l3 : x3 < 256)
    (hs0 : w.cell? ⟨b, off, none⟩ = some (.int .u8 (x0 : Int))) (hc0 : w.cell? ⟨0, x0, none⟩ = some (.int .u8 3))
    (ha0 : w.cell? ⟨1, 0, none⟩ = some (.int .u8 128)) (ha1 : w.cell? ⟨1, 1, none⟩ = some (.int .u8 191)) :
    Calls Tryd.prog 42 #[.slice (some ⟨b, off, none⟩) n cap] w (Gives (slowN n x0 x1 x2 x3 3 128 191) w) := by
  go_enter Tryd.func42, Tryd.ntmps42
  go_wp2
  all_goals (go_ret2; refine ⟨?_, (Below.refl _ _).alloc (Nat.le_refl _) _⟩)
  all_goals (unfold slowN; repeat' split)
  all_goals first
    | (exfalso; omega)
    | rfl
    | (simp only [Int.natCast_add, Int.natCast_mul, Int.natCast_emod, Int.natCast_ofNat]; rfl)
set_option maxHeartbeats 2000000 in
set_option maxRecDepth 1000000 in
theorem slow_E1_long (n x0 x1 x2 x3 b off cap : Nat) (w : World) (h1 : ¬ ((n : Int) < 1)) (hz0 : (0 : Int) < (n : Int)) (hz1 : (1 : Int) < (n : Int)) (hz2 : (2 : Int) < (n : Int)) (hs1 : w.cell? ⟨b, off + 1, none⟩ = some (.int .u8 (x1 : Int))) (hs2 : w.cell? ⟨b, off + 2, none⟩ = some (.int .u8 (x2 : Int))) (hb : b < w.heap.size) (l0 : x0 < 256) (l1 : x1 < 256) (l2 : x2 < 256) (l3 : x3 < 256)
    (hs0 : w.cell? ⟨b, off, none⟩ = some (.int .u8 (x0 : Int))) (hc0 : w.cell? ⟨0, x0, none⟩ = some (.int .u8 3))
    (ha0 : w.cell? ⟨1, 0, none⟩ = some (.int .u8 128)) (ha1 : w.cell? ⟨1, 1, none⟩ = some (.int .u8 191)) :
    Calls Tryd.prog 42 #[.slice (some ⟨b, off, none⟩) n cap] w (Gives (slowN n x0 x1 x2 x3 3 128 191) w) := by
  go_enter Tryd.func42, Tryd.ntmps42
  go_wp2
  all_goals (go_ret2; refine ⟨?_, (Below.refl _ _).alloc (Nat.le_refl _) _⟩)
  all_goals (unfold slowN; repeat' split)
  all_goals first
    | (exfalso; omega)
    | rfl
    | (simp only [Int.natCast_add, Int.natCast_mul, Int.natCast_emod, Int.natCast_ofNat]; rfl)
set_option maxHeartbeats 2000000 in
set_option maxRecDepth 1000000 in
theorem slow_ED_short (n x0 x1 x2 x3 b off cap : Nat) (w : World) (h1 : ¬ ((n : Int) < 1)) (hz0 : (0 : Int) < (n : Int)) (hn : (n : Int) < 3) (hb : b < w.heap.size) (l0 : x0 < 256) (l1 : x1 < 256) (l2 : x2 < 256) (l3 : x3 < 256)
    (hs0 : w.cell? ⟨b, off, none⟩ = some (.int .u8 (x0 : Int))) (hc0 : w.cell? ⟨0, x0, none⟩ = some (.int .u8 35))
    (ha0 : w.cell? ⟨1, 4, none⟩ = some (.int .u8 128)) (ha1 : w.cell? ⟨1, 5, none⟩ = some (.int .u8 159)) :
    Calls Tryd.prog 42 #[.slice (some ⟨b, off, none⟩) n cap] w (Gives (slowN n x0 x1 x2 x3 3 128 159) w) := by
  go_enter Tryd.func42, Tryd.ntmps42
  go_wp2
  all_goals (go_ret2; refine ⟨?_, (Below.refl _ _).alloc (Nat.le_refl _) _⟩)
  all_goals (unfold slowN; repeat' split)
  all_goals first
    | (exfalso; omega)
    | rfl
    | (simp only [Int.natCast_add, Int.natCast_mul, Int.natCast_emod, Int.natCast_ofNat]; rfl)
set_option maxHeartbeats 2000000 in
set_option maxRecDepth 1000000 in
theorem slow_ED_long (n x0 x1 x2 x3 b off cap : Nat) (w : World) (h1 : ¬ ((n : Int) < 1)) (hz0 : (0 : Int) < (n : Int)) (hz1 : (1 : Int) < (n : Int)) (hz2 : (2 : Int) < (n : Int)) (hs1 : w.cell? ⟨b, off + 1, none⟩ = some (.int .u8 (x1 : Int))) (hs2 : w.cell? ⟨b, off + 2, none⟩ = some (.int .u8 (x2 : Int))) (hb : b < w.heap.size) (l0 : x0 < 256) (l1 : x1 < 256) (l2 : x2 < 256) (l3 : x3 < 256)
    (hs0 : w.cell? ⟨b, off, none⟩ = some (.int .u8 (x0 : Int))) (hc0 : w.cell? ⟨0, x0, none⟩ = some (.int .u8 35))
    (ha0 : w.cell? ⟨1, 4, none⟩ = some (.int .u8 128)) (ha1 : w.cell? ⟨1, 5, none⟩ = some (.int .u8 159)) :
    Calls Tryd.prog 42 #[.slice (some ⟨b, off, none⟩) n cap] w (Gives (slowN n x0 x1 x2 x3 3 128 159) w) := by
  go_enter Tryd.func42, Tryd.ntmps42
  go_wp2
  all_goals (go_ret2; refine ⟨?_, (Below.refl _ _).alloc (Nat.le_refl _) _⟩)
  all_goals (unfold slowN; repeat' split)
  all_goals first
    | (exfalso; omega)
    | rfl
    | (simp only [Int.natCast_add, Int.natCast_mul, Int.natCast_emod, Int.natCast_ofNat]; rfl)
set_option maxHeartbeats 2000000 in
set_option maxRecDepth 1000000 in
theorem slow_F0_short (n x0 x1 x2 x3 b off cap : Nat) (w : World) (h1 : ¬ ((n : Int) < 1)) (hz0 : (0 : Int) < (n : Int)) (hn : (n : Int) < 4) (hb : b < w.heap.size) (l0 : x0 < 256) (l1 : x1 < 256) (l2 : x2 < 256) (l3 : x3 < 256)
    (hs0 : w.cell? ⟨b, off, none⟩ = some (.int .u8 (x0 : Int))) (hc0 : w.cell? ⟨0, x0, none⟩ = some (.int .u8 52))
    (ha0 : w.cell? ⟨1, 6, none⟩ = some (.int .u8 144)) (ha1 : w.cell? ⟨1, 7, none⟩ = some (.int .u8 191)) :
    Calls Tryd.prog 42 #[.slice (some ⟨b, off, none⟩) n cap] w (Gives (slowN n x0 x1 x2 x3 4 144 191) w) := by
  go_enter Tryd.func42, Tryd.ntmps42
  go_wp2
  all_goals (go_ret2; refine ⟨?_, (Below.refl _ _).alloc (Nat.le_refl _) _⟩)
  all_goals (unfold slowN; repeat' split)
  all_goals first
    | (exfalso; omega)
    | rfl
    | (simp only [Int.natCast_add, Int.natCast_mul, Int.natCast_emod, Int.natCast_ofNat]; rfl)
set_option maxHeartbeats 2000000 in
set_option maxRecDepth 1000000 in
theorem slow_F0_long (n x0 x1 x2 x3 b off cap : Nat) (w : World) (h1 : ¬ ((n : Int) < 1)) (hz0 : (0 : Int) < (n : Int)) (hz1 : (1 : Int) < (n : Int)) (hz2 : (2 : Int) < (n : Int)) (hz3 : (3 : Int) < (n : Int)) (hs1 : w.cell? ⟨b, off + 1, none⟩ = some (.int .u8 (x1 : Int))) (hs2 : w.cell? ⟨b, off + 2, none⟩ = some (.int .u8 (x2 : Int))) (hs3 : w.cell? ⟨b, off + 3, none⟩ = some (.int .u8 (x3 : Int))) (hb : b < w.heap.size) (l0 : x0 < 256) (l1 : x1 < 256) (l2 : x2 < 256) (l3 : x3 < 256)
    (hs0 : w.cell? ⟨b, off, none⟩ = some (.int .u8 (x0 : Int))) (hc0 : w.cell? ⟨0, x0, none⟩ = some (.int .u8 52))
    (ha0 : w.cell? ⟨1, 6, none⟩ = some (.int .u8 144)) (ha1 : w.cell? ⟨1, 7, none⟩ = some (.int .u8 191)) :
    Calls Tryd.prog 42 #[.slice (some ⟨b, off, none⟩) n cap] w (Gives (slowN n x0 x1 x2 x3 4 144 191) w) := by
  go_enter Tryd.func42, Tryd.ntmps42
  go_wp2
  all_goals (go_ret2; refine ⟨?_, (Below.refl _ _).alloc (Nat.le_refl _) _⟩)
  all_goals (unfold slowN; repeat' split)
  all_goals first
    | (exfalso; omega)
    | rfl
    | (simp only [Int.natCast_add, Int.natCast_mul, Int.natCast_emod, Int.natCast_ofNat]; rfl)
set_option maxHeartbeats 2000000 in
set_option maxRecDepth 1000000 in
theorem slow_F1_short (n x0 x1 x2 x3 b off cap : Nat) (w : World) (h1 : ¬ ((n : Int) < 1)) (hz0 : (0 : Int) < (n : Int)) (hn : (n : Int) < 4) (hb : b < w.heap.size) (l0 : x0 < 256) (l1 : x1 < 256) (l2 : x2 < 256) (l3 : x3 < 256)
    (hs0 : w.cell? ⟨b, off, none⟩ = some (.int .u8 (x0 : Int))) (hc0 : w.cell? ⟨0, x0, none⟩ = some (.int .u8 4))
    (ha0 : w.cell? ⟨1, 0, none⟩ = some (.int .u8 128)) (ha1 : w.cell? ⟨1, 1, none⟩ = some (.int .u8 191)) :
    Calls Tryd.prog 42 #[.slice (some ⟨b, off, none⟩) n cap] w (Gives (slowN n x0 x1 x2 x3 4 128 191) w) := by
  go_enter Tryd.func42, Tryd.ntmps42
  go_wp2
  all_goals (go_ret2; refine ⟨?_, (Below.refl _ _).alloc (Nat.le_refl _) _⟩)
  all_goals (unfold slowN; repeat' split)
  all_goals first
    | (exfalso; omega)
    | rfl
    | (simp only [Int.natCast_add, Int.natCast_mul, Int.natCast_emod, Int.natCast_ofNat]; rfl)
set_option maxHeartbeats 2000000 in
set_option maxRecDepth 1000000 in
theorem slow_F1_long (n x0 x1 x2 x3 b off cap : Nat) (w : World) (h1 : ¬ ((n : Int) < 1)) (hz0 : (0 : Int) < (n : Int)) (hz1 : (1 : Int) < (n : Int)) (hz2 : (2 : Int) < (n : Int)) (hz3 : (3 : Int) < (n : Int)) (hs1 : w.cell? ⟨b, off + 1, none⟩ = some (.int .u8 (x1 : Int))) (hs2 : w.cell? ⟨b, off + 2, none⟩ = some (.int .u8 (x2 : Int))) (hs3 : w.cell? ⟨b, off + 3, none⟩ = some (.int .u8 (x3 : Int))) (hb : b < w.heap.size) (l0 : x0 < 256) (l1 : x1 < 256) (l2 : x2 < 256) (l3 : x3 < 256)
    (hs0 : w.cell? ⟨b, off, none⟩ = some (.int .u8 (x0 : Int))) (hc0 : w.cell? ⟨0, x0, none⟩ = some (.int .u8 4))
    (ha0 : w.cell? ⟨1, 0, none⟩ = some (.int .u8 128)) (ha1 : w.cell? ⟨1, 1, none⟩ = some (.int .u8 191)) :
    Calls Tryd.prog 42 #[.slice (some ⟨b, off, none⟩) n cap] w (Gives (slowN n x0 x1 x2 x3 4 128 191) w) := by
  go_enter Tryd.func42, Tryd.ntmps42
  go_wp2
  all_goals (go_ret2; refine ⟨?_, (Below.refl _ _).alloc (Nat.le_refl _) _⟩)
  all_goals (unfold slowN; repeat' split)
  all_goals first
    | (exfalso; omega)
    | rfl
    | (simp only [Int.natCast_add, Int.natCast_mul, Int.natCast_emod, Int.natCast_ofNat]; rfl)
set_option maxHeartbeats 2000000 in
set_option maxRecDepth 1000000 in
theorem slow_F4_short (n x0 x1 x2 x3 b off cap : Nat) (w : World) (h1 : ¬ ((n : Int) < 1)) (hz0 : (0 : Int) < (n : Int)) (hn : (n : Int) < 4) (hb : b < w.heap.size) (l0 : x0 < 256) (l1 : x1 < 256) (l2 : x2 < 256) (l3 : x3 < 256)
    (hs0 : w.cell? ⟨b, off, none⟩ = some (.int .u8 (x0 : Int))) (hc0 : w.cell? ⟨0, x0, none⟩ = some (.int .u8 68))
    (ha0 : w.cell? ⟨1, 8, none⟩ = some (.int .u8 128)) (ha1 : w.cell? ⟨1, 9, none⟩ = some (.int .u8 143)) :
    Calls Tryd.prog 42 #[.slice (some ⟨b, off, none⟩) n cap] w (Gives (slowN n x0 x1 x2 x3 4 128 143) w) := by
  go_enter Tryd.func42, Tryd.ntmps42
  go_wp2
  all_goals (go_ret2; refine ⟨?_, (Below.refl _ _).alloc (Nat.le_refl _) _⟩)
  all_goals (unfold slowN; repeat' split)
  all_goals first
    | (exfalso; omega)
    | rfl
    | (simp only [Int.natCast_add, Int.natCast_mul, Int.natCast_emod, Int.natCast_ofNat]; rfl)
set_option maxHeartbeats 2000000 in
set_option maxRecDepth 1000000 in
theorem slow_F4_long (n x0 x1 x2 x3 b off cap : Nat) (w : World) (h1 : ¬ ((n : Int) < 1)) (hz0 : (0 : Int) < (n : Int)) (hz1 : (1 : Int) < (n : Int)) (hz2 : (2 : Int) < (n : Int)) (hz3 : (3 : Int) < (n : Int)) (hs1 : w.cell? ⟨b, off + 1, none⟩ = some (.int .u8 (x1 : Int))) (hs2 : w.cell? ⟨b, off + 2, none⟩ = some (.int .u8 (x2 : Int))) (hs3 : w.cell? ⟨b, off + 3, none⟩ = some (.int .u8 (x3 : Int))) (hb : b < w.heap.size) (l0 : x0 < 256) (l1 : x1 < 256) (l2 : x2 < 256) (l3 : x3 < 256)
    (hs0 : w.cell? ⟨b, off, none⟩ = some (.int .u8 (x0 : Int))) (hc0 : w.cell? ⟨0, x0, none⟩ = some (.int .u8 68))
    (ha0 : w.cell? ⟨1, 8, none⟩ = some (.int .u8 128)) (ha1 : w.cell? ⟨1, 9, none⟩ = some (.int .u8 143)) :
    Calls Tryd.prog 42 #[.slice (some ⟨b, off, none⟩) n cap] w (Gives (slowN n x0 x1 x2 x3 4 128 143) w) := by
  go_enter Tryd.func42, Tryd.ntmps42
  go_wp2
  all_goals (go_ret2; refine ⟨?_, (Below.refl _ _).alloc (Nat.le_refl _) _⟩)
  all_goals (unfold slowN; repeat' split)
  all_goals first
    | (exfalso; omega)
    | rfl
    | (simp only [Int.natCast_add, Int.natCast_mul, Int.natCast_emod, Int.natCast_ofNat]; rfl)
end Go.Proofs.YtdeaaidbmneplaaDoor.Utf
