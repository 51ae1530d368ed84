/-
  The reference's Count (clewref07), walked: stars, pluses, question marks; what is no quantifier. Conditions: the bytes lie in memory.
-/
import Derived.Test.YtipehpnbfdnehaaGreatDoorMScRCount
set_option linter.unusedVariables false
set_option linter.unusedSimpArgs false
namespace Go.Proofs.YtipehpnbfdnehaaGreatDoor.Sc
open Go.RowKit Go.Proofs.YtipehpnbfdnehaaGreatDoor.Mem
open Go.Proofs.YtipehpnbfdnehaaGreatDoor.Sy (g g_of g_lt isS)

attribute [local go_sem] build_z4 build_r4 Go.Proofs.YtipehpnbfdnehaaGreatDoor.Rs.run_not_true Go.Proofs.YtipehpnbfdnehaaGreatDoor.Rs.run_not_false

set_option maxRecDepth 100000 in
set_option maxHeartbeats 4000000 in
theorem rcount_star (bs : List UInt8) (A : Option Addr) (cap : Nat) (i : Int) (w : World) (hP : PV bs A cap w) (h1 : gz bs i = 42) :
    Calls Tryz.prog 17 #[.slice A bs.length cap, .int .i64 i] w (GivesC (cntz bs i) w) := by
  have hz : Below w.heap.size w (w.alloc (.cells #[.int .i64 0, .int .i64 0, .int .i64 0, .int .i64 0] 45)) := (Below.refl _ w).alloc (Nat.le_refl _) _
  have r0 : ∀ o, ((w.alloc (.cells #[.int .i64 0, .int .i64 0, .int .i64 0, .int .i64 0] 45)).alloc o).cell? ⟨w.heap.size, 0, none⟩ = some (.int .i64 0) := fun o => (cells4 ((Blk.new w _ _).alloc o)).1.1
  have r1 : ∀ o, ((w.alloc (.cells #[.int .i64 0, .int .i64 0, .int .i64 0, .int .i64 0] 45)).alloc o).cell? ⟨w.heap.size, 1, none⟩ = some (.int .i64 0) := fun o => (cells4 ((Blk.new w _ _).alloc o)).1.2.1
  have r2 : ∀ o, ((w.alloc (.cells #[.int .i64 0, .int .i64 0, .int .i64 0, .int .i64 0] 45)).alloc o).cell? ⟨w.heap.size, 2, none⟩ = some (.int .i64 0) := fun o => (cells4 ((Blk.new w _ _).alloc o)).1.2.2.1
  have r3 : ∀ o, ((w.alloc (.cells #[.int .i64 0, .int .i64 0, .int .i64 0, .int .i64 0] 45)).alloc o).cell? ⟨w.heap.size, 3, none⟩ = some (.int .i64 0) := fun o => (cells4 ((Blk.new w _ _).alloc o)).1.2.2.2
  have s0 : ∀ o, ((w.alloc (.cells #[.int .i64 0, .int .i64 0, .int .i64 0, .int .i64 0] 45)).alloc o).frozen? ⟨w.heap.size, 0, none⟩ = false := fun o => (cells4 ((Blk.new w _ _).alloc o)).2.1
  have s1 : ∀ o, ((w.alloc (.cells #[.int .i64 0, .int .i64 0, .int .i64 0, .int .i64 0] 45)).alloc o).frozen? ⟨w.heap.size, 1, none⟩ = false := fun o => (cells4 ((Blk.new w _ _).alloc o)).2.2.1
  have s2 : ∀ o, ((w.alloc (.cells #[.int .i64 0, .int .i64 0, .int .i64 0, .int .i64 0] 45)).alloc o).frozen? ⟨w.heap.size, 2, none⟩ = false := fun o => (cells4 ((Blk.new w _ _).alloc o)).2.2.2.1
  have s3 : ∀ o, ((w.alloc (.cells #[.int .i64 0, .int .i64 0, .int .i64 0, .int .i64 0] 45)).alloc o).frozen? ⟨w.heap.size, 3, none⟩ = false := fun o => (cells4 ((Blk.new w _ _).alloc o)).2.2.2.2
  have HP := hide (fun o => (hP.below hz).below ((Below.refl _ _).alloc (Nat.le_refl _) o))
  have HB := hide (fun o => hz.alloc hz.size o)
  have HK := hide (fun o => (Blk.new w 45 #[.int .i64 0, .int .i64 0, .int .i64 0, .int .i64 0]).alloc o)
  have hroom := hP.room
  have htop := hP.top
  clear hP hz
  have h1k := h1
  obtain ⟨k, hik, hk, h2⟩ := gz_in (bs := bs) (i := i) (by omega)
  rw [h2] at h1
  have HT := hide (show cntz bs i = ⟨0, -1, modeP bs (k + 1), k + 1 + (if modeP bs (k + 1) = 0 then 0 else 1), true, 0⟩ by
    rw [hik]
    unfold cntz cntP countsP
    rw [if_pos (by omega), Int.toNat_natCast]
    simp only [h1]
    rfl)
  subst hik
  have C0 := hide (fun o => rat_e ((unhide HP) o) (i := (k : Int)) (k := k) rfl h1)
  obtain ⟨q, hq⟩ : ∃ q, k + 1 = q := ⟨_, rfl⟩
  rw [hq] at HT
  have hki : (k : Int) + 1 = (q : Int) := by omega
  have hqb : (q : Int) ≤ (bs.length : Int) := by omega
  generalize hii : (k : Int) = i at *
  clear h1 h1k h2 hk hq
  by_cases m1 : g bs q = 63
  · have hq1 := g_in (bs := bs) (k := q) (by omega)
    have hqi : (q : Int) < (bs.length : Int) := by omega
    have HQ := hide (show cntz bs i = ⟨0, -1, 1, q + 1, true, 0⟩ by rw [unhide HT]; unfold modeP; rw [if_pos m1]; rfl)
    have D1 := hide (fun o => rat_e ((unhide HP) o) (i := (q : Int)) (k := q) rfl m1)
    clear m1 hq1 HT
    go_enter Tryz.func17, Tryz.ntmps17
    go_wp2_with fail
    refine ((unhide C0) _).mono ?_
    rintro e w9 ⟨rfl, hw9⟩
    obtain rfl : _ = w9 := hw9.symm
    go_wp2_with fail
    refine ((unhide D1) _).mono ?_
    rintro e w9 ⟨rfl, hw9⟩
    obtain rfl : _ = w9 := hw9.symm
    go_wp2_with fail
    (try simp only [Exit.inBlock, Exit.then])
    exact bodyPost_ret (results_cell3 rfl _ _ w.heap.size _ _ _ _ rfl rfl rfl ((Blk.new _ _ _).alloc _) Tryz.underlying45 rfl (by kernel_rfl)) rfl ⟨by rw [unhide HQ]; rfl, ((Below.refl _ _).alloc (Nat.le_refl _) _).alloc (by simp) _⟩
  · by_cases m2 : g bs q = 43
    · have hq1 := g_in (bs := bs) (k := q) (by omega)
      have hqi : (q : Int) < (bs.length : Int) := by omega
      have HQ := hide (show cntz bs i = ⟨0, -1, 2, q + 1, true, 0⟩ by rw [unhide HT]; unfold modeP; rw [if_neg m1, if_pos m2]; rfl)
      have D1 := hide (fun o => rat_e ((unhide HP) o) (i := (q : Int)) (k := q) rfl m2)
      clear m1 m2 hq1 HT
      go_enter Tryz.func17, Tryz.ntmps17
      go_wp2_with fail
      refine ((unhide C0) _).mono ?_
      rintro e w9 ⟨rfl, hw9⟩
      obtain rfl : _ = w9 := hw9.symm
      go_wp2_with fail
      refine ((unhide D1) _).mono ?_
      rintro e w9 ⟨rfl, hw9⟩
      obtain rfl : _ = w9 := hw9.symm
      go_wp2_with fail
      refine ((unhide D1) _).mono ?_
      rintro e w9 ⟨rfl, hw9⟩
      obtain rfl : _ = w9 := hw9.symm
      go_wp2_with fail
      (try simp only [Exit.inBlock, Exit.then])
      exact bodyPost_ret (results_cell3 rfl _ _ w.heap.size _ _ _ _ rfl rfl rfl ((Blk.new _ _ _).alloc _) Tryz.underlying45 rfl (by kernel_rfl)) rfl ⟨by rw [unhide HQ]; rfl, ((Below.refl _ _).alloc (Nat.le_refl _) _).alloc (by simp) _⟩
    · have HQ := hide (show cntz bs i = ⟨0, -1, 0, q, true, 0⟩ by rw [unhide HT]; unfold modeP; rw [if_neg m1, if_neg m2]; rfl)
      have D1 := hide (fun o => rat_nat bs A cap q _ ((unhide HP) o))
      obtain ⟨y, hy⟩ : ∃ y, g bs q = y := ⟨_, rfl⟩
      rw [hy] at D1 m1 m2
      have e63 : ((y : Int) == 63) = false := by rw [beq_eq_false_iff_ne]; omega
      have e43 : ((y : Int) == 43) = false := by rw [beq_eq_false_iff_ne]; omega
      clear m1 m2 hy HT
      go_enter Tryz.func17, Tryz.ntmps17
      go_wp2_with fail
      refine ((unhide C0) _).mono ?_
      rintro e w9 ⟨rfl, hw9⟩
      obtain rfl : _ = w9 := hw9.symm
      go_wp2_with fail
      refine ((unhide D1) _).mono ?_
      rintro e w9 ⟨rfl, hw9⟩
      obtain rfl : _ = w9 := hw9.symm
      go_wp2_with fail
      refine ((unhide D1) _).mono ?_
      rintro e w9 ⟨rfl, hw9⟩
      obtain rfl : _ = w9 := hw9.symm
      go_wp2_with fail
      (try simp only [Exit.inBlock, Exit.then])
      exact bodyPost_ret (results_cell3 rfl _ _ w.heap.size _ _ _ _ rfl rfl rfl ((Blk.new _ _ _).alloc _) Tryz.underlying45 rfl (by kernel_rfl)) rfl ⟨by rw [unhide HQ]; rfl, ((Below.refl _ _).alloc (Nat.le_refl _) _).alloc (by simp) _⟩
set_option maxRecDepth 100000 in
set_option maxHeartbeats 4000000 in
theorem rcount_plus (bs : List UInt8) (A : Option Addr) (cap : Nat) (i : Int) (w : World) (hP : PV bs A cap w) (h1 : gz bs i = 43) :
    Calls Tryz.prog 17 #[.slice A bs.length cap, .int .i64 i] w (GivesC (cntz bs i) w) := by
  have hz : Below w.heap.size w (w.alloc (.cells #[.int .i64 0, .int .i64 0, .int .i64 0, .int .i64 0] 45)) := (Below.refl _ w).alloc (Nat.le_refl _) _
  have r0 : ∀ o, ((w.alloc (.cells #[.int .i64 0, .int .i64 0, .int .i64 0, .int .i64 0] 45)).alloc o).cell? ⟨w.heap.size, 0, none⟩ = some (.int .i64 0) := fun o => (cells4 ((Blk.new w _ _).alloc o)).1.1
  have r1 : ∀ o, ((w.alloc (.cells #[.int .i64 0, .int .i64 0, .int .i64 0, .int .i64 0] 45)).alloc o).cell? ⟨w.heap.size, 1, none⟩ = some (.int .i64 0) := fun o => (cells4 ((Blk.new w _ _).alloc o)).1.2.1
  have r2 : ∀ o, ((w.alloc (.cells #[.int .i64 0, .int .i64 0, .int .i64 0, .int .i64 0] 45)).alloc o).cell? ⟨w.heap.size, 2, none⟩ = some (.int .i64 0) := fun o => (cells4 ((Blk.new w _ _).alloc o)).1.2.2.1
  have r3 : ∀ o, ((w.alloc (.cells #[.int .i64 0, .int .i64 0, .int .i64 0, .int .i64 0] 45)).alloc o).cell? ⟨w.heap.size, 3, none⟩ = some (.int .i64 0) := fun o => (cells4 ((Blk.new w _ _).alloc o)).1.2.2.2
  have s0 : ∀ o, ((w.alloc (.cells #[.int .i64 0, .int .i64 0, .int .i64 0, .int .i64 0] 45)).alloc o).frozen? ⟨w.heap.size, 0, none⟩ = false := fun o => (cells4 ((Blk.new w _ _).alloc o)).2.1
  have s1 : ∀ o, ((w.alloc (.cells #[.int .i64 0, .int .i64 0, .int .i64 0, .int .i64 0] 45)).alloc o).frozen? ⟨w.heap.size, 1, none⟩ = false := fun o => (cells4 ((Blk.new w _ _).alloc o)).2.2.1
  have s2 : ∀ o, ((w.alloc (.cells #[.int .i64 0, .int .i64 0, .int .i64 0, .int .i64 0] 45)).alloc o).frozen? ⟨w.heap.size, 2, none⟩ = false := fun o => (cells4 ((Blk.new w _ _).alloc o)).2.2.2.1
  have s3 : ∀ o, ((w.alloc (.cells #[.int .i64 0, .int .i64 0, .int .i64 0, .int .i64 0] 45)).alloc o).frozen? ⟨w.heap.size, 3, none⟩ = false := fun o => (cells4 ((Blk.new w _ _).alloc o)).2.2.2.2
  have HP := hide (fun o => (hP.below hz).below ((Below.refl _ _).alloc (Nat.le_refl _) o))
  have HB := hide (fun o => hz.alloc hz.size o)
  have HK := hide (fun o => (Blk.new w 45 #[.int .i64 0, .int .i64 0, .int .i64 0, .int .i64 0]).alloc o)
  have hroom := hP.room
  have htop := hP.top
  clear hP hz
  have h1k := h1
  obtain ⟨k, hik, hk, h2⟩ := gz_in (bs := bs) (i := i) (by omega)
  rw [h2] at h1
  have HT := hide (show cntz bs i = ⟨1, -1, modeP bs (k + 1), k + 1 + (if modeP bs (k + 1) = 0 then 0 else 1), true, 0⟩ by
    rw [hik]
    unfold cntz cntP countsP
    rw [if_pos (by omega), Int.toNat_natCast]
    simp only [h1]
    rfl)
  subst hik
  have C0 := hide (fun o => rat_e ((unhide HP) o) (i := (k : Int)) (k := k) rfl h1)
  obtain ⟨q, hq⟩ : ∃ q, k + 1 = q := ⟨_, rfl⟩
  rw [hq] at HT
  have hki : (k : Int) + 1 = (q : Int) := by omega
  have hqb : (q : Int) ≤ (bs.length : Int) := by omega
  generalize hii : (k : Int) = i at *
  clear h1 h1k h2 hk hq
  by_cases m1 : g bs q = 63
  · have hq1 := g_in (bs := bs) (k := q) (by omega)
    have hqi : (q : Int) < (bs.length : Int) := by omega
    have HQ := hide (show cntz bs i = ⟨1, -1, 1, q + 1, true, 0⟩ by rw [unhide HT]; unfold modeP; rw [if_pos m1]; rfl)
    have D1 := hide (fun o => rat_e ((unhide HP) o) (i := (q : Int)) (k := q) rfl m1)
    clear m1 hq1 HT
    go_enter Tryz.func17, Tryz.ntmps17
    go_wp2_with fail
    refine ((unhide C0) _).mono ?_
    rintro e w9 ⟨rfl, hw9⟩
    obtain rfl : _ = w9 := hw9.symm
    go_wp2_with fail
    refine ((unhide D1) _).mono ?_
    rintro e w9 ⟨rfl, hw9⟩
    obtain rfl : _ = w9 := hw9.symm
    go_wp2_with fail
    (try simp only [Exit.inBlock, Exit.then])
    exact bodyPost_ret (results_cell3 rfl _ _ w.heap.size _ _ _ _ rfl rfl rfl ((Blk.new _ _ _).alloc _) Tryz.underlying45 rfl (by kernel_rfl)) rfl ⟨by rw [unhide HQ]; rfl, ((Below.refl _ _).alloc (Nat.le_refl _) _).alloc (by simp) _⟩
  · by_cases m2 : g bs q = 43
    · have hq1 := g_in (bs := bs) (k := q) (by omega)
      have hqi : (q : Int) < (bs.length : Int) := by omega
      have HQ := hide (show cntz bs i = ⟨1, -1, 2, q + 1, true, 0⟩ by rw [unhide HT]; unfold modeP; rw [if_neg m1, if_pos m2]; rfl)
      have D1 := hide (fun o => rat_e ((unhide HP) o) (i := (q : Int)) (k := q) rfl m2)
      clear m1 m2 hq1 HT
      go_enter Tryz.func17, Tryz.ntmps17
      go_wp2_with fail
      refine ((unhide C0) _).mono ?_
      rintro e w9 ⟨rfl, hw9⟩
      obtain rfl : _ = w9 := hw9.symm
      go_wp2_with fail
      refine ((unhide D1) _).mono ?_
      rintro e w9 ⟨rfl, hw9⟩
      obtain rfl : _ = w9 := hw9.symm
      go_wp2_with fail
      refine ((unhide D1) _).mono ?_
      rintro e w9 ⟨rfl, hw9⟩
      obtain rfl : _ = w9 := hw9.symm
      go_wp2_with fail
      (try simp only [Exit.inBlock, Exit.then])
      exact bodyPost_ret (results_cell3 rfl _ _ w.heap.size _ _ _ _ rfl rfl rfl ((Blk.new _ _ _).alloc _) Tryz.underlying45 rfl (by kernel_rfl)) rfl ⟨by rw [unhide HQ]; rfl, ((Below.refl _ _).alloc (Nat.le_refl _) _).alloc (by simp) _⟩
    · have HQ := hide (show cntz bs i = ⟨1, -1, 0, q, true, 0⟩ by rw [unhide HT]; unfold modeP; rw [if_neg m1, if_neg m2]; rfl)
      have D1 := hide (fun o => rat_nat bs A cap q _ ((unhide HP) o))
      obtain ⟨y, hy⟩ : ∃ y, g bs q = y := ⟨_, rfl⟩
      rw [hy] at D1 m1 m2
      have e63 : ((y : Int) == 63) = false := by rw [beq_eq_false_iff_ne]; omega
      have e43 : ((y : Int) == 43) = false := by rw [beq_eq_false_iff_ne]; omega
      clear m1 m2 hy HT
      go_enter Tryz.func17, Tryz.ntmps17
      go_wp2_with fail
      refine ((unhide C0) _).mono ?_
      rintro e w9 ⟨rfl, hw9⟩
      obtain rfl : _ = w9 := hw9.symm
      go_wp2_with fail
      refine ((unhide D1) _).mono ?_
      rintro e w9 ⟨rfl, hw9⟩
      obtain rfl : _ = w9 := hw9.symm
      go_wp2_with fail
      refine ((unhide D1) _).mono ?_
      rintro e w9 ⟨rfl, hw9⟩
      obtain rfl : _ = w9 := hw9.symm
      go_wp2_with fail
      (try simp only [Exit.inBlock, Exit.then])
      exact bodyPost_ret (results_cell3 rfl _ _ w.heap.size _ _ _ _ rfl rfl rfl ((Blk.new _ _ _).alloc _) Tryz.underlying45 rfl (by kernel_rfl)) rfl ⟨by rw [unhide HQ]; rfl, ((Below.refl _ _).alloc (Nat.le_refl _) _).alloc (by simp) _⟩
set_option maxRecDepth 100000 in
set_option maxHeartbeats 4000000 in
theorem rcount_mark (bs : List UInt8) (A : Option Addr) (cap : Nat) (i : Int) (w : World) (hP : PV bs A cap w) (h1 : gz bs i = 63) :
    Calls Tryz.prog 17 #[.slice A bs.length cap, .int .i64 i] w (GivesC (cntz bs i) w) := by
  have hz : Below w.heap.size w (w.alloc (.cells #[.int .i64 0, .int .i64 0, .int .i64 0, .int .i64 0] 45)) := (Below.refl _ w).alloc (Nat.le_refl _) _
  have r0 : ∀ o, ((w.alloc (.cells #[.int .i64 0, .int .i64 0, .int .i64 0, .int .i64 0] 45)).alloc o).cell? ⟨w.heap.size, 0, none⟩ = some (.int .i64 0) := fun o => (cells4 ((Blk.new w _ _).alloc o)).1.1
  have r1 : ∀ o, ((w.alloc (.cells #[.int .i64 0, .int .i64 0, .int .i64 0, .int .i64 0] 45)).alloc o).cell? ⟨w.heap.size, 1, none⟩ = some (.int .i64 0) := fun o => (cells4 ((Blk.new w _ _).alloc o)).1.2.1
  have r2 : ∀ o, ((w.alloc (.cells #[.int .i64 0, .int .i64 0, .int .i64 0, .int .i64 0] 45)).alloc o).cell? ⟨w.heap.size, 2, none⟩ = some (.int .i64 0) := fun o => (cells4 ((Blk.new w _ _).alloc o)).1.2.2.1
  have r3 : ∀ o, ((w.alloc (.cells #[.int .i64 0, .int .i64 0, .int .i64 0, .int .i64 0] 45)).alloc o).cell? ⟨w.heap.size, 3, none⟩ = some (.int .i64 0) := fun o => (cells4 ((Blk.new w _ _).alloc o)).1.2.2.2
  have s0 : ∀ o, ((w.alloc (.cells #[.int .i64 0, .int .i64 0, .int .i64 0, .int .i64 0] 45)).alloc o).frozen? ⟨w.heap.size, 0, none⟩ = false := fun o => (cells4 ((Blk.new w _ _).alloc o)).2.1
  have s1 : ∀ o, ((w.alloc (.cells #[.int .i64 0, .int .i64 0, .int .i64 0, .int .i64 0] 45)).alloc o).frozen? ⟨w.heap.size, 1, none⟩ = false := fun o => (cells4 ((Blk.new w _ _).alloc o)).2.2.1
  have s2 : ∀ o, ((w.alloc (.cells #[.int .i64 0, .int .i64 0, .int .i64 0, .int .i64 0] 45)).alloc o).frozen? ⟨w.heap.size, 2, none⟩ = false := fun o => (cells4 ((Blk.new w _ _).alloc o)).2.2.2.1
  have s3 : ∀ o, ((w.alloc (.cells #[.int .i64 0, .int .i64 0, .int .i64 0, .int .i64 0] 45)).alloc o).frozen? ⟨w.heap.size, 3, none⟩ = false := fun o => (cells4 ((Blk.new w _ _).alloc o)).2.2.2.2
  have HP := hide (fun o => (hP.below hz).below ((Below.refl _ _).alloc (Nat.le_refl _) o))
  have HB := hide (fun o => hz.alloc hz.size o)
  have HK := hide (fun o => (Blk.new w 45 #[.int .i64 0, .int .i64 0, .int .i64 0, .int .i64 0]).alloc o)
  have hroom := hP.room
  have htop := hP.top
  clear hP hz
  have h1k := h1
  obtain ⟨k, hik, hk, h2⟩ := gz_in (bs := bs) (i := i) (by omega)
  rw [h2] at h1
  have HT := hide (show cntz bs i = ⟨0, 1, modeP bs (k + 1), k + 1 + (if modeP bs (k + 1) = 0 then 0 else 1), true, 0⟩ by
    rw [hik]
    unfold cntz cntP countsP
    rw [if_pos (by omega), Int.toNat_natCast]
    simp only [h1]
    rfl)
  subst hik
  have C0 := hide (fun o => rat_e ((unhide HP) o) (i := (k : Int)) (k := k) rfl h1)
  obtain ⟨q, hq⟩ : ∃ q, k + 1 = q := ⟨_, rfl⟩
  rw [hq] at HT
  have hki : (k : Int) + 1 = (q : Int) := by omega
  have hqb : (q : Int) ≤ (bs.length : Int) := by omega
  generalize hii : (k : Int) = i at *
  clear h1 h1k h2 hk hq
  by_cases m1 : g bs q = 63
  · have hq1 := g_in (bs := bs) (k := q) (by omega)
    have hqi : (q : Int) < (bs.length : Int) := by omega
    have HQ := hide (show cntz bs i = ⟨0, 1, 1, q + 1, true, 0⟩ by rw [unhide HT]; unfold modeP; rw [if_pos m1]; rfl)
    have D1 := hide (fun o => rat_e ((unhide HP) o) (i := (q : Int)) (k := q) rfl m1)
    clear m1 hq1 HT
    go_enter Tryz.func17, Tryz.ntmps17
    go_wp2_with fail
    refine ((unhide C0) _).mono ?_
    rintro e w9 ⟨rfl, hw9⟩
    obtain rfl : _ = w9 := hw9.symm
    go_wp2_with fail
    refine ((unhide D1) _).mono ?_
    rintro e w9 ⟨rfl, hw9⟩
    obtain rfl : _ = w9 := hw9.symm
    go_wp2_with fail
    (try simp only [Exit.inBlock, Exit.then])
    exact bodyPost_ret (results_cell3 rfl _ _ w.heap.size _ _ _ _ rfl rfl rfl ((Blk.new _ _ _).alloc _) Tryz.underlying45 rfl (by kernel_rfl)) rfl ⟨by rw [unhide HQ]; rfl, ((Below.refl _ _).alloc (Nat.le_refl _) _).alloc (by simp) _⟩
  · by_cases m2 : g bs q = 43
    · have hq1 := g_in (bs := bs) (k := q) (by omega)
      have hqi : (q : Int) < (bs.length : Int) := by omega
      have HQ := hide (show cntz bs i = ⟨0, 1, 2, q + 1, true, 0⟩ by rw [unhide HT]; unfold modeP; rw [if_neg m1, if_pos m2]; rfl)
      have D1 := hide (fun o => rat_e ((unhide HP) o) (i := (q : Int)) (k := q) rfl m2)
      clear m1 m2 hq1 HT
      go_enter Tryz.func17, Tryz.ntmps17
      go_wp2_with fail
      refine ((unhide C0) _).mono ?_
      rintro e w9 ⟨rfl, hw9⟩
      obtain rfl : _ = w9 := hw9.symm
      go_wp2_with fail
      refine ((unhide D1) _).mono ?_
      rintro e w9 ⟨rfl, hw9⟩
      obtain rfl : _ = w9 := hw9.symm
      go_wp2_with fail
      refine ((unhide D1) _).mono ?_
      rintro e w9 ⟨rfl, hw9⟩
      obtain rfl : _ = w9 := hw9.symm
      go_wp2_with fail
      (try simp only [Exit.inBlock, Exit.then])
      exact bodyPost_ret (results_cell3 rfl _ _ w.heap.size _ _ _ _ rfl rfl rfl ((Blk.new _ _ _).alloc _) Tryz.underlying45 rfl (by kernel_rfl)) rfl ⟨by rw [unhide HQ]; rfl, ((Below.refl _ _).alloc (Nat.le_refl _) _).alloc (by simp) _⟩
    · have HQ := hide (show cntz bs i = ⟨0, 1, 0, q, true, 0⟩ by rw [unhide HT]; unfold modeP; rw [if_neg m1, if_neg m2]; rfl)
      have D1 := hide (fun o => rat_nat bs A cap q _ ((unhide HP) o))
      obtain ⟨y, hy⟩ : ∃ y, g bs q = y := ⟨_, rfl⟩
      rw [hy] at D1 m1 m2
      have e63 : ((y : Int) == 63) = false := by rw [beq_eq_false_iff_ne]; omega
      have e43 : ((y : Int) == 43) = false := by rw [beq_eq_false_iff_ne]; omega
      clear m1 m2 hy HT
      go_enter Tryz.func17, Tryz.ntmps17
      go_wp2_with fail
      refine ((unhide C0) _).mono ?_
      rintro e w9 ⟨rfl, hw9⟩
      obtain rfl : _ = w9 := hw9.symm
      go_wp2_with fail
      refine ((unhide D1) _).mono ?_
      rintro e w9 ⟨rfl, hw9⟩
      obtain rfl : _ = w9 := hw9.symm
      go_wp2_with fail
      refine ((unhide D1) _).mono ?_
      rintro e w9 ⟨rfl, hw9⟩
      obtain rfl : _ = w9 := hw9.symm
      go_wp2_with fail
      (try simp only [Exit.inBlock, Exit.then])
      exact bodyPost_ret (results_cell3 rfl _ _ w.heap.size _ _ _ _ rfl rfl rfl ((Blk.new _ _ _).alloc _) Tryz.underlying45 rfl (by kernel_rfl)) rfl ⟨by rw [unhide HQ]; rfl, ((Below.refl _ _).alloc (Nat.le_refl _) _).alloc (by simp) _⟩
set_option maxRecDepth 100000 in
set_option maxHeartbeats 4000000 in
theorem rcount_none (bs : List UInt8) (A : Option Addr) (cap : Nat) (i : Int) (w : World) (hP : PV bs A cap w) (h1 : gz bs i ≠ 42) (h2 : gz bs i ≠ 43) (h3 : gz bs i ≠ 63) (h4 : gz bs i ≠ 123) :
    Calls Tryz.prog 17 #[.slice A bs.length cap, .int .i64 i] w (GivesC (cntz bs i) w) := by
  have hz : Below w.heap.size w (w.alloc (.cells #[.int .i64 0, .int .i64 0, .int .i64 0, .int .i64 0] 45)) := (Below.refl _ w).alloc (Nat.le_refl _) _
  have r0 : ∀ o, ((w.alloc (.cells #[.int .i64 0, .int .i64 0, .int .i64 0, .int .i64 0] 45)).alloc o).cell? ⟨w.heap.size, 0, none⟩ = some (.int .i64 0) := fun o => (cells4 ((Blk.new w _ _).alloc o)).1.1
  have r1 : ∀ o, ((w.alloc (.cells #[.int .i64 0, .int .i64 0, .int .i64 0, .int .i64 0] 45)).alloc o).cell? ⟨w.heap.size, 1, none⟩ = some (.int .i64 0) := fun o => (cells4 ((Blk.new w _ _).alloc o)).1.2.1
  have r2 : ∀ o, ((w.alloc (.cells #[.int .i64 0, .int .i64 0, .int .i64 0, .int .i64 0] 45)).alloc o).cell? ⟨w.heap.size, 2, none⟩ = some (.int .i64 0) := fun o => (cells4 ((Blk.new w _ _).alloc o)).1.2.2.1
  have r3 : ∀ o, ((w.alloc (.cells #[.int .i64 0, .int .i64 0, .int .i64 0, .int .i64 0] 45)).alloc o).cell? ⟨w.heap.size, 3, none⟩ = some (.int .i64 0) := fun o => (cells4 ((Blk.new w _ _).alloc o)).1.2.2.2
  have s0 : ∀ o, ((w.alloc (.cells #[.int .i64 0, .int .i64 0, .int .i64 0, .int .i64 0] 45)).alloc o).frozen? ⟨w.heap.size, 0, none⟩ = false := fun o => (cells4 ((Blk.new w _ _).alloc o)).2.1
  have s1 : ∀ o, ((w.alloc (.cells #[.int .i64 0, .int .i64 0, .int .i64 0, .int .i64 0] 45)).alloc o).frozen? ⟨w.heap.size, 1, none⟩ = false := fun o => (cells4 ((Blk.new w _ _).alloc o)).2.2.1
  have s2 : ∀ o, ((w.alloc (.cells #[.int .i64 0, .int .i64 0, .int .i64 0, .int .i64 0] 45)).alloc o).frozen? ⟨w.heap.size, 2, none⟩ = false := fun o => (cells4 ((Blk.new w _ _).alloc o)).2.2.2.1
  have s3 : ∀ o, ((w.alloc (.cells #[.int .i64 0, .int .i64 0, .int .i64 0, .int .i64 0] 45)).alloc o).frozen? ⟨w.heap.size, 3, none⟩ = false := fun o => (cells4 ((Blk.new w _ _).alloc o)).2.2.2.2
  have HP := hide (fun o => (hP.below hz).below ((Below.refl _ _).alloc (Nat.le_refl _) o))
  have HB := hide (fun o => hz.alloc hz.size o)
  have HK := hide (fun o => (Blk.new w 45 #[.int .i64 0, .int .i64 0, .int .i64 0, .int .i64 0]).alloc o)
  have hroom := hP.room
  have htop := hP.top
  have HQ := hide (cntz_none (countsz_none h1 h2 h3 h4))
  have C0 := hide (fun o => rat_any bs A cap i _ ((unhide HP) o))
  generalize gz bs i = x at *
  have e1 : ((x : Int) == 43) = false := by rw [beq_eq_false_iff_ne]; omega
  have e2 : ((x : Int) == 63) = false := by rw [beq_eq_false_iff_ne]; omega
  have e3 : ((x : Int) == 123) = false := by rw [beq_eq_false_iff_ne]; omega
  have e4 : ((x : Int) != 42) = true := by simp; omega
  have e5 : ((x : Int) != 43) = true := by simp; omega
  have e6 : ((x : Int) != 63) = true := by simp; omega
  clear hP hz h1 h2 h3 h4
  go_enter Tryz.func17, Tryz.ntmps17
  go_wp2_with fail
  refine ((unhide C0) _).mono ?_
  rintro e w9 ⟨rfl, hw9⟩
  obtain rfl : _ = w9 := hw9.symm
  go_wp2_with fail
  (try simp only [Exit.inBlock, Exit.then])
  exact bodyPost_ret (results_cell3 rfl _ _ w.heap.size _ _ _ _ rfl rfl rfl ((Blk.new _ _ _).alloc _) Tryz.underlying45 rfl (by kernel_rfl)) rfl ⟨by rw [unhide HQ]; rfl, ((Below.refl _ _).alloc (Nat.le_refl _) _).alloc (by simp) _⟩
end Go.Proofs.YtipehpnbfdnehaaGreatDoor.Sc
