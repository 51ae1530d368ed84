/-
  The reference's Count (clewref07), walked: braces; all of it. Conditions: the bytes lie in memory.
-/
import Derived.Test.YtipehpnbfdnehaaGreatDoorMScRCount2
set_option linter.unusedVariables false
set_option linter.unusedSimpArgs false
namespace Go.Proofs.YtipehpnbfdnehaaGreatDoor.Sc
open Go.RowKit Go.Proofs.YtipehpnbfdnehaaGreatDoor.Mem
open Go.Proofs.YtipehpnbfdnehaaGreatDoor.Sy (g g_of g_lt isS)

attribute [local go_sem] build_z4 build_r4 Go.Proofs.YtipehpnbfdnehaaGreatDoor.Rs.run_not_true Go.Proofs.YtipehpnbfdnehaaGreatDoor.Rs.run_not_false

theorem cntz_brace {bs : List UInt8} {k : Nat} (h1 : g bs k = 123) : cntz bs (k : Int) = match bracesP bs (k + 1) with
    | none => ⟨0, 0, 0, 0, false, 0⟩
    | some (lo, hi, q) => if okC lo hi then ⟨lo, hi, modeP bs q, q + (if modeP bs q = 0 then 0 else 1), true, 0⟩ else ⟨0, 0, 0, 0, false, 34⟩ := by
  unfold cntz cntP countsP
  rw [if_pos (by omega), Int.toNat_natCast]
  simp only [h1]
  rfl
set_option maxRecDepth 100000 in
set_option maxHeartbeats 16000000 in
theorem rcount_brace (bs : List UInt8) (A : Option Addr) (cap : Nat) (i : Int) (w : World) (hP : PV bs A cap w) (h1 : gz bs i = 123) :
    Calls Tryz.prog 17 #[.slice A bs.length cap, .int .i64 i] w (GivesC (cntz bs i) w) := by
  have hz : Below w.heap.size w (w.alloc (.cells #[.int .i64 0, .int .i64 0, .int .i64 0, .int .i64 0] 45)) := (Below.refl _ w).alloc (Nat.le_refl _) _
  have r0 : ∀ o, ((w.alloc (.cells #[.int .i64 0, .int .i64 0, .int .i64 0, .int .i64 0] 45)).alloc o).cell? ⟨w.heap.size, 0, none⟩ = some (.int .i64 0) := fun o => (cells4 ((Blk.new w _ _).alloc o)).1.1
  have r1 : ∀ o, ((w.alloc (.cells #[.int .i64 0, .int .i64 0, .int .i64 0, .int .i64 0] 45)).alloc o).cell? ⟨w.heap.size, 1, none⟩ = some (.int .i64 0) := fun o => (cells4 ((Blk.new w _ _).alloc o)).1.2.1
  have r2 : ∀ o, ((w.alloc (.cells #[.int .i64 0, .int .i64 0, .int .i64 0, .int .i64 0] 45)).alloc o).cell? ⟨w.heap.size, 2, none⟩ = some (.int .i64 0) := fun o => (cells4 ((Blk.new w _ _).alloc o)).1.2.2.1
  have r3 : ∀ o, ((w.alloc (.cells #[.int .i64 0, .int .i64 0, .int .i64 0, .int .i64 0] 45)).alloc o).cell? ⟨w.heap.size, 3, none⟩ = some (.int .i64 0) := fun o => (cells4 ((Blk.new w _ _).alloc o)).1.2.2.2
  have s0 : ∀ o, ((w.alloc (.cells #[.int .i64 0, .int .i64 0, .int .i64 0, .int .i64 0] 45)).alloc o).frozen? ⟨w.heap.size, 0, none⟩ = false := fun o => (cells4 ((Blk.new w _ _).alloc o)).2.1
  have s1 : ∀ o, ((w.alloc (.cells #[.int .i64 0, .int .i64 0, .int .i64 0, .int .i64 0] 45)).alloc o).frozen? ⟨w.heap.size, 1, none⟩ = false := fun o => (cells4 ((Blk.new w _ _).alloc o)).2.2.1
  have s2 : ∀ o, ((w.alloc (.cells #[.int .i64 0, .int .i64 0, .int .i64 0, .int .i64 0] 45)).alloc o).frozen? ⟨w.heap.size, 2, none⟩ = false := fun o => (cells4 ((Blk.new w _ _).alloc o)).2.2.2.1
  have s3 : ∀ o, ((w.alloc (.cells #[.int .i64 0, .int .i64 0, .int .i64 0, .int .i64 0] 45)).alloc o).frozen? ⟨w.heap.size, 3, none⟩ = false := fun o => (cells4 ((Blk.new w _ _).alloc o)).2.2.2.2
  have HP := hide (fun o => (hP.below hz).below ((Below.refl _ _).alloc (Nat.le_refl _) o))
  have HB := hide (fun o => hz.alloc hz.size o)
  have HK := hide (fun o => (Blk.new w 45 #[.int .i64 0, .int .i64 0, .int .i64 0, .int .i64 0]).alloc o)
  have hroom := hP.room
  have htop := hP.top
  clear hP hz
  obtain ⟨k, hik, hk, h2⟩ := gz_in (bs := bs) (i := i) (by omega)
  rw [h2] at h1
  have HT1 := hide (cntz_brace h1)
  have C0 := hide (fun o => rat_e ((unhide HP) o) (i := (k : Int)) (k := k) rfl h1)
  obtain ⟨p, hp⟩ : ∃ p, k + 1 = p := ⟨_, rfl⟩
  have hki : (k : Int) + 1 = (p : Int) := by omega
  have hpb : (p : Int) ≤ (bs.length : Int) := by omega
  rw [hp] at HT1
  have CN := hide (fun o => rnumber_any bs A cap p _ ((unhide HP) o) (by omega))
  obtain ⟨n, hn⟩ : ∃ n, (decF bs p 0).1 = n := ⟨_, rfl⟩
  obtain ⟨m, hm⟩ : ∃ n, (decF bs p 0).2 = n := ⟨_, rfl⟩
  have hge := decF_ge bs p 0
  rw [hn, hm] at CN hge
  have hm1 : (m : Int) ≤ (bs.length : Int) := by omega
  have hn1 : (n : Int) ≤ 1001 := by omega
  have HBP := hide (show bracesP bs p = if m = p then none else if g bs (mostP bs n m).2 = 125 then some (n, (mostP bs n m).1, (mostP bs n m).2 + 1) else none by unfold bracesP; rw [hn, hm])
  have HIK := hide hik
  rw [← hik] at HT1 C0 hki
  clear h1 h2 hk hp hn hm hik hge HIK
  by_cases a1 : m = p
  · have HQ := hide (show cntz bs i = ⟨0, 0, 0, 0, false, 0⟩ by rw [unhide HT1, (unhide HBP).trans (if_pos a1)])
    have e1 : ((m : Int) == (p : Int)) = true := by rw [beq_iff_eq]; omega
    clear HT1 HBP a1
    go_enter Tryz.func17, Tryz.ntmps17
    go_wp2_with fail
    refine ((unhide C0) _).mono ?_
    rintro e w9 ⟨rfl, hw9⟩
    obtain rfl : _ = w9 := hw9.symm
    go_wp2_with fail
    refine ((unhide CN) _).mono ?_
    rintro e w9 ⟨rfl, hw9⟩
    obtain rfl : _ = w9 := hw9.symm
    go_wp2_with fail
    (try simp only [Exit.inBlock, Exit.then])
    exact bodyPost_ret (results_cell3 rfl _ _ w.heap.size _ _ _ _ rfl rfl rfl ((Blk.new _ _ _).alloc _) Tryz.underlying45 rfl (by kernel_rfl)) rfl ⟨by rw [unhide HQ]; rfl, ((Below.refl _ _).alloc (Nat.le_refl _) _).alloc (by simp) _⟩
  · have e1 : ((m : Int) == (p : Int)) = false := by rw [beq_eq_false_iff_ne]; omega
    have HBP1 := hide ((unhide HBP).trans (if_neg a1))
    clear HBP a1
    by_cases b1 : g bs m = 44
    · have hmi := g_in (bs := bs) (k := m) (by omega)
      have C3 := hide (fun o => rat_e ((unhide HP) o) (i := (m : Int)) (k := m) rfl b1)
      obtain ⟨p2, hp2⟩ : ∃ p, m + 1 = p := ⟨_, rfl⟩
      have hmi2 : (m : Int) + 1 = (p2 : Int) := by omega
      have hp2b : (p2 : Int) ≤ (bs.length : Int) := by omega
      have CN2 := hide (fun o => rnumber_any bs A cap p2 _ ((unhide HP) o) (by omega))
      obtain ⟨n2, hn⟩ : ∃ n, (decF bs p2 0).1 = n := ⟨_, rfl⟩
      obtain ⟨m2, hm⟩ : ∃ n, (decF bs p2 0).2 = n := ⟨_, rfl⟩
      have hge := decF_ge bs p2 0
      rw [hn, hm] at CN2 hge
      have hm2 : (m2 : Int) ≤ (bs.length : Int) := by omega
      have hn2 : (n2 : Int) ≤ 1001 := by omega
      have HM := hide (show mostP bs n m = ((if m2 = p2 then -1 else (n2 : Int)), m2) by unfold mostP; rw [if_pos b1, hp2, hn, hm])
      rw [unhide HM] at HBP1
      simp only [] at HBP1
      clear hmi b1 hp2 hn hm hge HM
      by_cases b2 : m2 = p2
      · have e2 : ((m2 : Int) == (p2 : Int)) = true := by rw [beq_iff_eq]; omega
        rw [if_pos b2] at HBP1
        have HBR := hide (fun h => (unhide HBP1).trans (if_pos h))
        have HBN := hide (fun h => (unhide HBP1).trans (if_neg h))
        clear HBP1 b2
        by_cases z1 : g bs m2 = 125
        · have hpl := g_in (bs := bs) (k := m2) (by omega)
          have C5 := hide (fun o => rat_e ((unhide HP) o) (i := (m2 : Int)) (k := m2) rfl z1)
          obtain ⟨q, hq⟩ : ∃ q, m2 + 1 = q := ⟨_, rfl⟩
          have HT := hide (show cntz bs i = if okC n (-1) then ⟨n, -1, modeP bs q, q + (if modeP bs q = 0 then 0 else 1), true, 0⟩ else ⟨0, 0, 0, 0, false, 34⟩ by rw [unhide HT1, (unhide HBR) z1, hq])
          have hqi : (m2 : Int) + 1 = (q : Int) := by omega
          have hqb : (q : Int) ≤ (bs.length : Int) := by omega
          clear HT1 HBR HBN z1 hpl hq
          by_cases j1 : 1000 < n
          · have f1 : 1000 < (n : Int) := by omega
            clear j1
            have HQ := hide ((unhide HT).trans (if_neg (by unfold okC; simp; omega)))
            clear HT
            go_enter Tryz.func17, Tryz.ntmps17
            go_wp2_with fail
            refine ((unhide C0) _).mono ?_
            rintro e w9 ⟨rfl, hw9⟩
            obtain rfl : _ = w9 := hw9.symm
            go_wp2_with fail
            refine ((unhide CN) _).mono ?_
            rintro e w9 ⟨rfl, hw9⟩
            obtain rfl : _ = w9 := hw9.symm
            go_wp2_with fail
            refine ((unhide C3) _).mono ?_
            rintro e w9 ⟨rfl, hw9⟩
            obtain rfl : _ = w9 := hw9.symm
            go_wp2_with fail
            refine ((unhide CN2) _).mono ?_
            rintro e w9 ⟨rfl, hw9⟩
            obtain rfl : _ = w9 := hw9.symm
            go_wp2_with fail
            refine ((unhide C5) _).mono ?_
            rintro e w9 ⟨rfl, hw9⟩
            obtain rfl : _ = w9 := hw9.symm
            go_wp2_with fail
            (try simp only [Exit.inBlock, Exit.then])
            exact bodyPost_ret (results_cell3 rfl _ _ w.heap.size _ _ _ _ rfl rfl rfl ((Blk.new _ _ _).alloc _) Tryz.underlying45 rfl (by kernel_rfl)) rfl ⟨by rw [unhide HQ]; rfl, ((Below.refl _ _).alloc (Nat.le_refl _) _).alloc (by simp) _⟩
          · have f1 : (n : Int) ≤ 1000 := by omega
            clear j1
            have HT := hide ((unhide HT).trans (if_pos (by unfold okC; simp; omega)))
            by_cases m1 : g bs q = 63
            · have hq1 := g_in (bs := bs) (k := q) (by omega)
              have hqi : (q : Int) < (bs.length : Int) := by omega
              have HQ := hide (show cntz bs i = ⟨n, -1, 1, q + 1, true, 0⟩ by rw [unhide HT]; unfold modeP; rw [if_pos m1]; rfl)
              have D1 := hide (fun o => rat_e ((unhide HP) o) (i := (q : Int)) (k := q) rfl m1)
              clear m1 hq1 HT
              go_enter Tryz.func17, Tryz.ntmps17
              go_wp2_with fail
              refine ((unhide C0) _).mono ?_
              rintro e w9 ⟨rfl, hw9⟩
              obtain rfl : _ = w9 := hw9.symm
              go_wp2_with fail
              refine ((unhide CN) _).mono ?_
              rintro e w9 ⟨rfl, hw9⟩
              obtain rfl : _ = w9 := hw9.symm
              go_wp2_with fail
              refine ((unhide C3) _).mono ?_
              rintro e w9 ⟨rfl, hw9⟩
              obtain rfl : _ = w9 := hw9.symm
              go_wp2_with fail
              refine ((unhide CN2) _).mono ?_
              rintro e w9 ⟨rfl, hw9⟩
              obtain rfl : _ = w9 := hw9.symm
              go_wp2_with fail
              refine ((unhide C5) _).mono ?_
              rintro e w9 ⟨rfl, hw9⟩
              obtain rfl : _ = w9 := hw9.symm
              go_wp2_with fail
              refine ((unhide D1) _).mono ?_
              rintro e w9 ⟨rfl, hw9⟩
              obtain rfl : _ = w9 := hw9.symm
              go_wp2_with fail
              (try simp only [Exit.inBlock, Exit.then])
              exact bodyPost_ret (results_cell3 rfl _ _ w.heap.size _ _ _ _ rfl rfl rfl ((Blk.new _ _ _).alloc _) Tryz.underlying45 rfl (by kernel_rfl)) rfl ⟨by rw [unhide HQ]; rfl, ((Below.refl _ _).alloc (Nat.le_refl _) _).alloc (by simp) _⟩
            · by_cases m2 : g bs q = 43
              · have hq1 := g_in (bs := bs) (k := q) (by omega)
                have hqi : (q : Int) < (bs.length : Int) := by omega
                have HQ := hide (show cntz bs i = ⟨n, -1, 2, q + 1, true, 0⟩ by rw [unhide HT]; unfold modeP; rw [if_neg m1, if_pos m2]; rfl)
                have D1 := hide (fun o => rat_e ((unhide HP) o) (i := (q : Int)) (k := q) rfl m2)
                clear m1 m2 hq1 HT
                go_enter Tryz.func17, Tryz.ntmps17
                go_wp2_with fail
                refine ((unhide C0) _).mono ?_
                rintro e w9 ⟨rfl, hw9⟩
                obtain rfl : _ = w9 := hw9.symm
                go_wp2_with fail
                refine ((unhide CN) _).mono ?_
                rintro e w9 ⟨rfl, hw9⟩
                obtain rfl : _ = w9 := hw9.symm
                go_wp2_with fail
                refine ((unhide C3) _).mono ?_
                rintro e w9 ⟨rfl, hw9⟩
                obtain rfl : _ = w9 := hw9.symm
                go_wp2_with fail
                refine ((unhide CN2) _).mono ?_
                rintro e w9 ⟨rfl, hw9⟩
                obtain rfl : _ = w9 := hw9.symm
                go_wp2_with fail
                refine ((unhide C5) _).mono ?_
                rintro e w9 ⟨rfl, hw9⟩
                obtain rfl : _ = w9 := hw9.symm
                go_wp2_with fail
                refine ((unhide D1) _).mono ?_
                rintro e w9 ⟨rfl, hw9⟩
                obtain rfl : _ = w9 := hw9.symm
                go_wp2_with fail
                refine ((unhide D1) _).mono ?_
                rintro e w9 ⟨rfl, hw9⟩
                obtain rfl : _ = w9 := hw9.symm
                go_wp2_with fail
                (try simp only [Exit.inBlock, Exit.then])
                exact bodyPost_ret (results_cell3 rfl _ _ w.heap.size _ _ _ _ rfl rfl rfl ((Blk.new _ _ _).alloc _) Tryz.underlying45 rfl (by kernel_rfl)) rfl ⟨by rw [unhide HQ]; rfl, ((Below.refl _ _).alloc (Nat.le_refl _) _).alloc (by simp) _⟩
              · have HQ := hide (show cntz bs i = ⟨n, -1, 0, q, true, 0⟩ by rw [unhide HT]; unfold modeP; rw [if_neg m1, if_neg m2]; rfl)
                have D1 := hide (fun o => rat_nat bs A cap q _ ((unhide HP) o))
                obtain ⟨y, hy⟩ : ∃ y, g bs q = y := ⟨_, rfl⟩
                rw [hy] at D1 m1 m2
                have e63 : ((y : Int) == 63) = false := by rw [beq_eq_false_iff_ne]; omega
                have e43 : ((y : Int) == 43) = false := by rw [beq_eq_false_iff_ne]; omega
                clear m1 m2 hy HT
                go_enter Tryz.func17, Tryz.ntmps17
                go_wp2_with fail
                refine ((unhide C0) _).mono ?_
                rintro e w9 ⟨rfl, hw9⟩
                obtain rfl : _ = w9 := hw9.symm
                go_wp2_with fail
                refine ((unhide CN) _).mono ?_
                rintro e w9 ⟨rfl, hw9⟩
                obtain rfl : _ = w9 := hw9.symm
                go_wp2_with fail
                refine ((unhide C3) _).mono ?_
                rintro e w9 ⟨rfl, hw9⟩
                obtain rfl : _ = w9 := hw9.symm
                go_wp2_with fail
                refine ((unhide CN2) _).mono ?_
                rintro e w9 ⟨rfl, hw9⟩
                obtain rfl : _ = w9 := hw9.symm
                go_wp2_with fail
                refine ((unhide C5) _).mono ?_
                rintro e w9 ⟨rfl, hw9⟩
                obtain rfl : _ = w9 := hw9.symm
                go_wp2_with fail
                refine ((unhide D1) _).mono ?_
                rintro e w9 ⟨rfl, hw9⟩
                obtain rfl : _ = w9 := hw9.symm
                go_wp2_with fail
                refine ((unhide D1) _).mono ?_
                rintro e w9 ⟨rfl, hw9⟩
                obtain rfl : _ = w9 := hw9.symm
                go_wp2_with fail
                (try simp only [Exit.inBlock, Exit.then])
                exact bodyPost_ret (results_cell3 rfl _ _ w.heap.size _ _ _ _ rfl rfl rfl ((Blk.new _ _ _).alloc _) Tryz.underlying45 rfl (by kernel_rfl)) rfl ⟨by rw [unhide HQ]; rfl, ((Below.refl _ _).alloc (Nat.le_refl _) _).alloc (by simp) _⟩
        · have HQ := hide (show cntz bs i = ⟨0, 0, 0, 0, false, 0⟩ by rw [unhide HT1, (unhide HBN) z1])
          have C5 := hide (fun o => rat_nat bs A cap m2 _ ((unhide HP) o))
          obtain ⟨y5, hy5⟩ : ∃ y, g bs m2 = y := ⟨_, rfl⟩
          rw [hy5] at C5 z1
          have e125 : ((y5 : Int) != 125) = true := by simp; omega
          clear HT1 HBR HBN z1 hy5
          go_enter Tryz.func17, Tryz.ntmps17
          go_wp2_with fail
          refine ((unhide C0) _).mono ?_
          rintro e w9 ⟨rfl, hw9⟩
          obtain rfl : _ = w9 := hw9.symm
          go_wp2_with fail
          refine ((unhide CN) _).mono ?_
          rintro e w9 ⟨rfl, hw9⟩
          obtain rfl : _ = w9 := hw9.symm
          go_wp2_with fail
          refine ((unhide C3) _).mono ?_
          rintro e w9 ⟨rfl, hw9⟩
          obtain rfl : _ = w9 := hw9.symm
          go_wp2_with fail
          refine ((unhide CN2) _).mono ?_
          rintro e w9 ⟨rfl, hw9⟩
          obtain rfl : _ = w9 := hw9.symm
          go_wp2_with fail
          refine ((unhide C5) _).mono ?_
          rintro e w9 ⟨rfl, hw9⟩
          obtain rfl : _ = w9 := hw9.symm
          go_wp2_with fail
          (try simp only [Exit.inBlock, Exit.then])
          exact bodyPost_ret (results_cell3 rfl _ _ w.heap.size _ _ _ _ rfl rfl rfl ((Blk.new _ _ _).alloc _) Tryz.underlying45 rfl (by kernel_rfl)) rfl ⟨by rw [unhide HQ]; rfl, ((Below.refl _ _).alloc (Nat.le_refl _) _).alloc (by simp) _⟩
      · have e2 : ((m2 : Int) == (p2 : Int)) = false := by rw [beq_eq_false_iff_ne]; omega
        rw [if_neg b2] at HBP1
        have HBR := hide (fun h => (unhide HBP1).trans (if_pos h))
        have HBN := hide (fun h => (unhide HBP1).trans (if_neg h))
        clear HBP1 b2
        by_cases z1 : g bs m2 = 125
        · have hpl := g_in (bs := bs) (k := m2) (by omega)
          have C5 := hide (fun o => rat_e ((unhide HP) o) (i := (m2 : Int)) (k := m2) rfl z1)
          obtain ⟨q, hq⟩ : ∃ q, m2 + 1 = q := ⟨_, rfl⟩
          have HT := hide (show cntz bs i = if okC n ((n2 : Int)) then ⟨n, (n2 : Int), modeP bs q, q + (if modeP bs q = 0 then 0 else 1), true, 0⟩ else ⟨0, 0, 0, 0, false, 34⟩ by rw [unhide HT1, (unhide HBR) z1, hq])
          have hqi : (m2 : Int) + 1 = (q : Int) := by omega
          have hqb : (q : Int) ≤ (bs.length : Int) := by omega
          clear HT1 HBR HBN z1 hpl hq
          by_cases j1 : 1000 < n
          · have f1 : 1000 < (n : Int) := by omega
            clear j1
            have HQ := hide ((unhide HT).trans (if_neg (by unfold okC; simp; omega)))
            clear HT
            go_enter Tryz.func17, Tryz.ntmps17
            go_wp2_with fail
            refine ((unhide C0) _).mono ?_
            rintro e w9 ⟨rfl, hw9⟩
            obtain rfl : _ = w9 := hw9.symm
            go_wp2_with fail
            refine ((unhide CN) _).mono ?_
            rintro e w9 ⟨rfl, hw9⟩
            obtain rfl : _ = w9 := hw9.symm
            go_wp2_with fail
            refine ((unhide C3) _).mono ?_
            rintro e w9 ⟨rfl, hw9⟩
            obtain rfl : _ = w9 := hw9.symm
            go_wp2_with fail
            refine ((unhide CN2) _).mono ?_
            rintro e w9 ⟨rfl, hw9⟩
            obtain rfl : _ = w9 := hw9.symm
            go_wp2_with fail
            refine ((unhide C5) _).mono ?_
            rintro e w9 ⟨rfl, hw9⟩
            obtain rfl : _ = w9 := hw9.symm
            go_wp2_with fail
            (try simp only [Exit.inBlock, Exit.then])
            exact bodyPost_ret (results_cell3 rfl _ _ w.heap.size _ _ _ _ rfl rfl rfl ((Blk.new _ _ _).alloc _) Tryz.underlying45 rfl (by kernel_rfl)) rfl ⟨by rw [unhide HQ]; rfl, ((Below.refl _ _).alloc (Nat.le_refl _) _).alloc (by simp) _⟩
          · have f1 : (n : Int) ≤ 1000 := by omega
            by_cases j2 : 1000 < n2
            · have f2 : 1000 < (n2 : Int) := by omega
              clear j2
              have HQ := hide ((unhide HT).trans (if_neg (by unfold okC; simp; omega)))
              clear HT
              go_enter Tryz.func17, Tryz.ntmps17
              go_wp2_with fail
              refine ((unhide C0) _).mono ?_
              rintro e w9 ⟨rfl, hw9⟩
              obtain rfl : _ = w9 := hw9.symm
              go_wp2_with fail
              refine ((unhide CN) _).mono ?_
              rintro e w9 ⟨rfl, hw9⟩
              obtain rfl : _ = w9 := hw9.symm
              go_wp2_with fail
              refine ((unhide C3) _).mono ?_
              rintro e w9 ⟨rfl, hw9⟩
              obtain rfl : _ = w9 := hw9.symm
              go_wp2_with fail
              refine ((unhide CN2) _).mono ?_
              rintro e w9 ⟨rfl, hw9⟩
              obtain rfl : _ = w9 := hw9.symm
              go_wp2_with fail
              refine ((unhide C5) _).mono ?_
              rintro e w9 ⟨rfl, hw9⟩
              obtain rfl : _ = w9 := hw9.symm
              go_wp2_with fail
              (try simp only [Exit.inBlock, Exit.then])
              exact bodyPost_ret (results_cell3 rfl _ _ w.heap.size _ _ _ _ rfl rfl rfl ((Blk.new _ _ _).alloc _) Tryz.underlying45 rfl (by kernel_rfl)) rfl ⟨by rw [unhide HQ]; rfl, ((Below.refl _ _).alloc (Nat.le_refl _) _).alloc (by simp) _⟩
            · have f2 : (n2 : Int) ≤ 1000 := by omega
              by_cases j3 : n2 = 0
              · have e0 : ((n2 : Int) == 0) = true := by rw [beq_iff_eq]; omega
                have HQ := hide ((unhide HT).trans (if_neg (by unfold okC; simp; omega)))
                clear HT j1 j2 j3
                go_enter Tryz.func17, Tryz.ntmps17
                go_wp2_with fail
                refine ((unhide C0) _).mono ?_
                rintro e w9 ⟨rfl, hw9⟩
                obtain rfl : _ = w9 := hw9.symm
                go_wp2_with fail
                refine ((unhide CN) _).mono ?_
                rintro e w9 ⟨rfl, hw9⟩
                obtain rfl : _ = w9 := hw9.symm
                go_wp2_with fail
                refine ((unhide C3) _).mono ?_
                rintro e w9 ⟨rfl, hw9⟩
                obtain rfl : _ = w9 := hw9.symm
                go_wp2_with fail
                refine ((unhide CN2) _).mono ?_
                rintro e w9 ⟨rfl, hw9⟩
                obtain rfl : _ = w9 := hw9.symm
                go_wp2_with fail
                refine ((unhide C5) _).mono ?_
                rintro e w9 ⟨rfl, hw9⟩
                obtain rfl : _ = w9 := hw9.symm
                go_wp2_with fail
                (try simp only [Exit.inBlock, Exit.then])
                exact bodyPost_ret (results_cell3 rfl _ _ w.heap.size _ _ _ _ rfl rfl rfl ((Blk.new _ _ _).alloc _) Tryz.underlying45 rfl (by kernel_rfl)) rfl ⟨by rw [unhide HQ]; rfl, ((Below.refl _ _).alloc (Nat.le_refl _) _).alloc (by simp) _⟩
              · have e0 : ((n2 : Int) == 0) = false := by rw [beq_eq_false_iff_ne]; omega
                have f3 : 0 < (n2 : Int) := by omega
                by_cases j4 : n2 < n
                · have f4 : (n2 : Int) < (n : Int) := by omega
                  have HQ := hide ((unhide HT).trans (if_neg (by unfold okC; simp; omega)))
                  clear HT j1 j2 j3 j4
                  go_enter Tryz.func17, Tryz.ntmps17
                  go_wp2_with fail
                  refine ((unhide C0) _).mono ?_
                  rintro e w9 ⟨rfl, hw9⟩
                  obtain rfl : _ = w9 := hw9.symm
                  go_wp2_with fail
                  refine ((unhide CN) _).mono ?_
                  rintro e w9 ⟨rfl, hw9⟩
                  obtain rfl : _ = w9 := hw9.symm
                  go_wp2_with fail
                  refine ((unhide C3) _).mono ?_
                  rintro e w9 ⟨rfl, hw9⟩
                  obtain rfl : _ = w9 := hw9.symm
                  go_wp2_with fail
                  refine ((unhide CN2) _).mono ?_
                  rintro e w9 ⟨rfl, hw9⟩
                  obtain rfl : _ = w9 := hw9.symm
                  go_wp2_with fail
                  refine ((unhide C5) _).mono ?_
                  rintro e w9 ⟨rfl, hw9⟩
                  obtain rfl : _ = w9 := hw9.symm
                  go_wp2_with fail
                  (try simp only [Exit.inBlock, Exit.then])
                  exact bodyPost_ret (results_cell3 rfl _ _ w.heap.size _ _ _ _ rfl rfl rfl ((Blk.new _ _ _).alloc _) Tryz.underlying45 rfl (by kernel_rfl)) rfl ⟨by rw [unhide HQ]; rfl, ((Below.refl _ _).alloc (Nat.le_refl _) _).alloc (by simp) _⟩
                · have f4 : (n : Int) ≤ (n2 : Int) := by omega
                  clear j1 j2 j3 j4
                  have HT := hide ((unhide HT).trans (if_pos (by unfold okC; simp; omega)))
                  by_cases m1 : g bs q = 63
                  · have hq1 := g_in (bs := bs) (k := q) (by omega)
                    have hqi : (q : Int) < (bs.length : Int) := by omega
                    have HQ := hide (show cntz bs i = ⟨n, (n2 : Int), 1, q + 1, true, 0⟩ by rw [unhide HT]; unfold modeP; rw [if_pos m1]; rfl)
                    have D1 := hide (fun o => rat_e ((unhide HP) o) (i := (q : Int)) (k := q) rfl m1)
                    clear m1 hq1 HT
                    go_enter Tryz.func17, Tryz.ntmps17
                    go_wp2_with fail
                    refine ((unhide C0) _).mono ?_
                    rintro e w9 ⟨rfl, hw9⟩
                    obtain rfl : _ = w9 := hw9.symm
                    go_wp2_with fail
                    refine ((unhide CN) _).mono ?_
                    rintro e w9 ⟨rfl, hw9⟩
                    obtain rfl : _ = w9 := hw9.symm
                    go_wp2_with fail
                    refine ((unhide C3) _).mono ?_
                    rintro e w9 ⟨rfl, hw9⟩
                    obtain rfl : _ = w9 := hw9.symm
                    go_wp2_with fail
                    refine ((unhide CN2) _).mono ?_
                    rintro e w9 ⟨rfl, hw9⟩
                    obtain rfl : _ = w9 := hw9.symm
                    go_wp2_with fail
                    refine ((unhide C5) _).mono ?_
                    rintro e w9 ⟨rfl, hw9⟩
                    obtain rfl : _ = w9 := hw9.symm
                    go_wp2_with fail
                    refine ((unhide D1) _).mono ?_
                    rintro e w9 ⟨rfl, hw9⟩
                    obtain rfl : _ = w9 := hw9.symm
                    go_wp2_with fail
                    (try simp only [Exit.inBlock, Exit.then])
                    exact bodyPost_ret (results_cell3 rfl _ _ w.heap.size _ _ _ _ rfl rfl rfl ((Blk.new _ _ _).alloc _) Tryz.underlying45 rfl (by kernel_rfl)) rfl ⟨by rw [unhide HQ]; rfl, ((Below.refl _ _).alloc (Nat.le_refl _) _).alloc (by simp) _⟩
                  · by_cases m2 : g bs q = 43
                    · have hq1 := g_in (bs := bs) (k := q) (by omega)
                      have hqi : (q : Int) < (bs.length : Int) := by omega
                      have HQ := hide (show cntz bs i = ⟨n, (n2 : Int), 2, q + 1, true, 0⟩ by rw [unhide HT]; unfold modeP; rw [if_neg m1, if_pos m2]; rfl)
                      have D1 := hide (fun o => rat_e ((unhide HP) o) (i := (q : Int)) (k := q) rfl m2)
                      clear m1 m2 hq1 HT
                      go_enter Tryz.func17, Tryz.ntmps17
                      go_wp2_with fail
                      refine ((unhide C0) _).mono ?_
                      rintro e w9 ⟨rfl, hw9⟩
                      obtain rfl : _ = w9 := hw9.symm
                      go_wp2_with fail
                      refine ((unhide CN) _).mono ?_
                      rintro e w9 ⟨rfl, hw9⟩
                      obtain rfl : _ = w9 := hw9.symm
                      go_wp2_with fail
                      refine ((unhide C3) _).mono ?_
                      rintro e w9 ⟨rfl, hw9⟩
                      obtain rfl : _ = w9 := hw9.symm
                      go_wp2_with fail
                      refine ((unhide CN2) _).mono ?_
                      rintro e w9 ⟨rfl, hw9⟩
                      obtain rfl : _ = w9 := hw9.symm
                      go_wp2_with fail
                      refine ((unhide C5) _).mono ?_
                      rintro e w9 ⟨rfl, hw9⟩
                      obtain rfl : _ = w9 := hw9.symm
                      go_wp2_with fail
                      refine ((unhide D1) _).mono ?_
                      rintro e w9 ⟨rfl, hw9⟩
                      obtain rfl : _ = w9 := hw9.symm
                      go_wp2_with fail
                      refine ((unhide D1) _).mono ?_
                      rintro e w9 ⟨rfl, hw9⟩
                      obtain rfl : _ = w9 := hw9.symm
                      go_wp2_with fail
                      (try simp only [Exit.inBlock, Exit.then])
                      exact bodyPost_ret (results_cell3 rfl _ _ w.heap.size _ _ _ _ rfl rfl rfl ((Blk.new _ _ _).alloc _) Tryz.underlying45 rfl (by kernel_rfl)) rfl ⟨by rw [unhide HQ]; rfl, ((Below.refl _ _).alloc (Nat.le_refl _) _).alloc (by simp) _⟩
                    · have HQ := hide (show cntz bs i = ⟨n, (n2 : Int), 0, q, true, 0⟩ by rw [unhide HT]; unfold modeP; rw [if_neg m1, if_neg m2]; rfl)
                      have D1 := hide (fun o => rat_nat bs A cap q _ ((unhide HP) o))
                      obtain ⟨y, hy⟩ : ∃ y, g bs q = y := ⟨_, rfl⟩
                      rw [hy] at D1 m1 m2
                      have e63 : ((y : Int) == 63) = false := by rw [beq_eq_false_iff_ne]; omega
                      have e43 : ((y : Int) == 43) = false := by rw [beq_eq_false_iff_ne]; omega
                      clear m1 m2 hy HT
                      go_enter Tryz.func17, Tryz.ntmps17
                      go_wp2_with fail
                      refine ((unhide C0) _).mono ?_
                      rintro e w9 ⟨rfl, hw9⟩
                      obtain rfl : _ = w9 := hw9.symm
                      go_wp2_with fail
                      refine ((unhide CN) _).mono ?_
                      rintro e w9 ⟨rfl, hw9⟩
                      obtain rfl : _ = w9 := hw9.symm
                      go_wp2_with fail
                      refine ((unhide C3) _).mono ?_
                      rintro e w9 ⟨rfl, hw9⟩
                      obtain rfl : _ = w9 := hw9.symm
                      go_wp2_with fail
                      refine ((unhide CN2) _).mono ?_
                      rintro e w9 ⟨rfl, hw9⟩
                      obtain rfl : _ = w9 := hw9.symm
                      go_wp2_with fail
                      refine ((unhide C5) _).mono ?_
                      rintro e w9 ⟨rfl, hw9⟩
                      obtain rfl : _ = w9 := hw9.symm
                      go_wp2_with fail
                      refine ((unhide D1) _).mono ?_
                      rintro e w9 ⟨rfl, hw9⟩
                      obtain rfl : _ = w9 := hw9.symm
                      go_wp2_with fail
                      refine ((unhide D1) _).mono ?_
                      rintro e w9 ⟨rfl, hw9⟩
                      obtain rfl : _ = w9 := hw9.symm
                      go_wp2_with fail
                      (try simp only [Exit.inBlock, Exit.then])
                      exact bodyPost_ret (results_cell3 rfl _ _ w.heap.size _ _ _ _ rfl rfl rfl ((Blk.new _ _ _).alloc _) Tryz.underlying45 rfl (by kernel_rfl)) rfl ⟨by rw [unhide HQ]; rfl, ((Below.refl _ _).alloc (Nat.le_refl _) _).alloc (by simp) _⟩
        · have HQ := hide (show cntz bs i = ⟨0, 0, 0, 0, false, 0⟩ by rw [unhide HT1, (unhide HBN) z1])
          have C5 := hide (fun o => rat_nat bs A cap m2 _ ((unhide HP) o))
          obtain ⟨y5, hy5⟩ : ∃ y, g bs m2 = y := ⟨_, rfl⟩
          rw [hy5] at C5 z1
          have e125 : ((y5 : Int) != 125) = true := by simp; omega
          clear HT1 HBR HBN z1 hy5
          go_enter Tryz.func17, Tryz.ntmps17
          go_wp2_with fail
          refine ((unhide C0) _).mono ?_
          rintro e w9 ⟨rfl, hw9⟩
          obtain rfl : _ = w9 := hw9.symm
          go_wp2_with fail
          refine ((unhide CN) _).mono ?_
          rintro e w9 ⟨rfl, hw9⟩
          obtain rfl : _ = w9 := hw9.symm
          go_wp2_with fail
          refine ((unhide C3) _).mono ?_
          rintro e w9 ⟨rfl, hw9⟩
          obtain rfl : _ = w9 := hw9.symm
          go_wp2_with fail
          refine ((unhide CN2) _).mono ?_
          rintro e w9 ⟨rfl, hw9⟩
          obtain rfl : _ = w9 := hw9.symm
          go_wp2_with fail
          refine ((unhide C5) _).mono ?_
          rintro e w9 ⟨rfl, hw9⟩
          obtain rfl : _ = w9 := hw9.symm
          go_wp2_with fail
          (try simp only [Exit.inBlock, Exit.then])
          exact bodyPost_ret (results_cell3 rfl _ _ w.heap.size _ _ _ _ rfl rfl rfl ((Blk.new _ _ _).alloc _) Tryz.underlying45 rfl (by kernel_rfl)) rfl ⟨by rw [unhide HQ]; rfl, ((Below.refl _ _).alloc (Nat.le_refl _) _).alloc (by simp) _⟩
    · have C3 := hide (fun o => rat_nat bs A cap m _ ((unhide HP) o))
      have HM := hide (show mostP bs n m = ((n : Int), m) by unfold mostP; rw [if_neg b1])
      rw [unhide HM] at HBP1
      simp only [] at HBP1
      have HBR := hide (fun h => (unhide HBP1).trans (if_pos h))
      have HBN := hide (fun h => (unhide HBP1).trans (if_neg h))
      have e44 : ((g bs m : Int) == 44) = false := by rw [beq_eq_false_iff_ne]; omega
      obtain ⟨y3, hy3⟩ : ∃ y, g bs m = y := ⟨_, rfl⟩
      rw [hy3] at C3 e44
      clear HBP1 HM b1 hy3
      by_cases z1 : g bs m = 125
      · have hpl := g_in (bs := bs) (k := m) (by omega)
        have C5 := hide (fun o => rat_e ((unhide HP) o) (i := (m : Int)) (k := m) rfl z1)
        obtain ⟨q, hq⟩ : ∃ q, m + 1 = q := ⟨_, rfl⟩
        have HT := hide (show cntz bs i = if okC n ((n : Int)) then ⟨n, (n : Int), modeP bs q, q + (if modeP bs q = 0 then 0 else 1), true, 0⟩ else ⟨0, 0, 0, 0, false, 34⟩ by rw [unhide HT1, (unhide HBR) z1, hq])
        have hqi : (m : Int) + 1 = (q : Int) := by omega
        have hqb : (q : Int) ≤ (bs.length : Int) := by omega
        clear HT1 HBR HBN z1 hpl hq
        by_cases j1 : 1000 < n
        · have f1 : 1000 < (n : Int) := by omega
          clear j1
          have HQ := hide ((unhide HT).trans (if_neg (by unfold okC; simp; omega)))
          clear HT
          go_enter Tryz.func17, Tryz.ntmps17
          go_wp2_with fail
          refine ((unhide C0) _).mono ?_
          rintro e w9 ⟨rfl, hw9⟩
          obtain rfl : _ = w9 := hw9.symm
          go_wp2_with fail
          refine ((unhide CN) _).mono ?_
          rintro e w9 ⟨rfl, hw9⟩
          obtain rfl : _ = w9 := hw9.symm
          go_wp2_with fail
          refine ((unhide C3) _).mono ?_
          rintro e w9 ⟨rfl, hw9⟩
          obtain rfl : _ = w9 := hw9.symm
          go_wp2_with fail
          refine ((unhide C5) _).mono ?_
          rintro e w9 ⟨rfl, hw9⟩
          obtain rfl : _ = w9 := hw9.symm
          go_wp2_with fail
          (try simp only [Exit.inBlock, Exit.then])
          exact bodyPost_ret (results_cell3 rfl _ _ w.heap.size _ _ _ _ rfl rfl rfl ((Blk.new _ _ _).alloc _) Tryz.underlying45 rfl (by kernel_rfl)) rfl ⟨by rw [unhide HQ]; rfl, ((Below.refl _ _).alloc (Nat.le_refl _) _).alloc (by simp) _⟩
        · have f1 : (n : Int) ≤ 1000 := by omega
          by_cases j2 : n = 0
          · have e0 : ((n : Int) == 0) = true := by rw [beq_iff_eq]; omega
            have HQ := hide ((unhide HT).trans (if_neg (by unfold okC; simp; omega)))
            clear HT j1 j2
            go_enter Tryz.func17, Tryz.ntmps17
            go_wp2_with fail
            refine ((unhide C0) _).mono ?_
            rintro e w9 ⟨rfl, hw9⟩
            obtain rfl : _ = w9 := hw9.symm
            go_wp2_with fail
            refine ((unhide CN) _).mono ?_
            rintro e w9 ⟨rfl, hw9⟩
            obtain rfl : _ = w9 := hw9.symm
            go_wp2_with fail
            refine ((unhide C3) _).mono ?_
            rintro e w9 ⟨rfl, hw9⟩
            obtain rfl : _ = w9 := hw9.symm
            go_wp2_with fail
            refine ((unhide C5) _).mono ?_
            rintro e w9 ⟨rfl, hw9⟩
            obtain rfl : _ = w9 := hw9.symm
            go_wp2_with fail
            (try simp only [Exit.inBlock, Exit.then])
            exact bodyPost_ret (results_cell3 rfl _ _ w.heap.size _ _ _ _ rfl rfl rfl ((Blk.new _ _ _).alloc _) Tryz.underlying45 rfl (by kernel_rfl)) rfl ⟨by rw [unhide HQ]; rfl, ((Below.refl _ _).alloc (Nat.le_refl _) _).alloc (by simp) _⟩
          · have e0 : ((n : Int) == 0) = false := by rw [beq_eq_false_iff_ne]; omega
            have f2 : 0 < (n : Int) := by omega
            clear j1 j2
            have HT := hide ((unhide HT).trans (if_pos (by unfold okC; simp; omega)))
            by_cases m1 : g bs q = 63
            · have hq1 := g_in (bs := bs) (k := q) (by omega)
              have hqi : (q : Int) < (bs.length : Int) := by omega
              have HQ := hide (show cntz bs i = ⟨n, (n : Int), 1, q + 1, true, 0⟩ by rw [unhide HT]; unfold modeP; rw [if_pos m1]; rfl)
              have D1 := hide (fun o => rat_e ((unhide HP) o) (i := (q : Int)) (k := q) rfl m1)
              clear m1 hq1 HT
              go_enter Tryz.func17, Tryz.ntmps17
              go_wp2_with fail
              refine ((unhide C0) _).mono ?_
              rintro e w9 ⟨rfl, hw9⟩
              obtain rfl : _ = w9 := hw9.symm
              go_wp2_with fail
              refine ((unhide CN) _).mono ?_
              rintro e w9 ⟨rfl, hw9⟩
              obtain rfl : _ = w9 := hw9.symm
              go_wp2_with fail
              refine ((unhide C3) _).mono ?_
              rintro e w9 ⟨rfl, hw9⟩
              obtain rfl : _ = w9 := hw9.symm
              go_wp2_with fail
              refine ((unhide C5) _).mono ?_
              rintro e w9 ⟨rfl, hw9⟩
              obtain rfl : _ = w9 := hw9.symm
              go_wp2_with fail
              refine ((unhide D1) _).mono ?_
              rintro e w9 ⟨rfl, hw9⟩
              obtain rfl : _ = w9 := hw9.symm
              go_wp2_with fail
              (try simp only [Exit.inBlock, Exit.then])
              exact bodyPost_ret (results_cell3 rfl _ _ w.heap.size _ _ _ _ rfl rfl rfl ((Blk.new _ _ _).alloc _) Tryz.underlying45 rfl (by kernel_rfl)) rfl ⟨by rw [unhide HQ]; rfl, ((Below.refl _ _).alloc (Nat.le_refl _) _).alloc (by simp) _⟩
            · by_cases m2 : g bs q = 43
              · have hq1 := g_in (bs := bs) (k := q) (by omega)
                have hqi : (q : Int) < (bs.length : Int) := by omega
                have HQ := hide (show cntz bs i = ⟨n, (n : Int), 2, q + 1, true, 0⟩ by rw [unhide HT]; unfold modeP; rw [if_neg m1, if_pos m2]; rfl)
                have D1 := hide (fun o => rat_e ((unhide HP) o) (i := (q : Int)) (k := q) rfl m2)
                clear m1 m2 hq1 HT
                go_enter Tryz.func17, Tryz.ntmps17
                go_wp2_with fail
                refine ((unhide C0) _).mono ?_
                rintro e w9 ⟨rfl, hw9⟩
                obtain rfl : _ = w9 := hw9.symm
                go_wp2_with fail
                refine ((unhide CN) _).mono ?_
                rintro e w9 ⟨rfl, hw9⟩
                obtain rfl : _ = w9 := hw9.symm
                go_wp2_with fail
                refine ((unhide C3) _).mono ?_
                rintro e w9 ⟨rfl, hw9⟩
                obtain rfl : _ = w9 := hw9.symm
                go_wp2_with fail
                refine ((unhide C5) _).mono ?_
                rintro e w9 ⟨rfl, hw9⟩
                obtain rfl : _ = w9 := hw9.symm
                go_wp2_with fail
                refine ((unhide D1) _).mono ?_
                rintro e w9 ⟨rfl, hw9⟩
                obtain rfl : _ = w9 := hw9.symm
                go_wp2_with fail
                refine ((unhide D1) _).mono ?_
                rintro e w9 ⟨rfl, hw9⟩
                obtain rfl : _ = w9 := hw9.symm
                go_wp2_with fail
                (try simp only [Exit.inBlock, Exit.then])
                exact bodyPost_ret (results_cell3 rfl _ _ w.heap.size _ _ _ _ rfl rfl rfl ((Blk.new _ _ _).alloc _) Tryz.underlying45 rfl (by kernel_rfl)) rfl ⟨by rw [unhide HQ]; rfl, ((Below.refl _ _).alloc (Nat.le_refl _) _).alloc (by simp) _⟩
              · have HQ := hide (show cntz bs i = ⟨n, (n : Int), 0, q, true, 0⟩ by rw [unhide HT]; unfold modeP; rw [if_neg m1, if_neg m2]; rfl)
                have D1 := hide (fun o => rat_nat bs A cap q _ ((unhide HP) o))
                obtain ⟨y, hy⟩ : ∃ y, g bs q = y := ⟨_, rfl⟩
                rw [hy] at D1 m1 m2
                have e63 : ((y : Int) == 63) = false := by rw [beq_eq_false_iff_ne]; omega
                have e43 : ((y : Int) == 43) = false := by rw [beq_eq_false_iff_ne]; omega
                clear m1 m2 hy HT
                go_enter Tryz.func17, Tryz.ntmps17
                go_wp2_with fail
                refine ((unhide C0) _).mono ?_
                rintro e w9 ⟨rfl, hw9⟩
                obtain rfl : _ = w9 := hw9.symm
                go_wp2_with fail
                refine ((unhide CN) _).mono ?_
                rintro e w9 ⟨rfl, hw9⟩
                obtain rfl : _ = w9 := hw9.symm
                go_wp2_with fail
                refine ((unhide C3) _).mono ?_
                rintro e w9 ⟨rfl, hw9⟩
                obtain rfl : _ = w9 := hw9.symm
                go_wp2_with fail
                refine ((unhide C5) _).mono ?_
                rintro e w9 ⟨rfl, hw9⟩
                obtain rfl : _ = w9 := hw9.symm
                go_wp2_with fail
                refine ((unhide D1) _).mono ?_
                rintro e w9 ⟨rfl, hw9⟩
                obtain rfl : _ = w9 := hw9.symm
                go_wp2_with fail
                refine ((unhide D1) _).mono ?_
                rintro e w9 ⟨rfl, hw9⟩
                obtain rfl : _ = w9 := hw9.symm
                go_wp2_with fail
                (try simp only [Exit.inBlock, Exit.then])
                exact bodyPost_ret (results_cell3 rfl _ _ w.heap.size _ _ _ _ rfl rfl rfl ((Blk.new _ _ _).alloc _) Tryz.underlying45 rfl (by kernel_rfl)) rfl ⟨by rw [unhide HQ]; rfl, ((Below.refl _ _).alloc (Nat.le_refl _) _).alloc (by simp) _⟩
      · have HQ := hide (show cntz bs i = ⟨0, 0, 0, 0, false, 0⟩ by rw [unhide HT1, (unhide HBN) z1])
        have C5 := hide (fun o => rat_nat bs A cap m _ ((unhide HP) o))
        obtain ⟨y5, hy5⟩ : ∃ y, g bs m = y := ⟨_, rfl⟩
        rw [hy5] at C5 z1
        have e125 : ((y5 : Int) != 125) = true := by simp; omega
        clear HT1 HBR HBN z1 hy5
        go_enter Tryz.func17, Tryz.ntmps17
        go_wp2_with fail
        refine ((unhide C0) _).mono ?_
        rintro e w9 ⟨rfl, hw9⟩
        obtain rfl : _ = w9 := hw9.symm
        go_wp2_with fail
        refine ((unhide CN) _).mono ?_
        rintro e w9 ⟨rfl, hw9⟩
        obtain rfl : _ = w9 := hw9.symm
        go_wp2_with fail
        refine ((unhide C3) _).mono ?_
        rintro e w9 ⟨rfl, hw9⟩
        obtain rfl : _ = w9 := hw9.symm
        go_wp2_with fail
        refine ((unhide C5) _).mono ?_
        rintro e w9 ⟨rfl, hw9⟩
        obtain rfl : _ = w9 := hw9.symm
        go_wp2_with fail
        (try simp only [Exit.inBlock, Exit.then])
        exact bodyPost_ret (results_cell3 rfl _ _ w.heap.size _ _ _ _ rfl rfl rfl ((Blk.new _ _ _).alloc _) Tryz.underlying45 rfl (by kernel_rfl)) rfl ⟨by rw [unhide HQ]; rfl, ((Below.refl _ _).alloc (Nat.le_refl _) _).alloc (by simp) _⟩
/-- **the reference's Count** -/
theorem rcount_any (bs : List UInt8) (A : Option Addr) (cap : Nat) (i : Int) (w : World) (hP : PV bs A cap w) :
    Calls Tryz.prog 17 #[.slice A bs.length cap, .int .i64 i] w (GivesC (cntz bs i) w) := by
  by_cases h1 : gz bs i = 42
  · exact rcount_star bs A cap i w hP h1
  by_cases h2 : gz bs i = 43
  · exact rcount_plus bs A cap i w hP h2
  by_cases h3 : gz bs i = 63
  · exact rcount_mark bs A cap i w hP h3
  by_cases h4 : gz bs i = 123
  · exact rcount_brace bs A cap i w hP h4
  exact rcount_none bs A cap i w hP h1 h2 h3 h4
end Go.Proofs.YtipehpnbfdnehaaGreatDoor.Sc
