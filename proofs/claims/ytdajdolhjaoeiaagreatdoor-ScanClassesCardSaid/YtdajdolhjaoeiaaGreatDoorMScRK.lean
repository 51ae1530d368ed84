/-
  The reference's piece (clewref07), walked: what stands at a place within a class. Conditions: the bytes lie in memory.
  Words for the reference's Class (clewref07): its parts in memory. No conditions.
  Plain lists, no program: a class's set has just the numbers that its parts have, or those whose case is one's. No conditions.
  The reference's In (clewref07), walked: has one of a class's parts a number? Conditions: the parts lie in memory.
-/
import Derived.Test.YtdajdolhjaoeiaaGreatDoorMScRHas
import Derived.Test.YtdajdolhjaoeiaaGreatDoorMScE
import Derived.Test.YtdajdolhjaoeiaaGreatDoorMScF
import Derived.BigQuiet
set_option linter.unusedVariables false
set_option linter.unusedSimpArgs false
namespace Go.Proofs.YtdajdolhjaoeiaaGreatDoor.Sc
open Go.RowKit Go.Proofs.YtdajdolhjaoeiaaGreatDoor.Mem
open Go.Proofs.YtdajdolhjaoeiaaGreatDoor.Sy (g g_of g_lt isS at_)
open Go.Proofs.YtdajdolhjaoeiaaGreatDoor.Cl (isOf isName nameL)
theorem build_rn (a b : Int) (s : ByteArray) (t : Bool) (w : World) : Sem.run Tryz.prog (Instr.build 31 #[(0, .int .i64 a), (3, .string s), (5, .bool t), (1, .int .i64 b)]) w = .ok (.agg #[.int .i64 a, .int .i64 b, .int .i64 0, .string s, .int .u8 0, .bool t]) w := run_build w 31 _ _ (by kernel_rfl)
attribute [local go_sem] build_r0 build_r3 build_rn Go.Proofs.YtdajdolhjaoeiaaGreatDoor.Rs.run_not_true Go.Proofs.YtdajdolhjaoeiaaGreatDoor.Rs.run_not_false

set_option maxRecDepth 100000 in
set_option maxHeartbeats 4000000 in
theorem rpiece_esc (bs : List UInt8) (A : Option Addr) (cap k : Nat) (w : World) (hP : PV bs A cap w) (hk : k < bs.length) (h92 : g bs k = 92) :
    Calls Tryz.prog 46 #[.slice A bs.length cap, .int .i64 (k : Int)] w (GivesRef (pieceP bs k) w) := by
  have hb0 : Below w.heap.size w (w.alloc (.cells #[.int .i64 0, .int .i64 0, .int .i64 0, .string ⟨#[]⟩, .int .u8 0, .bool false] 31)) := (Below.refl w.heap.size w).alloc (Nat.le_refl _) _
  have HP := hide (hP.below hb0)
  have hroom := hP.room
  have htop := hP.top
  have hki : (k : Int) < (bs.length : Int) := by omega
  have HB0 := hide hb0
  have HK := hide (Blk.new w 31 #[.int .i64 0, .int .i64 0, .int .i64 0, .string ⟨#[]⟩, .int .u8 0, .bool false])
  obtain ⟨ab, off, rfl, hb, hc⟩ := (unhide HP).cell hk
  have c0 := hc k hk
  have HC := hide hc
  clear hP hb0 hc
  have CE := hide (resc_any bs (some ⟨ab, off, none⟩) cap true (k : Int) _ (unhide HP))
  rw [escz_yes true h92] at CE
  have HE0 := hide (show pieceP bs k = escP bs true (k + 1) by unfold pieceP; rw [if_pos h92])
  rw [h92] at c0
  clear h92
  generalize escP bs true (k + 1) = x at *
  go_enter Tryz.func46, Tryz.ntmps46
  go_wp2_with fail
  refine (unhide CE).mono ?_
  rintro e w1 ⟨rfl, hB⟩
  have HB1 := hide ((unhide HB0).trans (hB.mono (unhide HB0).size))
  have HK1 := hide ((unhide HK).below hB (unhide HK).lt)
  have HE := hide (unhide HE0)
  clear hB CE HB0 HK HP HC c0
  obtain ⟨⟨x0, x1, x2, x3, x4, x5⟩, y0, y1, y2, y3, y4, y5⟩ := cells6 (unhide HK1)
  unfold rItV
  go_wp2_with fail
  (try simp only [Exit.inBlock, Exit.then])
  exact bodyPost_ret (results_cell2 rfl _ _ w.heap.size _ _ _ rfl rfl (set6 (unhide HK1) _ _ _ _ _ _) Tryz.underlying31 rfl (by kernel_rfl)) rfl ⟨by rw [unhide HE]; rfl, bel6 (unhide HB1) (Nat.le_refl _) _ _ _ _ _ _⟩
set_option maxRecDepth 100000 in
set_option maxHeartbeats 4000000 in
theorem rpiece_sym (bs : List UInt8) (A : Option Addr) (cap k : Nat) (w : World) (hP : PV bs A cap w) (hk : k < bs.length) (h92 : g bs k ≠ 92) (h91 : g bs k ≠ 91) :
    Calls Tryz.prog 46 #[.slice A bs.length cap, .int .i64 (k : Int)] w (GivesRef (pieceP bs k) w) := by
  have hb0 : Below w.heap.size w (w.alloc (.cells #[.int .i64 0, .int .i64 0, .int .i64 0, .string ⟨#[]⟩, .int .u8 0, .bool false] 31)) := (Below.refl w.heap.size w).alloc (Nat.le_refl _) _
  have HP := hide (hP.below hb0)
  have hroom := hP.room
  have htop := hP.top
  have hki : (k : Int) < (bs.length : Int) := by omega
  have HB0 := hide hb0
  have HK := hide (Blk.new w 31 #[.int .i64 0, .int .i64 0, .int .i64 0, .string ⟨#[]⟩, .int .u8 0, .bool false])
  obtain ⟨ab, off, rfl, hb, hc⟩ := (unhide HP).cell hk
  have c0 := hc k hk
  have HC := hide hc
  clear hP hb0 hc
  have HE := hide (show pieceP bs k = .lit (sym bs k).1 (k + (sym bs k).2) by unfold pieceP; rw [if_neg h92, if_neg (fun h => h91 h.1)])
  have e92 : ((g bs k : Int) == 92) = false := by rw [beq_eq_false_iff_ne]; omega
  have e91 : ((g bs k : Int) != 91) = true := by rw [bne_iff_ne]; omega
  have e91' : ¬ ((g bs k : Int) = 91) := by omega
  have e92' : ¬ ((g bs k : Int) = 92) := by omega
  clear h92 h91
  have CA := hide (Ref.ref_at bs _ k cap (some ⟨ab, off, none⟩) _ hk (by omega) (unhide HP).reads)
  rw [show at_ bs k = sym bs k by unfold sym; rw [if_pos hk]] at CA
  have l7 := sym_snd hk
  have l8 : (k : Int) + ((sym bs k).2 : Int) ≤ (bs.length : Int) := by omega
  clear HC
  generalize g bs k = y at *
  generalize g bs (k + 1) = y1 at *
  generalize sym bs k = q at *
  go_enter Tryz.func46, Tryz.ntmps46
  go_wp2_with fail
  refine (unhide CA).mono ?_
  rintro e w1 ⟨rfl, hw1⟩
  obtain rfl : _ = w1 := hw1.symm
  go_wp2_with fail
  (try simp only [Exit.inBlock, Exit.then])
  exact bodyPost_ret (results_cell2 rfl _ _ w.heap.size _ _ _ rfl rfl (Blk.new _ _ _) Tryz.underlying31 rfl (by kernel_rfl)) rfl ⟨by rw [unhide HE]; rfl, (Below.refl _ _).alloc (Nat.le_refl _) _⟩
set_option maxRecDepth 100000 in
set_option maxHeartbeats 4000000 in
theorem rpiece_brk (bs : List UInt8) (A : Option Addr) (cap k : Nat) (w : World) (hP : PV bs A cap w) (hk : k < bs.length) (h91 : g bs k = 91) (h58 : g bs (k + 1) ≠ 58) :
    Calls Tryz.prog 46 #[.slice A bs.length cap, .int .i64 (k : Int)] w (GivesRef (pieceP bs k) w) := by
  have hb0 : Below w.heap.size w (w.alloc (.cells #[.int .i64 0, .int .i64 0, .int .i64 0, .string ⟨#[]⟩, .int .u8 0, .bool false] 31)) := (Below.refl w.heap.size w).alloc (Nat.le_refl _) _
  have HP := hide (hP.below hb0)
  have hroom := hP.room
  have htop := hP.top
  have hki : (k : Int) < (bs.length : Int) := by omega
  have HB0 := hide hb0
  have HK := hide (Blk.new w 31 #[.int .i64 0, .int .i64 0, .int .i64 0, .string ⟨#[]⟩, .int .u8 0, .bool false])
  obtain ⟨ab, off, rfl, hb, hc⟩ := (unhide HP).cell hk
  have c0 := hc k hk
  have HC := hide hc
  clear hP hb0 hc
  have HE := hide (show pieceP bs k = .lit (sym bs k).1 (k + (sym bs k).2) by unfold pieceP; rw [if_neg (by omega), if_neg (fun h => h58 h.2)])
  have C1 := hide (rat_e (unhide HP) (i := (k : Int) + 1) (k := k + 1) (c := g bs (k + 1)) (by push_cast; rfl) rfl)
  have e58 : ((g bs (k + 1) : Int) != 58) = true := by rw [bne_iff_ne]; omega
  have e58' : ¬ ((g bs (k + 1) : Int) = 58) := by omega
  rw [h91] at c0
  clear h91 h58
  have CA := hide (Ref.ref_at bs _ k cap (some ⟨ab, off, none⟩) _ hk (by omega) (unhide HP).reads)
  rw [show at_ bs k = sym bs k by unfold sym; rw [if_pos hk]] at CA
  have l7 := sym_snd hk
  have l8 : (k : Int) + ((sym bs k).2 : Int) ≤ (bs.length : Int) := by omega
  clear HC
  generalize g bs k = y at *
  generalize g bs (k + 1) = y1 at *
  generalize sym bs k = q at *
  go_enter Tryz.func46, Tryz.ntmps46
  go_wp2_with fail
  refine (unhide C1).mono ?_
  rintro e w1 ⟨rfl, hw1⟩
  obtain rfl : _ = w1 := hw1.symm
  go_wp2_with fail
  refine (unhide CA).mono ?_
  rintro e w1 ⟨rfl, hw1⟩
  obtain rfl : _ = w1 := hw1.symm
  go_wp2_with fail
  (try simp only [Exit.inBlock, Exit.then])
  exact bodyPost_ret (results_cell2 rfl _ _ w.heap.size _ _ _ rfl rfl (Blk.new _ _ _) Tryz.underlying31 rfl (by kernel_rfl)) rfl ⟨by rw [unhide HE]; rfl, (Below.refl _ _).alloc (Nat.le_refl _) _⟩
def RMRel (bs : List UInt8) (nk : Nat) (W : World) (v : Value) (wr : World) : Prop := ∃ m : Nat, v = .int .i64 (m : Int) ∧ nk ≤ m ∧ m ≤ bs.length ∧ fnd2 bs nk = fnd2 bs m ∧ wr = W
set_option maxRecDepth 100000 in
set_option maxHeartbeats 4000000 in
theorem rpiece_not (bs : List UInt8) (A : Option Addr) (cap k : Nat) (w : World) (hP : PV bs A cap w) (hk : k < bs.length) (hl : bs.length ≤ 4096) (h91 : g bs k = 91) (h58 : g bs (k + 1) = 58) (h94 : g bs (k + 2) = 94) :
    Calls Tryz.prog 46 #[.slice A bs.length cap, .int .i64 (k : Int)] w (GivesRef (pieceP bs k) w) := by
  have hb0 : Below w.heap.size w (w.alloc (.cells #[.int .i64 0, .int .i64 0, .int .i64 0, .string ⟨#[]⟩, .int .u8 0, .bool false] 31)) := (Below.refl w.heap.size w).alloc (Nat.le_refl _) _
  have HP := hide (hP.below hb0)
  have hroom := hP.room
  have htop := hP.top
  have hki : (k : Int) < (bs.length : Int) := by omega
  have HB0 := hide hb0
  have HK := hide (Blk.new w 31 #[.int .i64 0, .int .i64 0, .int .i64 0, .string ⟨#[]⟩, .int .u8 0, .bool false])
  obtain ⟨ab, off, rfl, hb, hc⟩ := (unhide HP).cell hk
  have c0 := hc k hk
  have HC := hide hc
  clear hP hb0 hc
  have hpn : pieceP bs k = namedP bs (k + 2) := by unfold pieceP; rw [if_neg (by omega), if_pos ⟨h91, h58⟩]
  have hk1 := g_in (bs := bs) (k := k + 1) (by omega)
  have hki1 : (k : Int) + 2 ≤ (bs.length : Int) := by omega
  have C1 := hide (rat_e (unhide HP) (i := (k : Int) + 1) (k := k + 1) (c := 58) (by push_cast; rfl) h58)
  rw [h91] at c0
  obtain ⟨nk, hnk0⟩ : ∃ nk, k + 3 = nk := ⟨_, rfl⟩
  have C2 := hide (rat_e (unhide HP) (i := (k : Int) + 2) (k := k + 2) (c := 94) (by push_cast; rfl) h94)
  have hnk : nkP bs (k + 2) = nk := by unfold nkP; rw [if_pos h94]; exact hnk0
  have hk2 := g_in (bs := bs) (k := k + 2) (by omega)
  have hki2 : (k : Int) + 3 ≤ (bs.length : Int) := by omega
  have hnkk : (k : Int) + 2 + 1 = (nk : Int) := by omega
  have hnkk' : (k : Int) + 3 = (nk : Int) := by omega
  have hnl : nk ≤ bs.length := by omega
  clear hnk0
  have hnki : (nk : Int) ≤ (bs.length : Int) := by omega
  have hli : (bs.length : Int) ≤ 4096 := by omega
  have HEN := hide (show ∀ j, fnd2 bs nk = some j → pieceP bs k = if isName ((bs.drop nk).take (j - nk)) then .nam ((bs.drop nk).take (j - nk)) true (j + 2) else .err 33 from fun j hj => by rw [hpn]; unfold namedP; rw [hnk, hj]; rw [decide_eq_true h94])
  have HENN := hide (show fnd2 bs nk = none → pieceP bs k = .err 33 from fun hj => by rw [hpn]; unfold namedP; rw [hnk, hj])
  clear h91 h58 h94 hnk hpn
  go_enter Tryz.func46, Tryz.ntmps46
  go_wp2_with fail
  refine (unhide C1).mono ?_
  rintro e w1 ⟨rfl, hw1⟩
  obtain rfl : _ = w1 := hw1.symm
  go_wp2_with fail
  refine (unhide C2).mono ?_
  rintro e w1 ⟨rfl, hw1⟩
  obtain rfl : _ = w1 := hw1.symm
  go_wp2_with fail
  go_loopw [10] (fun v wr => RMRel bs nk (w.alloc (.cells #[.int .i64 0, .int .i64 0, .int .i64 0, .string ⟨#[]⟩, .int .u8 0, .bool false] 31)) v wr) (fun v _ => bs.length - (intOf v).toNat)
  case atStart => exact ⟨nk, by first | rfl | (simp; omega), Nat.le_refl _, hnl, rfl, rfl⟩
  case round =>
    obtain ⟨m, rfl, hm0, hml, hf, rfl⟩ := hrel
    go_hideQ
    have HF := hide hf
    have hmi : (m : Int) ≤ (bs.length : Int) := by omega
    clear hf c0
    by_cases hin : m + 1 < bs.length
    · have hin' : (m : Int) + 1 < (bs.length : Int) := by omega
      have c1 := (unhide HC) m (by omega)
      have c2 := (unhide HC) (m + 1) hin
      have HGO := hide (show ¬ (g bs m = 58 ∧ g bs (m + 1) = 93) → RMRel bs nk (w.alloc (.cells #[.int .i64 0, .int .i64 0, .int .i64 0, .string ⟨#[]⟩, .int .u8 0, .bool false] 31)) (.int .i64 ((m : Int) + 1)) (w.alloc (.cells #[.int .i64 0, .int .i64 0, .int .i64 0, .string ⟨#[]⟩, .int .u8 0, .bool false] 31)) from fun h => ⟨m + 1, by push_cast; rfl, by omega, by omega, (unhide HF).trans (fnd2_miss (by omega) h), rfl⟩)
      by_cases h1 : g bs m = 58
      · by_cases h2 : g bs (m + 1) = 93
        · have hfm := (unhide HF).trans (fnd2_hit h1 h2)
          have hE := (unhide HEN) m hfm
          obtain ⟨j, hj⟩ : ∃ j, m - nk = j := ⟨_, rfl⟩
          rw [hj] at hE
          have hsum : nk + j = m := by omega
          have kc := fun c => sub_str (unhide HP) hsum (by omega) (by omega) c
          have HPC := hide (fun W (hB : Below (w.alloc (.cells #[.int .i64 0, .int .i64 0, .int .i64 0, .string ⟨#[]⟩, .int .u8 0, .bool false] 31)).heap.size (w.alloc (.cells #[.int .i64 0, .int .i64 0, .int .i64 0, .string ⟨#[]⟩, .int .u8 0, .bool false] 31)) W) c => sub_str ((unhide HP).below hB) hsum (by omega) (by omega) c)
          have hkm : (nk : Int) ≤ (m : Int) := by omega
          have hmc : (m : Int) ≤ (cap : Int) := by omega
          have hkc : ¬ cap = nk := by omega
          have hsub : (m : Int) - (nk : Int) = (j : Int) := by omega
          have hji : (j : Int) ≤ 9223372036854775807 := by omega
          have CH := hide (fun W => Cl.has_any ((bs.drop nk).take j) 0 W)
          rw [Cl.hasP_eq] at CH
          unfold Cl.H2 at CH
          rw [h1] at c1
          rw [h2] at c2
          generalize (bs.drop nk).take j = s at *
          cases hn : isName s with
          | true =>
            rw [hn] at CH
            have HE := hide (hE.trans (if_pos hn))
            clear hE hn hfm HGO h1 h2 hj hsum
            go_wp2_with fail
            refine ((unhide CH) _).mono ?_
            rintro e w1 ⟨rfl, hB⟩
            have HB1 := hide ((unhide HB0).trans (hB.mono (unhide HB0).size))
            have HK1 := hide ((unhide HK).below hB (unhide HK).lt)
            obtain ⟨⟨x0, x1, x2, x3, x4, x5⟩, y0, y1, y2, y3, y4, y5⟩ := cells6 (unhide HK1)
            have kc2 := (unhide HPC) w1 hB
            clear hB
            go_wp2_with fail
            (try simp only [Exit.inBlock, Exit.then])
            exact bodyPost_ret (results_cell2 rfl _ _ w.heap.size _ _ _ rfl rfl (set6 (unhide HK1) _ _ _ _ _ _) Tryz.underlying31 rfl (by kernel_rfl)) rfl ⟨by rw [unhide HE]; rfl, bel6 (unhide HB1) (Nat.le_refl _) _ _ _ _ _ _⟩
          | false =>
            rw [hn] at CH
            have HE := hide (hE.trans (if_neg (by rw [hn]; simp)))
            clear hE hn hfm HGO h1 h2 hj hsum
            go_wp2_with fail
            refine ((unhide CH) _).mono ?_
            rintro e w1 ⟨rfl, hB⟩
            have HB1 := hide ((unhide HB0).trans (hB.mono (unhide HB0).size))
            have HK1 := hide ((unhide HK).below hB (unhide HK).lt)
            obtain ⟨⟨x0, x1, x2, x3, x4, x5⟩, y0, y1, y2, y3, y4, y5⟩ := cells6 (unhide HK1)
            clear hB
            go_wp2_with fail
            (try simp only [Exit.inBlock, Exit.then])
            exact bodyPost_ret (results_cell2 rfl _ _ w.heap.size _ _ _ rfl rfl (set6 (unhide HK1) _ _ _ _ _ _) Tryz.underlying31 rfl (by kernel_rfl)) rfl ⟨by rw [unhide HE]; rfl, bel6 (unhide HB1) (Nat.le_refl _) _ _ _ _ _ _⟩
        · have HR := hide ((unhide HGO) (fun h => h2 h.2))
          have e2 : ((g bs (m + 1) : Int) == 93) = false := by rw [beq_eq_false_iff_ne]; omega
          have e2' : ¬ ((g bs (m + 1) : Int) = 93) := by omega
          rw [h1] at c1
          clear HGO h1 h2
          generalize g bs (m + 1) = y2 at *
          go_wp2_with fail
          have hR := unhide HR
          first
            | exact ⟨hR, by simp [intOf]; omega⟩
            | (go_roundw; (case rel => exact hR); (case measure => (simp [intOf]; omega)))
      · have HR := hide ((unhide HGO) (fun h => h1 h.1))
        have e1 : ((g bs m : Int) == 58) = false := by rw [beq_eq_false_iff_ne]; omega
        have e1' : ¬ ((g bs m : Int) = 58) := by omega
        clear HGO h1
        generalize g bs m = y1 at *
        go_wp2_with fail
        have hR := unhide HR
        first
          | exact ⟨hR, by simp [intOf]; omega⟩
          | (go_roundw; (case rel => exact hR); (case measure => (simp [intOf]; omega)))
    · have hin' : (bs.length : Int) ≤ (m : Int) + 1 := by omega
      have HE := hide ((unhide HENN) ((unhide HF).trans (fnd2_end (by omega))))
      go_wp2_with fail
      (try simp only [Exit.inBlock, Exit.then])
      exact bodyPost_ret (results_cell2 rfl _ _ w.heap.size _ _ _ rfl rfl (Blk.new _ _ _) Tryz.underlying31 rfl (by kernel_rfl)) rfl ⟨by rw [unhide HE]; rfl, (Below.refl _ _).alloc (Nat.le_refl _) _⟩
set_option maxRecDepth 100000 in
set_option maxHeartbeats 4000000 in
theorem rpiece_nam (bs : List UInt8) (A : Option Addr) (cap k : Nat) (w : World) (hP : PV bs A cap w) (hk : k < bs.length) (hl : bs.length ≤ 4096) (h91 : g bs k = 91) (h58 : g bs (k + 1) = 58) (h94 : ¬ g bs (k + 2) = 94) :
    Calls Tryz.prog 46 #[.slice A bs.length cap, .int .i64 (k : Int)] w (GivesRef (pieceP bs k) w) := by
  have hb0 : Below w.heap.size w (w.alloc (.cells #[.int .i64 0, .int .i64 0, .int .i64 0, .string ⟨#[]⟩, .int .u8 0, .bool false] 31)) := (Below.refl w.heap.size w).alloc (Nat.le_refl _) _
  have HP := hide (hP.below hb0)
  have hroom := hP.room
  have htop := hP.top
  have hki : (k : Int) < (bs.length : Int) := by omega
  have HB0 := hide hb0
  have HK := hide (Blk.new w 31 #[.int .i64 0, .int .i64 0, .int .i64 0, .string ⟨#[]⟩, .int .u8 0, .bool false])
  obtain ⟨ab, off, rfl, hb, hc⟩ := (unhide HP).cell hk
  have c0 := hc k hk
  have HC := hide hc
  clear hP hb0 hc
  have hpn : pieceP bs k = namedP bs (k + 2) := by unfold pieceP; rw [if_neg (by omega), if_pos ⟨h91, h58⟩]
  have hk1 := g_in (bs := bs) (k := k + 1) (by omega)
  have hki1 : (k : Int) + 2 ≤ (bs.length : Int) := by omega
  have C1 := hide (rat_e (unhide HP) (i := (k : Int) + 1) (k := k + 1) (c := 58) (by push_cast; rfl) h58)
  rw [h91] at c0
  obtain ⟨nk, hnk0⟩ : ∃ nk, k + 2 = nk := ⟨_, rfl⟩
  have C2 := hide (rat_e (unhide HP) (i := (nk : Int)) (k := k + 2) (c := g bs (k + 2)) (by omega) rfl)
  have hnk : nkP bs (k + 2) = nk := by unfold nkP; rw [if_neg h94]; exact hnk0
  have hnkk : (k : Int) + 2 = (nk : Int) := by omega
  have hnl : nk ≤ bs.length := by omega
  have e94 : ((g bs (k + 2) : Int) == 94) = false := by rw [beq_eq_false_iff_ne]; omega
  have e94' : ¬ ((g bs (k + 2) : Int) = 94) := by omega
  clear hnk0
  have hnki : (nk : Int) ≤ (bs.length : Int) := by omega
  have hli : (bs.length : Int) ≤ 4096 := by omega
  have HEN := hide (show ∀ j, fnd2 bs nk = some j → pieceP bs k = if isName ((bs.drop nk).take (j - nk)) then .nam ((bs.drop nk).take (j - nk)) false (j + 2) else .err 33 from fun j hj => by rw [hpn]; unfold namedP; rw [hnk, hj]; rw [decide_eq_false h94])
  have HENN := hide (show fnd2 bs nk = none → pieceP bs k = .err 33 from fun hj => by rw [hpn]; unfold namedP; rw [hnk, hj])
  clear h91 h58 h94 hnk hpn
  generalize g bs (k + 2) = y94 at *
  go_enter Tryz.func46, Tryz.ntmps46
  go_wp2_with fail
  refine (unhide C1).mono ?_
  rintro e w1 ⟨rfl, hw1⟩
  obtain rfl : _ = w1 := hw1.symm
  go_wp2_with fail
  refine (unhide C2).mono ?_
  rintro e w1 ⟨rfl, hw1⟩
  obtain rfl : _ = w1 := hw1.symm
  go_wp2_with fail
  go_loopw [10] (fun v wr => RMRel bs nk (w.alloc (.cells #[.int .i64 0, .int .i64 0, .int .i64 0, .string ⟨#[]⟩, .int .u8 0, .bool false] 31)) v wr) (fun v _ => bs.length - (intOf v).toNat)
  case atStart => exact ⟨nk, by first | rfl | (simp; omega), Nat.le_refl _, hnl, rfl, rfl⟩
  case round =>
    obtain ⟨m, rfl, hm0, hml, hf, rfl⟩ := hrel
    go_hideQ
    have HF := hide hf
    have hmi : (m : Int) ≤ (bs.length : Int) := by omega
    clear hf c0
    by_cases hin : m + 1 < bs.length
    · have hin' : (m : Int) + 1 < (bs.length : Int) := by omega
      have c1 := (unhide HC) m (by omega)
      have c2 := (unhide HC) (m + 1) hin
      have HGO := hide (show ¬ (g bs m = 58 ∧ g bs (m + 1) = 93) → RMRel bs nk (w.alloc (.cells #[.int .i64 0, .int .i64 0, .int .i64 0, .string ⟨#[]⟩, .int .u8 0, .bool false] 31)) (.int .i64 ((m : Int) + 1)) (w.alloc (.cells #[.int .i64 0, .int .i64 0, .int .i64 0, .string ⟨#[]⟩, .int .u8 0, .bool false] 31)) from fun h => ⟨m + 1, by push_cast; rfl, by omega, by omega, (unhide HF).trans (fnd2_miss (by omega) h), rfl⟩)
      by_cases h1 : g bs m = 58
      · by_cases h2 : g bs (m + 1) = 93
        · have hfm := (unhide HF).trans (fnd2_hit h1 h2)
          have hE := (unhide HEN) m hfm
          obtain ⟨j, hj⟩ : ∃ j, m - nk = j := ⟨_, rfl⟩
          rw [hj] at hE
          have hsum : nk + j = m := by omega
          have kc := fun c => sub_str (unhide HP) hsum (by omega) (by omega) c
          have HPC := hide (fun W (hB : Below (w.alloc (.cells #[.int .i64 0, .int .i64 0, .int .i64 0, .string ⟨#[]⟩, .int .u8 0, .bool false] 31)).heap.size (w.alloc (.cells #[.int .i64 0, .int .i64 0, .int .i64 0, .string ⟨#[]⟩, .int .u8 0, .bool false] 31)) W) c => sub_str ((unhide HP).below hB) hsum (by omega) (by omega) c)
          have hkm : (nk : Int) ≤ (m : Int) := by omega
          have hmc : (m : Int) ≤ (cap : Int) := by omega
          have hkc : ¬ cap = nk := by omega
          have hsub : (m : Int) - (nk : Int) = (j : Int) := by omega
          have hji : (j : Int) ≤ 9223372036854775807 := by omega
          have CH := hide (fun W => Cl.has_any ((bs.drop nk).take j) 0 W)
          rw [Cl.hasP_eq] at CH
          unfold Cl.H2 at CH
          rw [h1] at c1
          rw [h2] at c2
          generalize (bs.drop nk).take j = s at *
          cases hn : isName s with
          | true =>
            rw [hn] at CH
            have HE := hide (hE.trans (if_pos hn))
            clear hE hn hfm HGO h1 h2 hj hsum
            go_wp2_with fail
            refine ((unhide CH) _).mono ?_
            rintro e w1 ⟨rfl, hB⟩
            have HB1 := hide ((unhide HB0).trans (hB.mono (unhide HB0).size))
            have HK1 := hide ((unhide HK).below hB (unhide HK).lt)
            obtain ⟨⟨x0, x1, x2, x3, x4, x5⟩, y0, y1, y2, y3, y4, y5⟩ := cells6 (unhide HK1)
            have kc2 := (unhide HPC) w1 hB
            clear hB
            go_wp2_with fail
            (try simp only [Exit.inBlock, Exit.then])
            exact bodyPost_ret (results_cell2 rfl _ _ w.heap.size _ _ _ rfl rfl (set6 (unhide HK1) _ _ _ _ _ _) Tryz.underlying31 rfl (by kernel_rfl)) rfl ⟨by rw [unhide HE]; rfl, bel6 (unhide HB1) (Nat.le_refl _) _ _ _ _ _ _⟩
          | false =>
            rw [hn] at CH
            have HE := hide (hE.trans (if_neg (by rw [hn]; simp)))
            clear hE hn hfm HGO h1 h2 hj hsum
            go_wp2_with fail
            refine ((unhide CH) _).mono ?_
            rintro e w1 ⟨rfl, hB⟩
            have HB1 := hide ((unhide HB0).trans (hB.mono (unhide HB0).size))
            have HK1 := hide ((unhide HK).below hB (unhide HK).lt)
            obtain ⟨⟨x0, x1, x2, x3, x4, x5⟩, y0, y1, y2, y3, y4, y5⟩ := cells6 (unhide HK1)
            clear hB
            go_wp2_with fail
            (try simp only [Exit.inBlock, Exit.then])
            exact bodyPost_ret (results_cell2 rfl _ _ w.heap.size _ _ _ rfl rfl (set6 (unhide HK1) _ _ _ _ _ _) Tryz.underlying31 rfl (by kernel_rfl)) rfl ⟨by rw [unhide HE]; rfl, bel6 (unhide HB1) (Nat.le_refl _) _ _ _ _ _ _⟩
        · have HR := hide ((unhide HGO) (fun h => h2 h.2))
          have e2 : ((g bs (m + 1) : Int) == 93) = false := by rw [beq_eq_false_iff_ne]; omega
          have e2' : ¬ ((g bs (m + 1) : Int) = 93) := by omega
          rw [h1] at c1
          clear HGO h1 h2
          generalize g bs (m + 1) = y2 at *
          go_wp2_with fail
          have hR := unhide HR
          first
            | exact ⟨hR, by simp [intOf]; omega⟩
            | (go_roundw; (case rel => exact hR); (case measure => (simp [intOf]; omega)))
      · have HR := hide ((unhide HGO) (fun h => h1 h.1))
        have e1 : ((g bs m : Int) == 58) = false := by rw [beq_eq_false_iff_ne]; omega
        have e1' : ¬ ((g bs m : Int) = 58) := by omega
        clear HGO h1
        generalize g bs m = y1 at *
        go_wp2_with fail
        have hR := unhide HR
        first
          | exact ⟨hR, by simp [intOf]; omega⟩
          | (go_roundw; (case rel => exact hR); (case measure => (simp [intOf]; omega)))
    · have hin' : (bs.length : Int) ≤ (m : Int) + 1 := by omega
      have HE := hide ((unhide HENN) ((unhide HF).trans (fnd2_end (by omega))))
      go_wp2_with fail
      (try simp only [Exit.inBlock, Exit.then])
      exact bodyPost_ret (results_cell2 rfl _ _ w.heap.size _ _ _ rfl rfl (Blk.new _ _ _) Tryz.underlying31 rfl (by kernel_rfl)) rfl ⟨by rw [unhide HE]; rfl, (Below.refl _ _).alloc (Nat.le_refl _) _⟩

/-- **the reference's piece** -/
theorem rpiece_any (bs : List UInt8) (A : Option Addr) (cap k : Nat) (w : World) (hP : PV bs A cap w) (hk : k < bs.length) (hl : bs.length ≤ 4096) :
    Calls Tryz.prog 46 #[.slice A bs.length cap, .int .i64 (k : Int)] w (GivesRef (pieceP bs k) w) := by
  by_cases h92 : g bs k = 92
  · exact rpiece_esc bs A cap k w hP hk h92
  · by_cases h91 : g bs k = 91
    · by_cases h58 : g bs (k + 1) = 58
      · by_cases h94 : g bs (k + 2) = 94
        · exact rpiece_not bs A cap k w hP hk hl h91 h58 h94
        · exact rpiece_nam bs A cap k w hP hk hl h91 h58 h94
      · exact rpiece_brk bs A cap k w hP hk h91 h58
    · exact rpiece_sym bs A cap k w hP hk h92 h91
end Go.Proofs.YtdajdolhjaoeiaaGreatDoor.Sc
set_option linter.unusedVariables false
set_option linter.unusedSimpArgs false
namespace Go.Proofs.YtdajdolhjaoeiaaGreatDoor.Sc
open Go.RowKit Go.Proofs.YtdajdolhjaoeiaaGreatDoor.Mem
open Go.Proofs.YtdajdolhjaoeiaaGreatDoor.Sy (g g_of g_lt isS at_)
open Go.Proofs.YtdajdolhjaoeiaaGreatDoor.Cl (isOf isName nameL)

/-! ### parts, as the reference has them -/
def xC (x : It) : Array Value := #[.int .i64 (x.kind : Int), .int .i64 (x.to : Int), .int .i64 (x.num : Int), .string ⟨x.rname.toArray⟩, .int .u8 (x.letter : Int), .bool x.turned]
def partC : Part → Array Value
  | .rng a b => #[.int .i64 (a : Int), .int .i64 (b : Int), .int .i64 1, .int .i64 0, .int .i64 0, .string ⟨#[]⟩, .int .u8 0, .bool false]
  | .it x => #[.int .i64 0, .int .i64 0, .int .i64 (x.kind : Int), .int .i64 (x.to : Int), .int .i64 (x.num : Int), .string ⟨x.rname.toArray⟩, .int .u8 (x.letter : Int), .bool x.turned]
def partsC (l : List Part) : List Value := l.flatMap fun p => (partC p).toList
theorem partC_len (p : Part) : (partC p).toList.length = 8 := by cases p <;> rfl
theorem partC_one (p : Part) : ∀ u ∈ (partC p).toList, u.oneCell' = true := by cases p <;> simp [partC, Value.oneCell']
theorem partsC_len : ∀ l : List Part, (partsC l).length = l.length * 8
  | [] => rfl
  | p :: l => by
    have := partsC_len l
    unfold partsC at this ⊢
    rw [List.flatMap_cons, List.length_append, partC_len, this, List.length_cons]; omega
theorem partsC_snoc (l : List Part) (p : Part) : partsC (l ++ [p]) = partsC l ++ (partC p).toList := by unfold partsC; rw [List.flatMap_append]; simp
/-- what a class's part can be -/
def OkP : Part → Prop
  | .rng _ _ => True
  | .it (.cls c _) => isOf c = true
  | .it (.nam _ _ _) => True
  | .it _ => False
def AllOk (l : List Part) : Prop := ∀ p ∈ l, OkP p
theorem allOk_snoc {l : List Part} {p : Part} (h : AllOk l) (hp : OkP p) : AllOk (l ++ [p]) := fun q hq => by
  rcases List.mem_append.1 hq with h1 | h1
  · exact h q h1
  · rw [List.mem_singleton.1 h1]; exact hp
theorem info_P : (Tryz.prog.info? 85).map (fun i => (i.zero, i.size, i.bytes)) = some (some (.agg #[.int .i64 0, .int .i64 0, .int .i64 0, .int .i64 0, .int .i64 0, .string ⟨#[]⟩, .int .u8 0, .bool false]), 8, 64) := by kernel_rfl
theorem build_pR (a b : Int) (w : World) : Sem.run Tryz.prog (Instr.build 83 #[(0, .int .i64 a), (1, .int .i64 b)]) w = .ok (.agg #[.int .i64 a, .int .i64 b]) w := run_build w 83 _ _ (by kernel_rfl)
theorem build_p1 (w : World) : Sem.run Tryz.prog (Instr.build 31 #[(0, .int .i64 1)]) w = .ok (.agg #[.int .i64 1, .int .i64 0, .int .i64 0, .string ⟨#[]⟩, .int .u8 0, .bool false]) w := run_build w 31 _ _ (by kernel_rfl)
theorem build_pp (a b c d e : Int) (s : ByteArray) (l : Int) (t : Bool) (w : World) : Sem.run Tryz.prog (Instr.build 85 #[(0, .agg #[.int .i64 a, .int .i64 b]), (1, .agg #[.int .i64 c, .int .i64 d, .int .i64 e, .string s, .int .u8 l, .bool t])]) w = .ok (.agg #[.int .i64 a, .int .i64 b, .int .i64 c, .int .i64 d, .int .i64 e, .string s, .int .u8 l, .bool t]) w := run_build w 85 _ _ (by kernel_rfl)
theorem build_pi (c d e : Int) (s : ByteArray) (l : Int) (t : Bool) (w : World) : Sem.run Tryz.prog (Instr.build 85 #[(1, .agg #[.int .i64 c, .int .i64 d, .int .i64 e, .string s, .int .u8 l, .bool t])]) w = .ok (.agg #[.int .i64 0, .int .i64 0, .int .i64 c, .int .i64 d, .int .i64 e, .string s, .int .u8 l, .bool t]) w := run_build w 85 _ _ (by kernel_rfl)
theorem rv_err (c : Nat) : rItV (.err c) = .tuple #[.agg #[.int .i64 0, .int .i64 0, .int .i64 0, .string ⟨#[]⟩, .int .u8 0, .bool false], .int .i64 (c : Int)] := rfl
theorem rv_lit (n q : Nat) : rItV (.lit n q) = .tuple #[.agg #[.int .i64 1, .int .i64 (q : Int), .int .i64 (n : Int), .string ⟨#[]⟩, .int .u8 0, .bool false], .int .i64 0] := rfl
theorem rv_cls (c q : Nat) : rItV (.cls c q) = .tuple #[.agg #[.int .i64 2, .int .i64 (q : Int), .int .i64 0, .string ⟨#[]⟩, .int .u8 (c : Int), .bool false], .int .i64 0] := rfl
theorem rv_nam (s : List UInt8) (t : Bool) (q : Nat) : rItV (.nam s t q) = .tuple #[.agg #[.int .i64 2, .int .i64 (q : Int), .int .i64 0, .string ⟨s.toArray⟩, .int .u8 0, .bool t], .int .i64 0] := rfl
attribute [local go_sem] build_r0 build_r3 build_pR build_p1 build_pp build_pi Go.Proofs.YtdajdolhjaoeiaaGreatDoor.Rs.run_not_true Go.Proofs.YtdajdolhjaoeiaaGreatDoor.Rs.run_not_false

/-- the parts lie in memory -/
def PRd (l : List Part) (v : Value) (w : World) : Prop := ∃ A cap, v = .slice A l.length cap ∧ l.length ≤ cap ∧ Reads w w.heap.size 8 A l.length (partsC l)
def PCut (w : World) (l : List Part) (v : Value) (w' : World) : Prop := w'.ownsRow w.heap.size 85 8 v l.length (partsC l) ∧ Below w.heap.size w w'
def GivesRK (x : Except (Nat × Nat) (List Part × Nat)) (ng : Bool) (w : World) (e : Ending) (w' : World) : Prop := match x with
  | .error (c, pl) => e = .returned (.tuple #[.slice none 0 0, .bool false, .int .i64 0, .int .i64 (c : Int), .int .i64 (pl : Int)]) ∧ Below w.heap.size w w'
  | .ok (l, q) => ∃ v, e = .returned (.tuple #[v, .bool ng, .int .i64 (q : Int), .int .i64 0, .int .i64 0]) ∧ PRd l v w' ∧ AllOk l ∧ l.length ≤ 4096 ∧ Below w.heap.size w w'
/-- one part more -/
theorem wp_app_P {ops : Array Oper} {rest : List Oper} {o : Oper} {a : Act} {Q : Exit → Act → World → Prop} {w0 W : World} {C : Array Value} {so sn : Tmp} {g : Nat} {v : Value} (p : Part) (acc : List Part)
    (hC : C = partC p) (hgd : o.guard = none) (ho : o.op = .call { callee := .builtin .append, args := #[.tmp so, .tmp sn], argTypes := #[38, 38] }) (hs : a.eval (.tmp so) = v) (hx : a.eval (.tmp sn) = .slice (some ⟨g, 0, none⟩) 1 1) (hg : g = W.heap.size)
    (hown : W.ownsRow w0.heap.size 85 8 v acc.length (partsC acc)) (hb : Below w0.heap.size w0 W) (hl : acc.length ≤ 5000)
    (h : ∀ v' w', PCut w0 (acc ++ [p]) v' w' → (∀ g t cs, Blk W g t cs → 85 ≠ t → Blk w' g t cs) → wpList Tryz.prog ops Q rest (a.put o.dst v') w') : wpList Tryz.prog ops Q (o :: rest) a (W.alloc (.cells C 85)) := by
  subst hC
  subst hg
  obtain ⟨i0, hi0, hz0, hz1, hz2⟩ := info_parts info_P
  have hwz := hb.size
  refine wpList_append_any _ hgd (.tmp so) (.tmp sn) 38 ho w0.heap.size 85 i0 (.agg #[.int .i64 0, .int .i64 0, .int .i64 0, .int .i64 0, .int .i64 0, .string ⟨#[]⟩, .int .u8 0, .bool false]) 8 64 Tryz.underlying38 hi0 hz0 hz1 hz2 rfl (by decide) v acc.length (partsC acc) hs (hown.alloc _) (W.heap.size + 1) (some ⟨W.heap.size, 0, none⟩) 1 1 (partC p).toList hx (Rs.reads_at rfl (partC p) 85 1 8 (by cases p <;> rfl)) (partC_one p) (by unfold maxLen; omega) (by omega) (by rw [World.size_alloc]; omega) ?_
  intro v' w' ho' hg' _
  refine h v' w' ⟨by rw [partsC_snoc, List.length_append]; exact ho', Rs.below_app hb hown hg'⟩ fun g t cs hk hne => (hk.alloc _).grown hg' (fun e => own_blk_ne hown hk hne e.symm)
def RKRel (bs : List UInt8) (k f : Nat) (w : World) (i v : Value) (wr : World) : Prop := ∃ (m : Nat) (acc : List Part), i = .int .i64 m ∧ f ≤ m ∧ m ≤ bs.length ∧ clsP bs k = clsF bs k f m acc ∧ acc.length + f ≤ m ∧ AllOk acc ∧ PCut w acc v wr

theorem rg_no {bs : List UInt8} {q : Nat} (h : ¬ rgP bs q = true) : g bs q ≠ 45 ∨ (g bs q = 45 ∧ bs.length ≤ q + 1) ∨ (g bs q = 45 ∧ q + 1 < bs.length ∧ g bs (q + 1) = 93) := by
  by_cases h1 : g bs q = 45
  · by_cases h2 : q + 1 < bs.length
    · by_cases h3 : g bs (q + 1) = 93
      · exact .inr (.inr ⟨h1, h2, h3⟩)
      · exact absurd (by unfold rgP; simp [h1, h2, h3]) h
    · exact .inr (.inl ⟨h1, by omega⟩)
  · exact .inl h1
theorem own_set {W : World} {base e n g t : Nat} {v : Value} {xs : List Value} {cs : Array Value} (h : W.ownsRow base e 8 v n xs) (hk : Blk W g t cs) (hne : e ≠ t) (i : Nat) (u : Value) : (W.setCell ⟨g, i, none⟩ u).ownsRow base e 8 v n xs := by
  have hb := own_blk_ne h hk hne
  refine ⟨h.1, ?_⟩
  rcases h.2 with h | ⟨b, cap, cur, rfl, h1, h2, h3⟩
  · exact .inl h
  · have hbg : b ≠ g := fun e => hb (by rw [e]; rfl)
    exact .inr ⟨b, cap, cur, rfl, h1, (Below.heap_setCell W ⟨g, i, none⟩ u b hbg).trans h2, h3⟩
theorem own_set6 {W : World} {base e n g t : Nat} {v : Value} {xs : List Value} {cs : Array Value} (h : W.ownsRow base e 8 v n xs) (hk : Blk W g t cs) (hne : e ≠ t) (a b c d x f : Value) :
    ((((((W.setCell ⟨g, 0, none⟩ a).setCell ⟨g, 1, none⟩ b).setCell ⟨g, 2, none⟩ c).setCell ⟨g, 3, none⟩ d).setCell ⟨g, 4, none⟩ x).setCell ⟨g, 5, none⟩ f).ownsRow base e 8 v n xs :=
  own_set (own_set (own_set (own_set (own_set (own_set h hk hne 0 a) (hk.set_ 0 a) hne 1 b) ((hk.set_ 0 a).set_ 1 b) hne 2 c) (((hk.set_ 0 a).set_ 1 b).set_ 2 c) hne 3 d) ((((hk.set_ 0 a).set_ 1 b).set_ 2 c).set_ 3 d) hne 4 x) (((((hk.set_ 0 a).set_ 1 b).set_ 2 c).set_ 3 d).set_ 4 x) hne 5 f
theorem own_reads {W : World} {base e size n : Nat} {v : Value} {xs : List Value} (h : W.ownsRow base e size v n xs) : ∃ A cap, v = .slice A n cap ∧ Reads W W.heap.size size A n xs ∧ n ≤ cap := Rs.own_reads h

end Go.Proofs.YtdajdolhjaoeiaaGreatDoor.Sc
set_option linter.unusedVariables false
set_option linter.unusedSimpArgs false
namespace Go.Proofs.YtdajdolhjaoeiaaGreatDoor.Sc
open Go.Proofs.YtdajdolhjaoeiaaGreatDoor.Rs (R hasL notL mk Least inR)
open Go.Proofs.YtdajdolhjaoeiaaGreatDoor.Cl (isOf isName nameL listOf)
open Go.Proofs.YtdajdolhjaoeiaaGreatDoor.Fo (closeL orb)

def inL (l : List Part) (x : Int) : Bool := l.any fun p => inPart p x
theorem part_has {p : Part} (hok : OkP p) {x : Int} (h0 : 0 ≤ x) (h1 : x ≤ 1114367) : hasL (partL p) x = inPart p x := by
  cases p with
  | rng a b =>
    show (inR x ((a : Int), (b : Int)) || false) = (decide ((a : Int) ≤ x) && decide (x ≤ (b : Int)))
    rw [Bool.or_false]
    unfold inR
    by_cases ha : (a : Int) ≤ x <;> by_cases hb : x ≤ (b : Int) <;> simp [ha, hb, h0, h1]
  | it y =>
    cases y with
    | cls c q =>
      show hasL (listOf c) x = (decide (0 ≤ x ∧ x ≤ 1114367) && (Cl.ofP c x).1)
      rw [Cl.ofP_eq, decide_eq_true ⟨h0, h1⟩]; rfl
    | nam s t q =>
      show hasL (if t then notL (nameL s) else nameL s) x = (decide (0 ≤ x ∧ x ≤ 1114367) && ((Cl.hasP s x).1 != t))
      rw [Cl.hasP_eq, decide_eq_true ⟨h0, h1⟩]
      cases t with
      | true =>
        rw [if_pos rfl, Rs.notL_has, decide_eq_true ⟨h0, h1⟩]
        cases hasL (nameL s) x <;> rfl
      | false =>
        rw [if_neg (by simp)]
        cases hasL (nameL s) x <;> rfl
    | err e => exact hok.elim
    | lit a b => exact hok.elim
    | hld a b => exact hok.elim
    | ref a b => exact hok.elim
    | key a b => exact hok.elim
theorem all_has : ∀ (l : List Part), AllOk l → ∀ {x : Int}, 0 ≤ x → x ≤ 1114367 → hasL (allL l) x = inL l x
  | [], _, _, _, _ => rfl
  | p :: l, h, x, h0, h1 => by
    have h2 := all_has l (fun q hq => h q (List.mem_cons_of_mem _ hq)) h0 h1
    have h3 := part_has (h p List.mem_cons_self) h0 h1
    unfold hasL at h2 h3 ⊢
    unfold allL at h2 ⊢
    rw [List.flatMap_cons, List.any_append, h2, h3]
    rfl
def inF (l : List Part) (fo : Bool) (x : Int) : Bool := inL l x || (fo && (orb x).any (inL l))
theorem any_congr {α : Type} {l : List α} {f g : α → Bool} (h : ∀ x ∈ l, f x = g x) : l.any f = l.any g := by
  induction l with
  | nil => rfl
  | cons a l ih => rw [List.any_cons, List.any_cons, h a List.mem_cons_self, ih fun x hx => h x (List.mem_cons_of_mem _ hx)]
theorem mid_has (l : List Part) (hok : AllOk l) (fo : Bool) {x : Int} (h0 : 0 ≤ x) (h1 : x ≤ 1114367) : hasL (if fo then closeL (mk (allL l)) else mk (allL l)) x = inF l fo x := by
  cases fo with
  | false =>
    rw [if_neg (by simp), Rs.mk_has, all_has l hok h0 h1]
    unfold inF
    simp
  | true =>
    rw [if_pos rfl, Fo.close_any]
    have e : (orb x).any (hasL (mk (allL l))) = (orb x).any (inL l) := any_congr fun y hy => by
      have := Fo.mem_orb.1 hy
      rw [Rs.mk_has, all_has l hok this.2.1 this.2.2.1]
    rw [e]
    unfold inF
    cases h : inL l x with
    | false => simp
    | true =>
      have : (orb x).any (inL l) = true := List.any_eq_true.2 ⟨x, Fo.orb_self h0 h1, h⟩
      rw [this]; rfl
theorem whole_has (l : List Part) (hok : AllOk l) (fo ng : Bool) (x : Int) : hasL (wholeL (allL l) fo ng) x = (decide (0 ≤ x ∧ x ≤ 1114367) && (inF l fo x != ng)) := by
  by_cases h : 0 ≤ x ∧ x ≤ 1114367
  · rw [decide_eq_true h, Bool.true_and]
    unfold wholeL
    have hm := mid_has l hok fo h.1 h.2
    cases ng with
    | false => rw [if_neg (by simp), hm]; cases inF l fo x <;> rfl
    | true => rw [if_pos rfl, Rs.notL_has, hm, decide_eq_true h]; cases inF l fo x <;> rfl
  · rw [decide_eq_false h, Bool.false_and]
    cases hh : hasL (wholeL (allL l) fo ng) x with
    | false => rfl
    | true =>
      obtain ⟨r, hr, hi⟩ := List.any_eq_true.1 hh
      unfold inR at hi
      rw [decide_eq_true_eq] at hi
      exact absurd ⟨hi.1, hi.2.1⟩ h
theorem whole_least (l : List R) (fo ng : Bool) : Least (wholeL l fo ng) := by
  unfold wholeL
  cases ng with
  | true => exact Rs.notL_least _
  | false =>
    rw [if_neg (by simp)]
    cases fo with
    | true => exact Fo.close_least _
    | false => exact Rs.mk_least _
theorem part_len (p : Part) : (partL p).length ≤ 6 := by
  cases p with
  | rng a b => simp [partL]
  | it x => exact set_len x
theorem all_len : ∀ l : List Part, (allL l).length ≤ 6 * l.length
  | [] => by simp [allL]
  | p :: l => by
    have := all_len l
    have := part_len p
    unfold allL at *
    rw [List.flatMap_cons, List.length_append, List.length_cons]; omega
theorem whole_len (l : List R) (fo ng : Bool) : (wholeL l fo ng).length ≤ l.length + 6001 := by
  have h1 := Rs.mk_len l
  have h2 : (if fo then closeL (mk l) else mk l).length ≤ l.length + 6000 := by
    cases fo with
    | true => have := closeL_len (mk l); rw [if_pos rfl]; omega
    | false => rw [if_neg (by simp)]; omega
  unfold wholeL
  cases ng with
  | true => have := notL_len (if fo then closeL (mk l) else mk l); rw [if_pos rfl]; omega
  | false => rw [if_neg (by simp)]; omega
end Go.Proofs.YtdajdolhjaoeiaaGreatDoor.Sc
set_option linter.unusedVariables false
set_option linter.unusedSimpArgs false
namespace Go.Proofs.YtdajdolhjaoeiaaGreatDoor.Sc
open Go.RowKit Go.Proofs.YtdajdolhjaoeiaaGreatDoor.Mem
open Go.Proofs.YtdajdolhjaoeiaaGreatDoor.Cl (isOf isName nameL)
attribute [local go_sem] Go.Proofs.YtdajdolhjaoeiaaGreatDoor.Rs.run_not_true Go.Proofs.YtdajdolhjaoeiaaGreatDoor.Rs.run_not_false

/-- parts that are read lie flat -/
theorem reads_flat8 {w : World} {B n : Nat} {A : Option Addr} {xs : List Value} (h : Reads w B 8 A n xs) (hn : 0 < n) :
    ∃ b off, A = some ⟨b, off, none⟩ ∧ b < B ∧ ∀ j u, xs[j]? = some u → w.cell? ⟨b, off + j, none⟩ = some u := by
  obtain ⟨⟨b, off, sp⟩, rfl, hb, hc⟩ := h.2 hn
  have hl := h.1
  have h0 := hc 0 xs[0] (List.getElem?_eq_getElem (by omega))
  have e0 : (Addr.add ⟨b, off, sp⟩ 0) = ⟨b, off, sp⟩ := by unfold Addr.add; simp
  rw [e0] at h0
  obtain rfl := cell_spot h0
  exact ⟨b, off, rfl, hb, fun j u hu => by have := hc j u hu; rwa [add_flat] at this⟩
theorem partsC_at : ∀ (l : List Part) (k r : Nat) (p : Part), l[k]? = some p → r < 8 → (partsC l)[k * 8 + r]? = (partC p)[r]?
  | [], k, r, p, h, _ => by simp at h
  | q :: l, 0, r, p, h, hr => by
    obtain rfl : q = p := by simpa using h
    unfold partsC
    rw [List.flatMap_cons, Nat.zero_mul, Nat.zero_add, List.getElem?_append_left (by rw [partC_len]; exact hr), Array.getElem?_toList]
  | q :: l, k + 1, r, p, h, hr => by
    have := partsC_at l k r p (by simpa using h) hr
    unfold partsC at this ⊢
    rw [List.flatMap_cons, List.getElem?_append_right (by rw [partC_len]; omega), partC_len, ← this]
    congr 1
    omega
theorem inL_drop {l : List Part} {k : Nat} {p : Part} (h : l[k]? = some p) (x : Int) : inL (l.drop k) x = (inPart p x || inL (l.drop (k + 1)) x) := by
  obtain ⟨hk, rfl⟩ := List.getElem?_eq_some_iff.1 h
  rw [List.drop_eq_getElem_cons hk]; rfl
def JRel (l : List Part) (x : Int) (w : World) (v : Value) (wr : World) : Prop := ∃ k : Nat, v = .int .i64 (k : Int) ∧ k ≤ l.length ∧ inL l x = inL (l.drop k) x ∧ Below w.heap.size w wr

set_option maxRecDepth 100000 in
set_option maxHeartbeats 8000000 in
/-- **the reference's In** -/
theorem rin_any (l : List Part) (hok : AllOk l) (hlen : l.length ≤ 4096) (x : Int) (A : Option Addr) (cap : Nat) (w : World) (hcap : l.length ≤ cap) (h : Reads w w.heap.size 8 A l.length (partsC l)) :
    Calls Tryz.prog 17 #[.slice A l.length cap, .int .i64 x] w fun e w' => e = .returned (.bool (inL l x)) ∧ Below w.heap.size w w' := by
  have HH := hide h
  have HOK := hide hok
  have hli : (l.length : Int) ≤ 4096 := by omega
  clear h hok
  go_enter Tryz.func17, Tryz.ntmps17
  go_wp2_with fail
  go_loopw [5] (fun v wr => JRel l x w v wr) (fun v _ => l.length - (intOf v).toNat)
  case atStart => exact ⟨0, rfl, Nat.zero_le _, by simp, Below.refl _ _⟩
  case round =>
    obtain ⟨k, rfl, hk, hf, hb⟩ := hrel
    go_hideQ
    have HB := hide hb
    have HF := hide hf
    clear hb hf
    by_cases hin : k < l.length
    · have hin' : (k : Int) < (l.length : Int) := by omega
      obtain ⟨p, hp⟩ : ∃ p, l[k]? = some p := ⟨_, List.getElem?_eq_getElem hin⟩
      have hd := inL_drop hp x
      have hokp := (unhide HOK) p (List.mem_of_getElem? hp)
      obtain ⟨b, off, rfl, hbb, hc⟩ := reads_flat8 (unhide HH) (by omega)
      have HC := hide (show ∀ r u, r < 8 → (partC p)[r]? = some u → wr.cell? ⟨b, off + k * 8 + r, none⟩ = some u from fun r u hr hu => ((unhide HB).cell (p := ⟨b, off + k * 8 + r, none⟩) hbb).trans (by rw [Nat.add_assoc]; exact hc (k * 8 + r) u ((partsC_at l k r p hp hr).trans hu)))
      have HY := hide (show inPart p x = true → inL l x = true from fun e => by rw [unhide HF, hd, e]; rfl)
      have HNO := hide (show inPart p x = false → ∀ W, Below w.heap.size w W → JRel l x w (.int .i64 ((k : Int) + 1)) W from fun e W hW => ⟨k + 1, by push_cast; rfl, by omega, by rw [unhide HF, hd, e]; rfl, hW⟩)
      clear hc hbb hd hp HH HF HOK
      cases p with
      | rng a c =>
        have c0 := (unhide HC) 0 (.int .i64 (a : Int)) (by omega) rfl
        have c1 := (unhide HC) 1 (.int .i64 (c : Int)) (by omega) rfl
        have c2 := (unhide HC) 2 (.int .i64 1) (by omega) rfl
        rw [Nat.add_zero] at c0
        clear HC hokp
        by_cases h1 : (a : Int) ≤ x
        · by_cases h2 : x ≤ (c : Int)
          · have HQ := hide ((unhide HY) (by show (decide _ && decide _) = true; rw [decide_eq_true h1, decide_eq_true h2]; rfl))
            clear HY HNO
            go_wp2_with fail
            go_ret
            exact ⟨by rw [unhide HQ]; rfl, unhide HB⟩
          · have HR := hide ((unhide HNO) (by show (decide _ && decide _) = false; rw [decide_eq_false h2, Bool.and_false]) wr (unhide HB))
            have h2' : (c : Int) < x := by omega
            clear HY HNO h2
            go_wp2_with fail
            have hR := unhide HR
            first | exact ⟨hR, by simp [intOf]; omega⟩ | (go_roundw; (case rel => exact hR); (case measure => (simp [intOf]; omega)))
        · have HR := hide ((unhide HNO) (by show (decide _ && decide _) = false; rw [decide_eq_false h1, Bool.false_and]) wr (unhide HB))
          have h1' : x < (a : Int) := by omega
          clear HY HNO h1
          go_wp2_with fail
          have hR := unhide HR
          first | exact ⟨hR, by simp [intOf]; omega⟩ | (go_roundw; (case rel => exact hR); (case measure => (simp [intOf]; omega)))
      | it y =>
        cases y with
        | cls c q =>
          have c2 := (unhide HC) 2 (.int .i64 2) (by omega) rfl
          have c3 : wr.cell? ⟨b, off + k * 8 + 2 + 1, none⟩ = _ := (unhide HC) 3 (.int .i64 (q : Int)) (by omega) rfl
          have c4 : wr.cell? ⟨b, off + k * 8 + 2 + 2, none⟩ = _ := (unhide HC) 4 (.int .i64 0) (by omega) rfl
          have c5 : wr.cell? ⟨b, off + k * 8 + 2 + 3, none⟩ = _ := (unhide HC) 5 (.string ⟨#[]⟩) (by omega) rfl
          have c6 : wr.cell? ⟨b, off + k * 8 + 2 + 4, none⟩ = _ := (unhide HC) 6 (.int .u8 (c : Int)) (by omega) rfl
          have c7 : wr.cell? ⟨b, off + k * 8 + 2 + 5, none⟩ = _ := (unhide HC) 7 (.bool false) (by omega) rfl
          have CH := hide (rhas_raw 2 q 0 [] c false x wr)
          have HEQ : (decide (0 ≤ x ∧ x ≤ 1114367) && (if 0 < c then (Cl.ofP c x).1 else ((Cl.hasP [] x).1 != false))) = inPart (.it (.cls c q)) x := by
            rw [if_pos (show 0 < c from by
              rcases Nat.eq_zero_or_pos c with rfl | h
              · cases hokp
              · exact h)]
            rfl
          rw [HEQ] at CH
          clear HC hokp HEQ
          generalize inPart (.it (.cls c q)) x = z at *
          cases z with
          | true =>
            have HQ := hide ((unhide HY) rfl)
            clear HY HNO
            go_wp2_with fail
            refine (unhide CH).mono ?_
            rintro e w5 ⟨rfl, hB⟩
            have HB5 := hide ((unhide HB).trans (hB.mono (unhide HB).size))
            clear hB
            go_wp2_with fail
            go_ret
            exact ⟨by rw [unhide HQ]; rfl, unhide HB5⟩
          | false =>
            go_wp2_with fail
            refine (unhide CH).mono ?_
            rintro e w5 ⟨rfl, hB⟩
            have HR := hide ((unhide HNO) (by first | rfl | trivial) w5 ((unhide HB).trans (hB.mono (unhide HB).size)))
            clear hB
            go_wp2_with fail
            have hR := unhide HR
            first | exact ⟨hR, by simp [intOf]; omega⟩ | (go_roundw; (case rel => exact hR); (case measure => (simp [intOf]; omega)))
        | nam s t q =>
          have c2 := (unhide HC) 2 (.int .i64 2) (by omega) rfl
          have c3 : wr.cell? ⟨b, off + k * 8 + 2 + 1, none⟩ = _ := (unhide HC) 3 (.int .i64 (q : Int)) (by omega) rfl
          have c4 : wr.cell? ⟨b, off + k * 8 + 2 + 2, none⟩ = _ := (unhide HC) 4 (.int .i64 0) (by omega) rfl
          have c5 : wr.cell? ⟨b, off + k * 8 + 2 + 3, none⟩ = _ := (unhide HC) 5 (.string ⟨s.toArray⟩) (by omega) rfl
          have c6 : wr.cell? ⟨b, off + k * 8 + 2 + 4, none⟩ = _ := (unhide HC) 6 (.int .u8 0) (by omega) rfl
          have c7 : wr.cell? ⟨b, off + k * 8 + 2 + 5, none⟩ = _ := (unhide HC) 7 (.bool t) (by omega) rfl
          have CH := hide (rhas_raw 2 q 0 s 0 t x wr)
          have HEQ : (decide (0 ≤ x ∧ x ≤ 1114367) && (if 0 < 0 then (Cl.ofP 0 x).1 else ((Cl.hasP s x).1 != t))) = inPart (.it (.nam s t q)) x := rfl
          rw [HEQ] at CH
          clear HC hokp HEQ
          generalize inPart (.it (.nam s t q)) x = z at *
          cases z with
          | true =>
            have HQ := hide ((unhide HY) rfl)
            clear HY HNO
            go_wp2_with fail
            refine (unhide CH).mono ?_
            rintro e w5 ⟨rfl, hB⟩
            have HB5 := hide ((unhide HB).trans (hB.mono (unhide HB).size))
            clear hB
            go_wp2_with fail
            go_ret
            exact ⟨by rw [unhide HQ]; rfl, unhide HB5⟩
          | false =>
            go_wp2_with fail
            refine (unhide CH).mono ?_
            rintro e w5 ⟨rfl, hB⟩
            have HR := hide ((unhide HNO) (by first | rfl | trivial) w5 ((unhide HB).trans (hB.mono (unhide HB).size)))
            clear hB
            go_wp2_with fail
            have hR := unhide HR
            first | exact ⟨hR, by simp [intOf]; omega⟩ | (go_roundw; (case rel => exact hR); (case measure => (simp [intOf]; omega)))
        | err e => exact hokp.elim
        | lit a c => exact hokp.elim
        | hld a c => exact hokp.elim
        | ref a c => exact hokp.elim
        | key a c => exact hokp.elim
    · obtain rfl : k = l.length := by omega
      have HQ := hide (show inL l x = false by rw [unhide HF, List.drop_length]; rfl)
      clear HF
      go_wp2_with fail
      go_ret
      exact ⟨by rw [unhide HQ]; rfl, unhide HB⟩
end Go.Proofs.YtdajdolhjaoeiaaGreatDoor.Sc
