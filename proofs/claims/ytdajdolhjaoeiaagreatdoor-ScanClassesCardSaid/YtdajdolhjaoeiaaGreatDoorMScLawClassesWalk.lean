/-
  ScanClasses, walked: true at any bytes, any place, folded or not, any number. Conditions: the bytes lie in memory; the tables hold what the program's text lays.
-/
import Derived.Test.YtdajdolhjaoeiaaGreatDoorMScLawEscapesWalk
import Derived.Test.YtdajdolhjaoeiaaGreatDoorMScRClass
import Derived.Test.YtdajdolhjaoeiaaGreatDoorMScRK
import Derived.Test.YtdajdolhjaoeiaaGreatDoorMFoB
set_option linter.unusedVariables false
set_option linter.unusedSimpArgs false
namespace Go.Proofs.YtdajdolhjaoeiaaGreatDoor.Sc
open Go.RowKit Go.Proofs.YtdajdolhjaoeiaaGreatDoor.Mem
open Go.Proofs.YtdajdolhjaoeiaaGreatDoor.Sy (g g_of g_lt isS)
open Go.Proofs.YtdajdolhjaoeiaaGreatDoor.Rs (R Lst hasL Least)
open Go.Proofs.YtdajdolhjaoeiaaGreatDoor.Cl (isOf listOf)
open Go.Proofs.YtdajdolhjaoeiaaGreatDoor.Fo (orb)
attribute [local go_sem] Go.Proofs.YtdajdolhjaoeiaaGreatDoor.Rs.run_not_true Go.Proofs.YtdajdolhjaoeiaaGreatDoor.Rs.run_not_false

theorem clsF_bad {bs : List UInt8} {i f c pl : Nat} : ∀ (n k : Nat) (acc : List Part), bs.length - k ≤ n → clsF bs i f k acc = .error (c, pl) → c ≠ 0
  | n, k, acc, hn, h => by
    rw [clsF] at h
    split at h
    · rename_i hk
      split at h
      · cases h
      · have hp := part_in hk
        cases hx : partP bs k with
        | error e =>
          rw [hx] at h hp
          obtain ⟨c', pl'⟩ := e
          simp only [Except.error.injEq, Prod.mk.injEq] at h
          rw [← h.1]; exact hp.1
        | ok pq =>
          rw [hx] at h hp
          obtain ⟨p, q⟩ := pq
          simp only [] at h
          rw [dif_pos hp.1] at h
          match n, hn with
          | 0, hn => omega
          | n + 1, hn => exact clsF_bad n q _ (by have := hp.1; omega) h
    · simp only [Except.error.injEq, Prod.mk.injEq] at h
      omega
theorem clsz_bad {bs : List UInt8} {i : Int} {c pl : Nat} (h : clsz bs i = .error (c, pl)) : c ≠ 0 := by
  unfold clsz at h
  split at h
  · exact clsF_bad _ _ _ (Nat.le_refl _) h
  · simp only [Except.error.injEq, Prod.mk.injEq] at h
    omega
theorem reads_int {w : World} {B : Nat} {A : Option Addr} {zs : List Int} (h : Reads w B 1 A zs.length (zs.map i64)) {k : Nat} (hk : k < zs.length) : ∃ b off, A = some ⟨b, off, none⟩ ∧ b < B ∧ w.cell? ⟨b, off + k, none⟩ = some (.int .i64 zs[k]) := by
  obtain ⟨b, off, e, hb, hc⟩ := h.flat (by omega)
  exact ⟨b, off, e, hb, hc k _ (by rw [List.getElem?_map, List.getElem?_eq_getElem hk]; rfl)⟩
def OnRel (n : Int) (g4 : Nat) (w3 : World) (v : Value) (wr : World) : Prop := ∃ k : Nat, v = .int .i64 (k : Int) ∧ k ≤ 37 ∧ Blk wr g4 3 (numsA n) ∧ Below w3.heap.size w3 wr
def InRel (l : List Part) (y : Int) (w6 : World) (u v : Value) (wr : World) : Prop := ∃ j : Nat, v = .int .i64 (j : Int) ∧ j ≤ (orb y).length ∧ u = .bool (inL l y || ((orb y).take j).any (inL l)) ∧ Below w6.heap.size w6 wr
theorem inF_true (l : List Part) (y : Int) : (inL l y || ((orb y).take (orb y).length).any (inL l)) = inF l true y := by rw [List.take_length]; rfl
theorem inF_false (l : List Part) (y : Int) : inL l y = inF l false y := by unfold inF; simp
theorem take_any {l : List Int} {j : Nat} (hj : j < l.length) (f : Int → Bool) : (l.take (j + 1)).any f = ((l.take j).any f || f l[j]) := by
  rw [List.take_succ_eq_append_getElem hj, List.any_append]; simp

set_option maxRecDepth 100000 in
set_option maxHeartbeats 16000000 in
theorem classes_false (A : Option Addr) (cap : Nat) (bs : List UInt8) (i n : Int) (w : World) (hG : Gl w) (hP : PV bs A cap w) (hl : bs.length ≤ 300) (l : List Part) (q : Nat) (hx : clsz bs i = .ok (l, q)) :
    Calls Tryz.prog 4 #[.slice A bs.length cap, .int .i64 i, .bool false, .int .i64 n] w fun e w' => e = .returned (.bool true) ∧ Below w.heap.size w w' := by
  have CA := hide (anchor_any w hG)
  have hli : (bs.length : Int) ≤ 300 := by omega
  have C1 := hide (fun W (hB : Below w.heap.size w W) => class_any bs A cap i false W (hP.below hB) (hG.below hB) (by omega))
  have C2 := hide (fun W (hB : Below w.heap.size w W) => rclass_any bs A cap i W (hP.below hB) (by omega))
  rw [hx] at C1 C2
  clear hP hG hx
  generalize notz bs i = ng at *
  unfold GivesK at C1
  unfold GivesRK at C2
  simp only [] at C1 C2
  go_enter Tryz.func4, Tryz.ntmps4
  go_wp2_with fail
  refine (unhide CA).mono ?_
  rintro e w1 ⟨rfl, hB⟩
  have HB1 := hide hB
  clear hB CA
  go_wp2_with fail
  refine ((unhide C1) _ (unhide HB1)).mono ?_
  rintro e w2 ⟨v2, rfl, hlies, hB⟩
  obtain ⟨A2, c2, rfl, hc2, hm2, hL2, -⟩ := hlies
  have HB2 := hide ((unhide HB1).trans (hB.mono (unhide HB1).size))
  have HL2 := hide hL2
  clear hB C1 HB1 hL2 hm2
  go_wp2_with fail
  refine ((unhide C2) _ (unhide HB2)).mono ?_
  rintro e w3 ⟨v3, rfl, ⟨A3, c3, rfl, hc3, hr3⟩, hok, hl4, hB⟩
  have HB3 := hide ((unhide HB2).trans (hB.mono (unhide HB2).size))
  have HL3 := hide (((unhide HL2).below hB).more hB.size)
  have HR3 := hide hr3
  have HOK := hide hok
  have hal := all_len l
  have hwl := whole_len (allL l) false ng
  have HLEN := hide (show (wholeL (allL l) false ng).length ≤ 8796093021952 by omega)
  have HC2 := hide hc2
  have HC3 := hide hc3
  have HL4 := hide hl4
  clear hB C2 HB2 HL2 hr3 hok hal hwl hc2 hc3 hl4
  have CN := hide (numbers_any n w3)
  go_wp2_with fail
  refine (unhide CN).mono ?_
  rintro e w4 ⟨rfl, hN, hB⟩
  have H0 := hide (show OnRel n w3.heap.size w3 (.int .i64 0) w4 from ⟨0, rfl, by omega, hN, hB⟩)
  clear hN hB CN
  go_wp2_with fail
  go_loopw [67] (fun v wr => OnRel n w3.heap.size w3 v wr) (fun v _ => 37 - (intOf v).toNat)
  case atStart => exact unhide H0
  case round =>
    obtain ⟨k, rfl, hk, hbk, hbw⟩ := hrel
    go_hideQ
    have HBK := hide hbk
    have HBR := hide hbw
    clear hbw H0
    by_cases hin : k < 37
    · obtain ⟨y, hy⟩ := nums_at (x := n) hin
      have c1 : wr.cell? ⟨w3.heap.size, k, none⟩ = some (.int .i64 y) := (hbk.cell k).trans hy
      have hin' : (k : Int) < 37 := by omega
      have CI := hide (fun (x : Int) W (hb : Below w3.heap.size w3 W) => rin_any l (unhide HOK) (unhide HL4) x A3 c3 W (unhide HC3) (((unhide HR3).below hb).more hb.size))
      have CI1 := hide ((unhide CI) y wr (unhide HBR))
      have hok0 := unhide HOK
      have HOK0 := hide hok0
      clear hbk hy hok0
      go_wp2_with fail
      refine (unhide CI1).mono ?_
      rintro e w5 ⟨rfl, hB⟩
      have HB5 := hide ((unhide HBR).trans (hB.mono (unhide HBR).size))
      have HW5 := hide hB
      clear hB CI1 c1
      have hz := inF_false l y
      obtain ⟨z, hzz⟩ : ∃ z, inL l y = z := ⟨_, rfl⟩
      rw [hzz] at hz ⊢
      replace hz := hz.symm
      have HRW := hide (unhide HW5)
      have HBW := hide (unhide HB5)
      have hok0 := unhide HOK
      have hlen0 := unhide HLEN
      clear HW5 HB5
      have hws := whole_has l hok0 false ng y
      have CHS := hide (Rs.has_any (wholeL (allL l) false ng) y A2 c2 w5 (by omega) (((unhide HL3).below (unhide HBW)).more (unhide HBW).size))
      rw [hws, hz] at CHS
      clear hws
      by_cases h0 : y < 0
      · rw [decide_eq_false (show ¬ (0 ≤ y ∧ y ≤ 1114367) by omega), Bool.false_and] at CHS
        clear hz
        go_wp2_with fail
        refine (unhide CHS).mono ?_
        rintro e w9 ⟨rfl, hB⟩
        have HR := hide (show OnRel n w3.heap.size w3 (.int .i64 ((k : Int) + 1)) w9 from ⟨k + 1, by push_cast; rfl, by omega, ((unhide HBK).below (unhide HRW) (unhide HBK).lt).below hB (Nat.lt_of_lt_of_le (unhide HBK).lt (unhide HRW).size), (unhide HBW).trans (hB.mono (unhide HBW).size)⟩)
        clear hB
        go_wp2_with fail
        have hR := unhide HR
        first | exact ⟨hR, by simp [intOf]; omega⟩ | (go_roundw; (case rel => exact hR); (case measure => (simp [intOf]; omega)))
      · by_cases h1 : 1114367 < y
        · rw [decide_eq_false (show ¬ (0 ≤ y ∧ y ≤ 1114367) by omega), Bool.false_and] at CHS
          have h0' : 0 ≤ y := by omega
          clear hz h0
          go_wp2_with fail
          refine (unhide CHS).mono ?_
          rintro e w9 ⟨rfl, hB⟩
          have HR := hide (show OnRel n w3.heap.size w3 (.int .i64 ((k : Int) + 1)) w9 from ⟨k + 1, by push_cast; rfl, by omega, ((unhide HBK).below (unhide HRW) (unhide HBK).lt).below hB (Nat.lt_of_lt_of_le (unhide HBK).lt (unhide HRW).size), (unhide HBW).trans (hB.mono (unhide HBW).size)⟩)
          clear hB
          go_wp2_with fail
          have hR := unhide HR
          first | exact ⟨hR, by simp [intOf]; omega⟩ | (go_roundw; (case rel => exact hR); (case measure => (simp [intOf]; omega)))
        · rw [decide_eq_true (show 0 ≤ y ∧ y ≤ 1114367 by omega), Bool.true_and] at CHS
          have h0' : 0 ≤ y := by omega
          have h1' : y ≤ 1114367 := by omega
          clear hz h0 h1
          cases z <;> cases ng
          all_goals
            go_wp2_with fail
            refine (unhide CHS).mono ?_
            rintro e w9 ⟨rfl, hB⟩
            have HR := hide (show OnRel n w3.heap.size w3 (.int .i64 ((k : Int) + 1)) w9 from ⟨k + 1, by push_cast; rfl, by omega, ((unhide HBK).below (unhide HRW) (unhide HBK).lt).below hB (Nat.lt_of_lt_of_le (unhide HBK).lt (unhide HRW).size), (unhide HBW).trans (hB.mono (unhide HBW).size)⟩)
            clear hB
            go_wp2_with fail
            have hR := unhide HR
            first | exact ⟨hR, by simp [intOf]; omega⟩ | (go_roundw; (case rel => exact hR); (case measure => (simp [intOf]; omega)))
    · have hin' : (37 : Int) ≤ (k : Int) := by omega
      have hwl := unhide HLEN
      have CG := hide (Rs.right_any (wholeL (allL l) false ng) A2 c2 wr (by omega) (unhide HC2) (((unhide HL3).below (unhide HBR)).more (unhide HBR).size))
      rw [decide_eq_true (whole_least (allL l) false ng)] at CG
      clear hbk hwl
      go_wp2_with fail
      refine (unhide CG).mono ?_
      rintro e w5 ⟨rfl, hB⟩
      have HB5 := hide ((unhide HB3).trans (((unhide HBR).trans (hB.mono (unhide HBR).size)).mono (unhide HB3).size))
      clear hB
      go_wp2_with fail
      go_ret
      exact ⟨rfl, unhide HB5⟩
set_option maxRecDepth 100000 in
set_option maxHeartbeats 16000000 in
theorem classes_true (A : Option Addr) (cap : Nat) (bs : List UInt8) (i n : Int) (w : World) (hG : Gl w) (hP : PV bs A cap w) (hl : bs.length ≤ 300) (l : List Part) (q : Nat) (hx : clsz bs i = .ok (l, q)) :
    Calls Tryz.prog 4 #[.slice A bs.length cap, .int .i64 i, .bool true, .int .i64 n] w fun e w' => e = .returned (.bool true) ∧ Below w.heap.size w w' := by
  have CA := hide (anchor_any w hG)
  have hli : (bs.length : Int) ≤ 300 := by omega
  have C1 := hide (fun W (hB : Below w.heap.size w W) => class_any bs A cap i true W (hP.below hB) (hG.below hB) (by omega))
  have C2 := hide (fun W (hB : Below w.heap.size w W) => rclass_any bs A cap i W (hP.below hB) (by omega))
  rw [hx] at C1 C2
  clear hP hG hx
  generalize notz bs i = ng at *
  unfold GivesK at C1
  unfold GivesRK at C2
  simp only [] at C1 C2
  go_enter Tryz.func4, Tryz.ntmps4
  go_wp2_with fail
  refine (unhide CA).mono ?_
  rintro e w1 ⟨rfl, hB⟩
  have HB1 := hide hB
  clear hB CA
  go_wp2_with fail
  refine ((unhide C1) _ (unhide HB1)).mono ?_
  rintro e w2 ⟨v2, rfl, hlies, hB⟩
  obtain ⟨A2, c2, rfl, hc2, hm2, hL2, -⟩ := hlies
  have HB2 := hide ((unhide HB1).trans (hB.mono (unhide HB1).size))
  have HL2 := hide hL2
  clear hB C1 HB1 hL2 hm2
  go_wp2_with fail
  refine ((unhide C2) _ (unhide HB2)).mono ?_
  rintro e w3 ⟨v3, rfl, ⟨A3, c3, rfl, hc3, hr3⟩, hok, hl4, hB⟩
  have HB3 := hide ((unhide HB2).trans (hB.mono (unhide HB2).size))
  have HL3 := hide (((unhide HL2).below hB).more hB.size)
  have HR3 := hide hr3
  have HOK := hide hok
  have hal := all_len l
  have hwl := whole_len (allL l) true ng
  have HLEN := hide (show (wholeL (allL l) true ng).length ≤ 8796093021952 by omega)
  have HC2 := hide hc2
  have HC3 := hide hc3
  have HL4 := hide hl4
  clear hB C2 HB2 HL2 hr3 hok hal hwl hc2 hc3 hl4
  have CN := hide (numbers_any n w3)
  go_wp2_with fail
  refine (unhide CN).mono ?_
  rintro e w4 ⟨rfl, hN, hB⟩
  have H0 := hide (show OnRel n w3.heap.size w3 (.int .i64 0) w4 from ⟨0, rfl, by omega, hN, hB⟩)
  clear hN hB CN
  go_wp2_with fail
  go_loopw [67] (fun v wr => OnRel n w3.heap.size w3 v wr) (fun v _ => 37 - (intOf v).toNat)
  case atStart => exact unhide H0
  case round =>
    obtain ⟨k, rfl, hk, hbk, hbw⟩ := hrel
    go_hideQ
    have HBK := hide hbk
    have HBR := hide hbw
    clear hbw H0
    by_cases hin : k < 37
    · obtain ⟨y, hy⟩ := nums_at (x := n) hin
      have c1 : wr.cell? ⟨w3.heap.size, k, none⟩ = some (.int .i64 y) := (hbk.cell k).trans hy
      have hin' : (k : Int) < 37 := by omega
      have CI := hide (fun (x : Int) W (hb : Below w3.heap.size w3 W) => rin_any l (unhide HOK) (unhide HL4) x A3 c3 W (unhide HC3) (((unhide HR3).below hb).more hb.size))
      have CI1 := hide ((unhide CI) y wr (unhide HBR))
      have hok0 := unhide HOK
      have HOK0 := hide hok0
      clear hbk hy hok0
      go_wp2_with fail
      refine (unhide CI1).mono ?_
      rintro e w5 ⟨rfl, hB⟩
      have HB5 := hide ((unhide HBR).trans (hB.mono (unhide HBR).size))
      have HW5 := hide hB
      clear hB CI1 c1
      have CO := hide (Fo.orbit_any y w5)
      go_wp2_with fail
      refine (unhide CO).mono ?_
      rintro e w6 ⟨v6, l6, rfl, ho6, -, hcut⟩
      obtain rfl := Fo.orb_unique ho6
      obtain ⟨A6, c6, rfl, hr6, hc6⟩ := Fo.own_reads hcut.1
      have HR6 := hide hr6
      have HB6 := hide ((unhide HB5).trans (hcut.2.mono (unhide HB5).size))
      have HW6 := hide ((unhide HW5).trans (hcut.2.mono (unhide HW5).size))
      have hol := Fo.orb_three y
      have H1 := hide (show InRel l y w6 (.bool (inL l y)) (.int .i64 0) w6 from ⟨0, rfl, Nat.zero_le _, by simp, Below.refl _ _⟩)
      clear CO ho6 hcut hr6 HB5 HW5
      go_wp2_with fail
      go_loopw [20, 78] (fun u v wi => InRel l y w6 u v wi) (fun _ v _ => (orb y).length - (intOf v).toNat)
      case atStart => exact unhide H1
      case round =>
        obtain ⟨j, rfl, hj, rfl, hbi⟩ := hrel
        go_hideQ
        have HBI := hide hbi
        clear hbi H1
        by_cases hjn : j < (orb y).length
        · have hjn' : (j : Int) < ((orb y).length : Int) := by omega
          obtain ⟨b6, o6, rfl, hb6, hc⟩ := reads_int (unhide HR6) hjn
          have c1 : wr.cell? ⟨b6, o6 + j, none⟩ = some (.int .i64 (orb y)[j]) := ((unhide HBI).cell (p := ⟨b6, o6 + j, none⟩) hb6).trans hc
          have HTA := hide (take_any hjn (inL l))
          have CI2 := hide ((unhide CI) (orb y)[j] wr ((unhide HB6).trans ((unhide HBI).mono (unhide HB6).size)))
          generalize hx : (orb y)[j] = x at *
          obtain ⟨z, hz⟩ : ∃ z, (inL l y || ((orb y).take j).any (inL l)) = z := ⟨_, rfl⟩
          rw [hz]
          have HST := hide (fun W (hW : Below w6.heap.size w6 W) (z2 : Bool) (h : (z || inL l x) = z2) => (show InRel l y w6 (.bool z2) (.int .i64 ((j : Int) + 1)) W from ⟨j + 1, by push_cast; rfl, by omega, by rw [unhide HTA, ← Bool.or_assoc, hz]; first | rw [h] | rw [hx, h], hW⟩))
          clear hc hb6 HTA hz hx
          cases z with
          | true =>
            have HR := hide ((unhide HST) wr (unhide HBI) true rfl)
            clear HST CI2
            go_wp2_with fail
            have hR := unhide HR
            first | exact ⟨hR, by simp [intOf]; omega⟩ | (go_roundw; (case rel => exact hR); (case measure => (simp [intOf]; omega)))
          | false =>
            go_wp2_with fail
            refine (unhide CI2).mono ?_
            rintro e w7 ⟨rfl, hB⟩
            have HR := hide ((unhide HST) w7 ((unhide HBI).trans (hB.mono (unhide HBI).size)) (inL l x) (Bool.false_or _))
            clear HST CI2 hB
            generalize inL l x = z2 at *
            go_wp2_with fail
            have hR := unhide HR
            first | exact ⟨hR, by simp [intOf]; omega⟩ | (go_roundw; (case rel => exact hR); (case measure => (simp [intOf]; omega)))
        · obtain rfl : j = (orb y).length := by omega
          have hz := inF_true l y
          obtain ⟨z, hzz⟩ : ∃ z, (inL l y || ((orb y).take (orb y).length).any (inL l)) = z := ⟨_, rfl⟩
          rw [hzz] at hz ⊢
          replace hz := hz.symm
          have HRW := hide ((unhide HW6).trans ((unhide HBI).mono (unhide HW6).size))
          have HBW := hide ((unhide HB6).trans ((unhide HBI).mono (unhide HB6).size))
          have hok0 := unhide HOK
          have hlen0 := unhide HLEN
          clear HW6 HB6 HBI hzz
          have hws := whole_has l hok0 true ng y
          have CHS := hide (Rs.has_any (wholeL (allL l) true ng) y A2 c2 wr (by omega) (((unhide HL3).below (unhide HBW)).more (unhide HBW).size))
          rw [hws, hz] at CHS
          clear hws
          by_cases h0 : y < 0
          · rw [decide_eq_false (show ¬ (0 ≤ y ∧ y ≤ 1114367) by omega), Bool.false_and] at CHS
            clear hz
            go_wp2_with fail
            refine (unhide CHS).mono ?_
            rintro e w9 ⟨rfl, hB⟩
            have HR := hide (show OnRel n w3.heap.size w3 (.int .i64 ((k : Int) + 1)) w9 from ⟨k + 1, by push_cast; rfl, by omega, ((unhide HBK).below (unhide HRW) (unhide HBK).lt).below hB (Nat.lt_of_lt_of_le (unhide HBK).lt (unhide HRW).size), (unhide HBW).trans (hB.mono (unhide HBW).size)⟩)
            clear hB
            go_wp2_with fail
            have hR := unhide HR
            first | exact ⟨hR, by simp [intOf]; omega⟩ | (go_roundw; (case rel => exact hR); (case measure => (simp [intOf]; omega)))
          · by_cases h1 : 1114367 < y
            · rw [decide_eq_false (show ¬ (0 ≤ y ∧ y ≤ 1114367) by omega), Bool.false_and] at CHS
              have h0' : 0 ≤ y := by omega
              clear hz h0
              go_wp2_with fail
              refine (unhide CHS).mono ?_
              rintro e w9 ⟨rfl, hB⟩
              have HR := hide (show OnRel n w3.heap.size w3 (.int .i64 ((k : Int) + 1)) w9 from ⟨k + 1, by push_cast; rfl, by omega, ((unhide HBK).below (unhide HRW) (unhide HBK).lt).below hB (Nat.lt_of_lt_of_le (unhide HBK).lt (unhide HRW).size), (unhide HBW).trans (hB.mono (unhide HBW).size)⟩)
              clear hB
              go_wp2_with fail
              have hR := unhide HR
              first | exact ⟨hR, by simp [intOf]; omega⟩ | (go_roundw; (case rel => exact hR); (case measure => (simp [intOf]; omega)))
            · rw [decide_eq_true (show 0 ≤ y ∧ y ≤ 1114367 by omega), Bool.true_and] at CHS
              have h0' : 0 ≤ y := by omega
              have h1' : y ≤ 1114367 := by omega
              clear hz h0 h1
              cases z <;> cases ng
              all_goals
                go_wp2_with fail
                refine (unhide CHS).mono ?_
                rintro e w9 ⟨rfl, hB⟩
                have HR := hide (show OnRel n w3.heap.size w3 (.int .i64 ((k : Int) + 1)) w9 from ⟨k + 1, by push_cast; rfl, by omega, ((unhide HBK).below (unhide HRW) (unhide HBK).lt).below hB (Nat.lt_of_lt_of_le (unhide HBK).lt (unhide HRW).size), (unhide HBW).trans (hB.mono (unhide HBW).size)⟩)
                clear hB
                go_wp2_with fail
                have hR := unhide HR
                first | exact ⟨hR, by simp [intOf]; omega⟩ | (go_roundw; (case rel => exact hR); (case measure => (simp [intOf]; omega)))
    · have hin' : (37 : Int) ≤ (k : Int) := by omega
      have hwl := unhide HLEN
      have CG := hide (Rs.right_any (wholeL (allL l) true ng) A2 c2 wr (by omega) (unhide HC2) (((unhide HL3).below (unhide HBR)).more (unhide HBR).size))
      rw [decide_eq_true (whole_least (allL l) true ng)] at CG
      clear hbk hwl
      go_wp2_with fail
      refine (unhide CG).mono ?_
      rintro e w5 ⟨rfl, hB⟩
      have HB5 := hide ((unhide HB3).trans (((unhide HBR).trans (hB.mono (unhide HBR).size)).mono (unhide HB3).size))
      clear hB
      go_wp2_with fail
      go_ret
      exact ⟨rfl, unhide HB5⟩

set_option maxRecDepth 100000 in
set_option maxHeartbeats 4000000 in
theorem walkClasses (A : Option Addr) (cap : Nat) (bs : List UInt8) (i : Int) (fo : Bool) (n : Int) (w : World) (hG : Gl w) (hP : PV bs A cap w) (hi : -9223372036854775808 ≤ i ∧ i ≤ 9223372036854775807) (hn : -9223372036854775808 ≤ n ∧ n ≤ 9223372036854775807) :
    Calls Tryz.prog 4 #[.slice A bs.length cap, .int .i64 i, .bool fo, .int .i64 n] w fun e w' => e = .returned (.bool true) ∧ Below w.heap.size w w' := by
  by_cases hl : bs.length ≤ 300
  · cases hx : clsz bs i with
    | ok lq =>
      obtain ⟨l, q⟩ := lq
      cases fo with
      | true => exact classes_true A cap bs i n w hG hP hl l q hx
      | false => exact classes_false A cap bs i n w hG hP hl l q hx
    | error e =>
      obtain ⟨c, pl⟩ := e
      have hc0 := clsz_bad hx
      have CA := hide (anchor_any w hG)
      have hli : (bs.length : Int) ≤ 300 := by omega
      have C1 := hide (fun W (hB : Below w.heap.size w W) => class_any bs A cap i fo W (hP.below hB) (hG.below hB) (by omega))
      have C2 := hide (fun W (hB : Below w.heap.size w W) => rclass_any bs A cap i W (hP.below hB) (by omega))
      rw [hx] at C1 C2
      have e0 : ((c : Int) != 0) = true := by rw [bne_iff_ne]; omega
      have e0' : ¬ ((c : Int) = 0) := by omega
      clear hP hG hx hl hc0
      unfold GivesK at C1
      unfold GivesRK at C2
      simp only [] at C1 C2
      go_enter Tryz.func4, Tryz.ntmps4
      go_wp2_with fail
      refine (unhide CA).mono ?_
      rintro e w1 ⟨rfl, hB⟩
      have HB1 := hide hB
      clear hB CA
      go_wp2_with fail
      refine ((unhide C1) _ (unhide HB1)).mono ?_
      rintro e w2 ⟨rfl, hB⟩
      have HB2 := hide ((unhide HB1).trans (hB.mono (unhide HB1).size))
      clear hB C1 HB1
      go_wp2_with fail
      refine ((unhide C2) _ (unhide HB2)).mono ?_
      rintro e w3 ⟨rfl, hB⟩
      have HB3 := hide ((unhide HB2).trans (hB.mono (unhide HB2).size))
      clear hB C2 HB2
      go_wp2_with fail
      go_ret
      exact ⟨rfl, unhide HB3⟩
  · have hli : (300 : Int) < (bs.length : Int) := by omega
    have CA := hide (anchor_any w hG)
    clear hP hG hl
    go_enter Tryz.func4, Tryz.ntmps4
    go_wp2_with fail
    refine (unhide CA).mono ?_
    rintro e w1 ⟨rfl, hB⟩
    have HB1 := hide hB
    clear hB CA
    go_wp2_with fail
    go_ret
    exact ⟨rfl, unhide HB1⟩
end Go.Proofs.YtdajdolhjaoeiaaGreatDoor.Sc
