/-
  UndoBack, walked: true at any steps. No conditions but that the steps lie in memory.
-/
import Derived.Test.YtjnljhigaapalaaUnOps
import Derived.Test.YtjnljhigaapalaaUnAnchor
set_option linter.unusedVariables false
set_option linter.unusedSimpArgs false
namespace Go.Proofs.Ytjnljhigaapalaa.Un
open Go.RowKit Go.Proofs.Ytjnljhigaapalaa.Mem
open Go.Proofs.Ytjnljhigaapalaa.Ev (CV intA below_box ret_b)
set_option maxRecDepth 100000 in
set_option maxHeartbeats 2000000 in
theorem back_big (l1 l2 : List Opn) (A1 A2 : Option Addr) (c1 c2 : Nat) (w : World) (h : 200 < l1.length ∨ 200 < l2.length) :
    Calls Try.prog 4 #[.slice A1 l1.length c1, .slice A2 l2.length c2] w fun e w' => e = .returned (.bool true) ∧ Below w.heap.size w w' := by
  have C := hide (anchor_any w)
  obtain ⟨q, hq⟩ : ∃ q, decide (200 < l1.length) = q := ⟨_, rfl⟩
  obtain ⟨r, hr⟩ : ∃ r, decide (200 < l2.length) = r := ⟨_, rfl⟩
  have d0 : decide ((200 : Int) < (l1.length : Int)) = q := by rw [← hq]; apply Bool.eq_iff_iff.2; simp only [decide_eq_true_iff]; omega
  have d1 : decide ((200 : Int) < (l2.length : Int)) = r := by rw [← hr]; apply Bool.eq_iff_iff.2; simp only [decide_eq_true_iff]; omega
  have HQR := hide (show (q || r) = true by rw [← hq, ← hr]; simpa using h)
  clear h hq hr
  go_enter Try.func4, Try.ntmps4
  go_wp2_with fail
  refine (unhide C).mono ?_
  rintro e w1 ⟨rfl, hb1⟩
  have C1 := hide (new_in (fun k => k < w1.heap.size) w1.heap.size 6 7 w1 (by omega) (fun k h => h) (fun k h => h) (Nat.le_refl _))
  have HB1 := hide hb1
  clear C hb1
  go_wp2_with fail
  refine (unhide C1).mono ?_
  rintro e w2 ⟨⟨bb, rfl, h2⟩, hb2⟩
  have HB2 := hide ((unhide HB1).trans (hb2.mono (unhide HB1).size))
  clear C1 h2 hb2
  cases q with
  | true =>
    go_wp2
    go_ret
    exact ⟨rfl, unhide HB2⟩
  | false =>
    cases r with
    | true =>
      go_wp2
      go_ret
      exact ⟨rfl, unhide HB2⟩
    | false => cases unhide HQR
set_option maxRecDepth 100000 in
set_option maxHeartbeats 4000000 in
theorem back_small (l1 l2 : List Opn) (A1 A2 : Option Addr) (p1 p2 : Nat) (w : World) (h1 : l1.length ≤ 200) (h2 : l2.length ≤ 200) (ho1 : OV l1 A1 p1 w.heap.size w) (ho2 : OV l2 A2 p2 w.heap.size w) :
    Calls Try.prog 4 #[.slice A1 l1.length p1, .slice A2 l2.length p2] w fun e w' => e = .returned (.bool true) ∧ Below w.heap.size w w' := by
  have C := hide (anchor_any w)
  have d0 : decide ((200 : Int) < (l1.length : Int)) = false := by rw [decide_eq_false_iff_not]; omega
  have d1 : decide ((200 : Int) < (l2.length : Int)) = false := by rw [decide_eq_false_iff_not]; omega
  have d2 : decide (200 < l1.length) = false := by rw [decide_eq_false_iff_not]; omega
  have d3 : decide (200 < l2.length) = false := by rw [decide_eq_false_iff_not]; omega
  have r1 := ho1.room
  have r2 := ho1.top
  have r3 := ho2.room
  have r4 := ho2.top
  have HO1 := hide ho1
  have HO2 := hide ho2
  obtain ⟨n1, hn1⟩ : ∃ n, l1.length = n := ⟨_, rfl⟩
  obtain ⟨n2, hn2⟩ : ∃ n, l2.length = n := ⟨_, rfl⟩
  have HN1 := hide hn1
  have HN2 := hide hn2
  rw [hn1] at h1 d0 d2 r1 ⊢
  rw [hn2] at h2 d1 d3 r3 ⊢
  have HS1 := hide h1
  have HS2 := hide h2
  clear ho1 ho2 hn1 hn2
  go_enter Try.func4, Try.ntmps4
  go_wp2_with fail
  refine (unhide C).mono ?_
  rintro e w1 ⟨rfl, hb1⟩
  have C1 := hide (new_in (fun k => k < w1.heap.size) w1.heap.size 6 7 w1 (by omega) (fun k h => h) (fun k h => h) (Nat.le_refl _))
  have HLOW := hide (show ∀ k, k < w.heap.size → k < w1.heap.size from fun k hk => Nat.lt_of_lt_of_le hk hb1.size)
  have HB1 := hide hb1
  clear C hb1
  go_wp2_with fail
  refine (unhide C1).mono ?_
  rintro e w2 ⟨⟨bb, rfl, h2⟩, hb2⟩
  have HBV := hide h2
  have HW12 := hide hb2.size
  have HB2 := hide ((unhide HB1).trans (hb2.mono (unhide HB1).size))
  have HO1' := hide ((unhide HO1).keep (Keep.of_below (unhide HB2) (K := fun k => k < w.heap.size) (fun k h => h)) (fun k h => h))
  have HO2' := hide ((unhide HO2).keep (Keep.of_below (unhide HB2) (K := fun k => k < w.heap.size) (fun k h => h)) (fun k h => h))
  clear C1 h2 hb2 HO1 HO2
  obtain ⟨s0, hs0⟩ : ∃ s0 : List Int × List Ch, (List.replicate 6 7, []) = s0 := ⟨_, rfl⟩
  have HL0 := hide (show s0.1.length = 6 ∧ s0.2.length = 0 by rw [← hs0]; exact ⟨rfl, rfl⟩)
  have HBV0 := hide (show BV (fun k => k < w1.heap.size) w1.heap.size bb (sets s0 (l1.take 0)).1 (sets s0 (l1.take 0)).2 w2 by rw [← hs0]; exact unhide HBV)
  clear HBV hs0
  go_wp2_with fail
  go_loopw [43] (fun i wr => LRel (fun k => k < w1.heap.size) w1.heap.size bb s0 l1 w2 i wr) (fun i _ => n1 - (intOf i).toNat)
  case atStart => exact ⟨0, rfl, Nat.zero_le _, unhide HBV0, Keep.refl _ _⟩
  case round =>
    obtain ⟨k, rfl, hk, hbv, hkp⟩ := hrel
    go_hideQ
    rw [unhide HN1] at hk
    by_cases hlt : k < n1
    · obtain ⟨o, ho⟩ : ∃ o, l1[k]? = some o := ⟨_, List.getElem?_eq_getElem (by rw [unhide HN1]; exact hlt)⟩
      obtain ⟨b, off, eA, hb, hc⟩ := ((unhide HO1').keep hkp (unhide HLOW)).lies (by rw [unhide HN1]; omega)
      obtain ⟨c0, c1, c2⟩ := hc k o ho
      have hst := sets_step s0 ho
      have hln := (sets_len s0 (l1.take k)).2.1
      rw [List.length_take] at hln
      have hbx := below_box wr (.cells #[.int .i64 o.1, .int .i64 o.2.1, .int .i64 o.2.2] 34)
      have C := hide (set_any (hbv.below hbx) o.2.1 o.2.2 (by have h5 := unhide HS1; have h6 := (unhide HL0).2; have h7 := unhide HN1; omega))
      rw [show setN (sets s0 (l1.take k)).1 o.2.1 o.2.2 = (sets s0 (l1.take (k + 1))).1 by rw [hst], show setT (sets s0 (l1.take k)).1 (sets s0 (l1.take k)).2 o.2.1 o.2.2 = (sets s0 (l1.take (k + 1))).2 by rw [hst]] at C
      have HKP := hide (hkp.trans (Keep.of_below hbx hbv.hi))
      have hki : (k : Int) < (n1 : Int) := by omega
      obtain ⟨o0, o1, o2⟩ := o
      simp only at c0 c1 c2 C HKP
      generalize hasB (sets s0 (l1.take k)).1 o1 = q at *
      subst eA
      clear ho hc hst hln hbx hbv hkp hb
      go_wp2_with fail
      refine (unhide C).mono ?_
      rintro e w5 ⟨rfl, h5, k5⟩
      have hR : LRel (fun k => k < w1.heap.size) w1.heap.size bb s0 l1 w2 (.int .i64 ((k : Int) + 1)) w5 := ⟨k + 1, by go_num, by rw [unhide HN1]; omega, h5, (unhide HKP).trans k5⟩
      have HR := hide hR
      clear C h5 k5 HKP hR
      go_wp2_with fail
      have hR := unhide HR
      have hme : n1 - (intOf (.int .i64 ((k : Int) + 1))).toNat < n1 - k := by simp [intOf]; omega
      first | exact ⟨hR, hme⟩ | exact ⟨⟨_, _, _, hR, rfl, rfl, rfl⟩, hme⟩ | (go_roundw; exact hR; exact hme)
    · obtain rfl : k = n1 := by omega
      rw [List.take_of_length_le (by rw [unhide HN1]; exact Nat.le_refl _)] at hbv
      have hl1 := (sets_len s0 l1)
      rw [(unhide HL0).1, (unhide HL0).2, unhide HN1] at hl1
      obtain ⟨s1, hs1⟩ : ∃ s1, sets s0 l1 = s1 := ⟨_, rfl⟩
      rw [hs1] at hbv hl1
      have h6 := hl1.1
      have CP := hide (part_any hbv 0 6)
      rw [part_all s1.1 6 (by rw [h6]; rfl)] at CP
      have HBW := hide hbv
      have HKW := hide hkp
      have HL1 := hide hl1
      have H6 := hide h6
      have HHI := hide hbv.hi
      clear hbv hkp hl1 hs1 h6 HBV0
      go_wp2_with fail
      refine (unhide CP).mono ?_
      rintro e w5 ⟨⟨A5, rfl, hA5⟩, hb5⟩
      have hm5 := (unhide HBW).more (K' := fun k => k < w1.heap.size ∨ (wr.heap.size ≤ k ∧ k < w5.heap.size)) hb5 (fun k h => .inl h) (fun k h => h)
      have HNV := hide (show NV s1.1 A5 w5 from fun h => ⟨_, hA5 h⟩)
      have HWB := hide (show ∀ g, A5 = some ⟨g, 0, none⟩ → (g < w1.heap.size ∨ (wr.heap.size ≤ g ∧ g < w5.heap.size)) from fun g e => by
        have h := hA5 (by rw [unhide H6]; omega)
        rw [h.1] at e
        cases e
        exact .inr ⟨Nat.le_refl _, h.2.lt⟩)
      have CM := hide (bv_mark hm5)
      have HB5 := hide hm5
      have HK5 := hide ((unhide HKW).trans (Keep.of_below hb5 (unhide HHI)))
      rw [unhide H6]
      clear CP HBW HKW hm5 hA5 hb5
      go_wp2_with fail
      refine (unhide CM).mono ?_
      rintro e w6 ⟨rfl, rfl⟩
      clear CM
      have HBV0 := hide (show BV (fun k => k < w1.heap.size ∨ (wr.heap.size ≤ k ∧ k < w6.heap.size)) w1.heap.size bb (sets s1 (l2.take 0)).1 (sets s1 (l2.take 0)).2 w6 from unhide HB5)
      have HLOW2 := hide (show ∀ k, k < w.heap.size → (k < w1.heap.size ∨ (wr.heap.size ≤ k ∧ k < w6.heap.size)) from fun k hk => .inl ((unhide HLOW) k hk))
      have HO3 := hide ((unhide HO2').keep (unhide HK5) (unhide HLOW))
      obtain ⟨K1, hK1⟩ : ∃ K1 : Nat → Prop, (fun k => k < w1.heap.size ∨ (wr.heap.size ≤ k ∧ k < w6.heap.size)) = K1 := ⟨_, rfl⟩
      have HK1 := hide (show ∀ k, k < w1.heap.size → K1 k by rw [← hK1]; exact fun k h => .inl h)
      rw [hK1] at HBV0
      have HLOW3 := hide (show ∀ k, k < w.heap.size → K1 k by rw [← hK1]; exact unhide HLOW2)
      have HWB2 := hide (show ∀ g, A5 = some ⟨g, 0, none⟩ → K1 g by rw [← hK1]; exact unhide HWB)
      obtain ⟨m1, hm1⟩ : ∃ m1, s1.2.length = m1 := ⟨_, rfl⟩
      have HM1 := hide hm1
      rw [hm1]
      clear HB5 HLOW2 hK1 hm1 HWB
      go_wp2_with fail
      go_loopw [60] (fun i wr => LRel K1 w1.heap.size bb s1 l2 w6 i wr) (fun i _ => n2 - (intOf i).toNat)
      case atStart => exact ⟨0, rfl, Nat.zero_le _, unhide HBV0, Keep.refl _ _⟩
      case round =>
        obtain ⟨k, rfl, hk, hbv, hkp⟩ := hrel
        go_hideQ
        rw [unhide HN2] at hk
        by_cases hlt : k < n2
        · obtain ⟨o, ho⟩ : ∃ o, l2[k]? = some o := ⟨_, List.getElem?_eq_getElem (by rw [unhide HN2]; exact hlt)⟩
          obtain ⟨b, off, eA, hb, hc⟩ := ((unhide HO3).keep hkp (unhide HLOW3)).lies (by rw [unhide HN2]; omega)
          obtain ⟨c0, c1, c2⟩ := hc k o ho
          have hst := sets_step s1 ho
          have hln := (sets_len s1 (l2.take k)).2.1
          rw [List.length_take] at hln
          have hbx := below_box wr (.cells #[.int .i64 o.1, .int .i64 o.2.1, .int .i64 o.2.2] 34)
          have C := hide (set_any (hbv.below hbx) o.2.1 o.2.2 (by have h5 := unhide HS2; have h6 := (unhide HL1).2.1; have h7 := unhide HN2; have h8 := unhide HS1; omega))
          rw [show setN (sets s1 (l2.take k)).1 o.2.1 o.2.2 = (sets s1 (l2.take (k + 1))).1 by rw [hst], show setT (sets s1 (l2.take k)).1 (sets s1 (l2.take k)).2 o.2.1 o.2.2 = (sets s1 (l2.take (k + 1))).2 by rw [hst]] at C
          have HKP := hide (hkp.trans (Keep.of_below hbx hbv.hi))
          have hki : (k : Int) < (n2 : Int) := by omega
          obtain ⟨o0, o1, o2⟩ := o
          simp only at c0 c1 c2 C HKP
          generalize hasB (sets s1 (l2.take k)).1 o1 = q at *
          subst eA
          clear ho hc hst hln hbx hbv hkp hb
          go_wp2_with fail
          refine (unhide C).mono ?_
          rintro e w5 ⟨rfl, h5, k5⟩
          have hR : LRel K1 w1.heap.size bb s1 l2 w6 (.int .i64 ((k : Int) + 1)) w5 := ⟨k + 1, by go_num, by rw [unhide HN2]; omega, h5, (unhide HKP).trans k5⟩
          have HR := hide hR
          clear C h5 k5 HKP hR
          go_wp2_with fail
          have hR := unhide HR
          have hme : n2 - (intOf (.int .i64 ((k : Int) + 1))).toNat < n2 - k := by simp [intOf]; omega
          first | exact ⟨hR, hme⟩ | exact ⟨⟨_, _, _, hR, rfl, rfl, rfl⟩, hme⟩ | (go_roundw; exact hR; exact hme)
        · obtain rfl : k = n2 := by omega
          rw [List.take_of_length_le (by rw [unhide HN2]; exact Nat.le_refl _)] at hbv
          have hl2 := (sets_len s1 l2)
          rw [(unhide HL1).1, unhide HM1, unhide HN2] at hl2
          have hh := sets_hist s1 l2 (k := m1) (by rw [unhide HM1]; exact Nat.le_refl _)
          rw [List.drop_of_length_le (show s1.2.length ≤ m1 by rw [unhide HM1]; exact Nat.le_refl _), back_nil] at hh
          obtain ⟨s2, hs2⟩ : ∃ s2, sets s1 l2 = s2 := ⟨_, rfl⟩
          rw [hs2] at hbv hl2 hh
          have CM := hide (bv_mark hbv)
          have CU := hide (undo_any hbv (m1 : Int) (by have h5 := unhide HS2; have h6 := unhide HS1; have h7 := (unhide HL1).2.1; have h8 := unhide HM1; omega))
          have e1 : okB s2.2 (m1 : Int) = true := by unfold okB; simp; omega
          have e2 : undoN s2.1 s2.2 (m1 : Int) = s1.1 := by unfold undoN; rw [if_pos e1, Int.toNat_natCast, hh]
          have e3 : (undoT s2.2 (m1 : Int)).length = m1 := by unfold undoT; rw [if_pos e1, Int.toNat_natCast, List.length_take]; omega
          rw [e1, e2] at CU
          obtain ⟨m2, hm2⟩ : ∃ m2, s2.2.length = m2 := ⟨_, rfl⟩
          rw [hm2] at CM hl2
          have d5 : decide ((m1 : Int) ≤ (m2 : Int)) = true := by simp; omega
          have d6 : decide (m1 ≤ m2) = true := by simp; omega
          obtain ⟨t3, ht3⟩ : ∃ t3, undoT s2.2 (m1 : Int) = t3 := ⟨_, rfl⟩
          rw [ht3] at CU e3
          have HE3 := hide e3
          have HKP := hide hkp
          clear hbv hkp hl2 hh hs2 e1 e2 e3 ht3 hm2
          go_wp2_with fail
          refine (unhide CM).mono ?_
          rintro e w7 ⟨rfl, rfl⟩
          clear CM
          go_wp2_with fail
          refine (unhide CU).mono ?_
          rintro e w8 ⟨rfl, h8, k8⟩
          have CM := hide (bv_mark h8)
          rw [unhide HE3] at CM
          have CP := hide (part_any h8 0 6)
          rw [part_all s1.1 6 (by rw [unhide H6]; rfl)] at CP
          have HK8 := hide ((unhide HKP).trans k8)
          have HHI8 := hide h8.hi
          clear CU h8 k8 HKP
          go_wp2_with fail
          refine (unhide CM).mono ?_
          rintro e w9 ⟨rfl, rfl⟩
          clear CM
          go_wp2_with fail
          refine (unhide CP).mono ?_
          rintro e w10 ⟨⟨A7, rfl, hA7⟩, hb10⟩
          have hnv7 : NV s1.1 A7 w10 := fun h => ⟨_, hA7 h⟩
          have hnv5 : NV s1.1 A5 w10 := fun h => by
            obtain ⟨g, e, hb⟩ := (unhide HNV) h
            exact ⟨g, e, ((unhide HK8).trans (Keep.of_below hb10 (unhide HHI8))).blk hb ((unhide HWB2) g e)⟩
          have CL := hide (like_any s1.1 s1.1 A7 A5 s1.1.length s1.1.length w10 (hnv7.cv (by rw [unhide H6]; omega)) (hnv5.cv (by rw [unhide H6]; omega)))
          rw [unhide H6, show decide (s1.1 = s1.1) = true by simp] at CL
          have HB10 := hide ((((unhide HK5).below (B := w1.heap.size) (fun k h => h)).trans (((unhide HK8).below (B := w1.heap.size) (unhide HK1)))).trans (hb10.mono (by have h1 := unhide HW12; have h2 := (unhide HK5).size; have h3 := (unhide HK8).size; omega)))
          rw [unhide H6]
          clear CP hA7 hb10 hnv7 hnv5
          go_wp2_with fail
          refine (unhide CL).mono ?_
          rintro e w11 ⟨rfl, hb11⟩
          have HB11 := hide hb11
          clear CL hb11
          go_wp2
          go_ret
          refine ⟨rfl, ?_⟩
          have hq := (unhide HB1).size
          have hz := (unhide HB10)
          exact (unhide HB2).trans ((hz.trans ((unhide HB11).mono (by have h1 := unhide HW12; have h2 := hz.size; omega))).mono hq)
theorem walkBack (l1 l2 : List Opn) (A1 A2 : Option Addr) (p1 p2 : Nat) (w : World) (ho1 : OV l1 A1 p1 w.heap.size w) (ho2 : OV l2 A2 p2 w.heap.size w) :
    Calls Try.prog 4 #[.slice A1 l1.length p1, .slice A2 l2.length p2] w fun e w' => e = .returned (.bool true) ∧ Below w.heap.size w w' := by
  by_cases h : 200 < l1.length ∨ 200 < l2.length
  · exact back_big l1 l2 A1 A2 p1 p2 w h
  · exact back_small l1 l2 A1 A2 p1 p2 w (by omega) (by omega) ho1 ho2
end Go.Proofs.Ytjnljhigaapalaa.Un
