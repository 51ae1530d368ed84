/-
  UndoParts, walked: true at any steps and any two places. No conditions but that the steps lie in memory.
-/
import Derived.Test.YtjnljhigaapalaaUnOps
import Derived.Test.YtjnljhigaapalaaUnAnchor
set_option linter.unusedVariables false
set_option linter.unusedSimpArgs false
namespace Go.Proofs.Ytjnljhigaapalaa.Un
open Go.RowKit Go.Proofs.Ytjnljhigaapalaa.Mem
open Go.Proofs.Ytjnljhigaapalaa.Ev (CV intA below_box ret_b run_not_true run_not_false)
def cnt (f t : Int) (k : Nat) : Nat := (min (k : Int) (min t 9) - max f 0).toNat
theorem cnt_zero (f t : Int) : cnt f t 0 = 0 := by unfold cnt; omega
theorem cnt_lo {f t : Int} {k : Nat} (h : (k : Int) < f) : cnt f t (k + 1) = cnt f t k := by unfold cnt; omega
theorem cnt_hi {f t : Int} {k : Nat} (h : t ≤ (k : Int)) : cnt f t (k + 1) = cnt f t k := by unfold cnt; omega
theorem cnt_in {f t : Int} {k : Nat} (h1 : ¬ (k : Int) < f) (h2 : ¬ t ≤ (k : Int)) (h3 : k < 9) : cnt f t (k + 1) = cnt f t k + 1 := by unfold cnt; omega
theorem part_len {ns : List Int} (h : ns.length = 9) (f t : Int) : (partL ns f t).length = cnt f t 9 := by
  unfold partL cnt
  split
  · rw [List.length_take, List.length_drop]; omega
  · rw [List.length_nil]; omega
theorem part_at {ns : List Int} (h : ns.length = 9) {f t : Int} {k : Nat} (h1 : ¬ (k : Int) < f) (h2 : ¬ t ≤ (k : Int)) (h3 : k < 9) : cnt f t k < (partL ns f t).length ∧ (partL ns f t)[cnt f t k]? = ns[k]? := by
  have hl := part_len h f t
  refine ⟨by rw [hl]; unfold cnt; omega, ?_⟩
  unfold partL
  rw [if_pos (by omega), List.getElem?_take_of_lt (by unfold cnt; omega), List.getElem?_drop]
  congr 1
  unfold cnt
  omega
def over (l : List Int) (c : Nat) : List Int := List.replicate c 99 ++ l.drop c
theorem over_zero (l : List Int) : over l 0 = l := by unfold over; simp
theorem over_len {l : List Int} {c : Nat} (h : c ≤ l.length) : (over l c).length = l.length := by unfold over; rw [List.length_append, List.length_replicate, List.length_drop]; omega
theorem over_at (l : List Int) (c : Nat) : (over l c)[c]? = l[c]? := by
  unfold over
  rw [List.getElem?_append_right (by simp), List.length_replicate, List.getElem?_drop]
  congr 1
  omega
theorem over_set {l : List Int} {c : Nat} (h : c < l.length) : (over l c).set c 99 = over l (c + 1) := by
  unfold over
  apply List.ext_getElem?
  intro j
  rw [List.getElem?_set]
  simp only [List.getElem?_append, List.getElem?_replicate, List.length_replicate, List.length_append, List.length_drop, List.getElem?_drop]
  repeat' split
  all_goals first | rfl | omega | (congr 1; omega)
def ARel (K : Nat → Prop) (base bb g : Nat) (ns : List Int) (tr : List Ch) (l : List Int) (f t : Int) (W w : World) (c i : Value) (wr : World) : Prop :=
  ∃ k : Nat, i = .int .i64 k ∧ c = .int .i64 (cnt f t k : Nat) ∧ k ≤ 9 ∧ BV K base bb ns tr wr ∧ (0 < l.length → Blk wr g 3 (intA (over l (cnt f t k)))) ∧ Below base w wr
set_option maxRecDepth 100000 in
set_option maxHeartbeats 2000000 in
theorem parts_big (l1 : List Opn) (A1 : Option Addr) (c1 : Nat) (f t : Int) (w : World) (h : 200 < l1.length) :
    Calls Try.prog 5 #[.slice A1 l1.length c1, .int .i64 f, .int .i64 t] w fun e w' => e = .returned (.bool true) ∧ Below w.heap.size w w' := by
  have C := hide (anchor_any w)
  have d0 : decide ((200 : Int) < (l1.length : Int)) = true := by simp; omega
  have d2 : decide (200 < l1.length) = true := by simp; omega
  go_enter Try.func5, Try.ntmps5
  go_wp2_with fail
  refine (unhide C).mono ?_
  rintro e w1 ⟨rfl, hb1⟩
  have C1 := hide (new_in (fun k => k < w1.heap.size) w1.heap.size 9 (-1) w1 (by omega) (fun k h => h) (fun k h => h) (Nat.le_refl _))
  have HB1 := hide hb1
  clear C hb1
  go_wp2_with fail
  refine (unhide C1).mono ?_
  rintro e w2 ⟨⟨bb, rfl, h2⟩, hb2⟩
  have HB2 := hide ((unhide HB1).trans (hb2.mono (unhide HB1).size))
  clear C1 h2 hb2
  go_wp2
  go_ret
  exact ⟨rfl, unhide HB2⟩
section
attribute [local go_sem] run_not_true run_not_false
set_option maxRecDepth 100000 in
set_option maxHeartbeats 4000000 in
theorem parts_small (l1 : List Opn) (A1 : Option Addr) (p1 : Nat) (f t : Int) (w : World) (h1 : l1.length ≤ 200) (ho1 : OV l1 A1 p1 w.heap.size w) :
    Calls Try.prog 5 #[.slice A1 l1.length p1, .int .i64 f, .int .i64 t] w fun e w' => e = .returned (.bool true) ∧ Below w.heap.size w w' := by
  have C := hide (anchor_any w)
  have d0 : decide ((200 : Int) < (l1.length : Int)) = false := by rw [decide_eq_false_iff_not]; omega
  have d2 : decide (200 < l1.length) = false := by rw [decide_eq_false_iff_not]; omega
  have r1 := ho1.room
  have r2 := ho1.top
  have HO1 := hide ho1
  obtain ⟨n1, hn1⟩ : ∃ n, l1.length = n := ⟨_, rfl⟩
  have HN1 := hide hn1
  rw [hn1] at h1 d0 d2 r1 ⊢
  have HS1 := hide h1
  clear ho1 hn1
  go_enter Try.func5, Try.ntmps5
  go_wp2_with fail
  refine (unhide C).mono ?_
  rintro e w1 ⟨rfl, hb1⟩
  have C1 := hide (new_in (fun k => k < w1.heap.size) w1.heap.size 9 (-1) w1 (by omega) (fun k h => h) (fun k h => h) (Nat.le_refl _))
  have HLOW := hide (show ∀ k, k < w.heap.size → k < w1.heap.size from fun k hk => Nat.lt_of_lt_of_le hk hb1.size)
  have HB1 := hide hb1
  clear C hb1
  go_wp2_with fail
  refine (unhide C1).mono ?_
  rintro e w2 ⟨⟨bb, rfl, h2⟩, hb2⟩
  have HBV := hide h2
  have HW12 := hide hb2.size
  have HB2 := hide ((unhide HB1).trans (hb2.mono (unhide HB1).size))
  have HO1' := hide ((unhide HO1).keep (Keep.of_below (unhide HB2) (K := fun k => k < w.heap.size) (fun k h => h)) (fun k h => h))
  clear C1 h2 hb2 HO1
  obtain ⟨s0, hs0⟩ : ∃ s0 : List Int × List Ch, (List.replicate 9 (-1), []) = s0 := ⟨_, rfl⟩
  have HL0 := hide (show s0.1.length = 9 ∧ s0.2.length = 0 by rw [← hs0]; exact ⟨rfl, rfl⟩)
  have HBV0 := hide (show BV (fun k => k < w1.heap.size) w1.heap.size bb (sets s0 (l1.take 0)).1 (sets s0 (l1.take 0)).2 w2 by rw [← hs0]; exact unhide HBV)
  clear HBV hs0
  go_wp2_with fail
  go_loopw [47] (fun i wr => LRel (fun k => k < w1.heap.size) w1.heap.size bb s0 l1 w2 i wr) (fun i _ => n1 - (intOf i).toNat)
  case atStart => exact ⟨0, rfl, Nat.zero_le _, unhide HBV0, Keep.refl _ _⟩
  case round =>
    obtain ⟨k, rfl, hk, hbv, hkp⟩ := hrel
    go_hideQ
    rw [unhide HN1] at hk
    by_cases hlt : k < n1
    · obtain ⟨o, ho⟩ : ∃ o, l1[k]? = some o := ⟨_, List.getElem?_eq_getElem (by rw [unhide HN1]; exact hlt)⟩
      obtain ⟨b, off, eA, hb, hc⟩ := ((unhide HO1').keep hkp (unhide HLOW)).lies (by rw [unhide HN1]; omega)
      obtain ⟨c0, c1, c2⟩ := hc k o ho
      have hst := sets_step s0 ho
      have hln := (sets_len s0 (l1.take k)).2.1
      rw [List.length_take] at hln
      have hbx := below_box wr (.cells #[.int .i64 o.1, .int .i64 o.2.1, .int .i64 o.2.2] 34)
      have C := hide (set_any (hbv.below hbx) o.2.1 o.2.2 (by have h5 := unhide HS1; have h6 := (unhide HL0).2; have h7 := unhide HN1; omega))
      rw [show setN (sets s0 (l1.take k)).1 o.2.1 o.2.2 = (sets s0 (l1.take (k + 1))).1 by rw [hst], show setT (sets s0 (l1.take k)).1 (sets s0 (l1.take k)).2 o.2.1 o.2.2 = (sets s0 (l1.take (k + 1))).2 by rw [hst]] at C
      have HKP := hide (hkp.trans (Keep.of_below hbx hbv.hi))
      have hki : (k : Int) < (n1 : Int) := by omega
      obtain ⟨o0, o1, o2⟩ := o
      simp only at c0 c1 c2 C HKP
      generalize hasB (sets s0 (l1.take k)).1 o1 = q at *
      subst eA
      clear ho hc hst hln hbx hbv hkp hb
      go_wp2_with fail
      refine (unhide C).mono ?_
      rintro e w5 ⟨rfl, h5, k5⟩
      have hR : LRel (fun k => k < w1.heap.size) w1.heap.size bb s0 l1 w2 (.int .i64 ((k : Int) + 1)) w5 := ⟨k + 1, by go_num, by rw [unhide HN1]; omega, h5, (unhide HKP).trans k5⟩
      have HR := hide hR
      clear C h5 k5 HKP hR
      go_wp2_with fail
      have hR := unhide HR
      have hme : n1 - (intOf (.int .i64 ((k : Int) + 1))).toNat < n1 - k := by simp [intOf]; omega
      first | exact ⟨hR, hme⟩ | exact ⟨⟨_, _, _, hR, rfl, rfl, rfl⟩, hme⟩ | (go_roundw; exact hR; exact hme)
    · obtain rfl : k = n1 := by omega
      rw [List.take_of_length_le (by rw [unhide HN1]; exact Nat.le_refl _)] at hbv
      have hl1 := (sets_len s0 l1)
      rw [(unhide HL0).1, (unhide HL0).2, unhide HN1] at hl1
      obtain ⟨s1, hs1⟩ : ∃ s1, sets s0 l1 = s1 := ⟨_, rfl⟩
      rw [hs1] at hbv hl1
      have h9 := hl1.1
      have CP := hide (part_any hbv f t)
      have HBW := hide hbv
      have HKW := hide hkp
      have H9 := hide h9
      have HHI := hide hbv.hi
      have HPL := hide (part_len h9 f t)
      have HPA := hide (fun k h1 h2 h3 => part_at (k := k) h9 (f := f) (t := t) h1 h2 h3)
      obtain ⟨l, hl⟩ : ∃ l, partL s1.1 f t = l := ⟨_, rfl⟩
      rw [hl] at CP HPL HPA
      obtain ⟨N, hN⟩ : ∃ N, l.length = N := ⟨_, rfl⟩
      have HN := hide hN
      have hN9 : N ≤ 9 := by rw [← hN, unhide HPL]; unfold cnt; omega
      clear hbv hkp hl1 hs1 h9 HBV0 hl
      go_wp2_with fail
      refine (unhide CP).mono ?_
      rintro e w5 ⟨⟨A5, rfl, hA5⟩, hb5⟩
      have hm5 := (unhide HBW).more (K' := fun k => k < w1.heap.size ∨ (wr.heap.size ≤ k ∧ k < w5.heap.size)) hb5 (fun k h => .inl h) (fun k h => h)
      obtain ⟨g, hg⟩ : ∃ g, g = wr.heap.size := ⟨_, rfl⟩
      have HKG := hide (show 0 < l.length → (g < w1.heap.size ∨ (wr.heap.size ≤ g ∧ g < w5.heap.size)) from fun h => by
        rw [hg]; exact .inr ⟨Nat.le_refl _, (hA5 h).2.lt⟩)
      have HGW := hide (show w1.heap.size ≤ g by rw [hg]; have h1 := unhide HW12; have h2 := (unhide HKW).size; omega)
      have HA5 := hide (show 0 < l.length → A5 = some ⟨g, 0, none⟩ ∧ Blk w5 g 3 (intA l) by rw [hg]; exact hA5)
      have HK5 := hide ((unhide HKW).trans (Keep.of_below hb5 (unhide HHI)))
      obtain ⟨K1, hK1⟩ : ∃ K1 : Nat → Prop, (fun k => k < w1.heap.size ∨ (wr.heap.size ≤ k ∧ k < w5.heap.size)) = K1 := ⟨_, rfl⟩
      rw [hK1] at hm5
      have HKG1 := hide (show 0 < l.length → K1 g by rw [← hK1]; exact unhide HKG)
      have HR0 := hide (show ARel K1 w1.heap.size bb g s1.1 s1.2 l f t w5 w5 (.int .i64 0) (.int .i64 0) w5 from ⟨0, rfl, by rw [cnt_zero]; rfl, by omega, hm5, fun h => by rw [cnt_zero, over_zero]; exact ((unhide HA5) h).2, Below.refl _ _⟩)
      rw [hN]
      clear CP HBW HKW hm5 hA5 hb5 hK1 HKG hg hN
      go_wp2_with fail
      go_loopw [12, 62] (fun c i wr => ARel K1 w1.heap.size bb g s1.1 s1.2 l f t w5 w5 c i wr) (fun _ i _ => 9 - (intOf i).toNat)
      case atStart => exact unhide HR0
      case round =>
        obtain ⟨k, rfl, rfl, hk, hbv, hblk, hbel⟩ := hrel
        go_hideQ
        by_cases hlt : k < 9
        · obtain ⟨x, hx⟩ : ∃ x, s1.1[k]? = some x := ⟨_, List.getElem?_eq_getElem (by rw [unhide H9]; exact hlt)⟩
          have CG := hide (bv_get hbv k x hx)
          have hki : (k : Int) < 9 := by omega
          by_cases hf : (k : Int) < f
          · have HC := hide (cnt_lo (t := t) hf)
            have HBV5 := hide hbv
            have HBK := hide hblk
            have HBL := hide hbel
            obtain ⟨c, hc⟩ : ∃ c, cnt f t k = c := ⟨_, rfl⟩
            have HC2 := hide hc
            rw [hc]
            have df : decide ((k : Int) < f) = true := by simpa using hf
            clear hbv hblk hbel hx hc
            go_wp2_with fail
            refine (unhide CG).mono ?_
            rintro e w6 ⟨rfl, rfl⟩
            clear CG
            go_wp2_with fail
            have hR : ARel K1 w1.heap.size bb g s1.1 s1.2 l f t w5 w5 (.int .i64 (c : Int)) (.int .i64 ((k : Int) + 1)) w6 := ⟨k + 1, by go_num, by rw [unhide HC, unhide HC2], by omega, unhide HBV5, by rw [unhide HC]; exact unhide HBK, unhide HBL⟩
            have hme : 9 - (intOf (.int .i64 ((k : Int) + 1))).toNat < 9 - k := by simp [intOf]; omega
            first | exact ⟨hR, hme⟩ | exact ⟨⟨_, _, _, hR, rfl, rfl, rfl⟩, hme⟩ | (go_roundw; exact hR; exact hme)
          · have df : decide ((k : Int) < f) = false := by simpa using hf
            by_cases ht : t ≤ (k : Int)
            · have HC := hide (cnt_hi (f := f) ht)
              have HBV5 := hide hbv
              have HBK := hide hblk
              have HBL := hide hbel
              obtain ⟨c, hc⟩ : ∃ c, cnt f t k = c := ⟨_, rfl⟩
              have HC2 := hide hc
              rw [hc]
              have dt : decide (t ≤ (k : Int)) = true := by simpa using ht
              clear hbv hblk hbel hx hc
              go_wp2_with fail
              refine (unhide CG).mono ?_
              rintro e w6 ⟨rfl, rfl⟩
              clear CG
              go_wp2_with fail
              have hR : ARel K1 w1.heap.size bb g s1.1 s1.2 l f t w5 w5 (.int .i64 (c : Int)) (.int .i64 ((k : Int) + 1)) w6 := ⟨k + 1, by go_num, by rw [unhide HC, unhide HC2], by omega, unhide HBV5, by rw [unhide HC]; exact unhide HBK, unhide HBL⟩
              have hme : 9 - (intOf (.int .i64 ((k : Int) + 1))).toNat < 9 - k := by simp [intOf]; omega
              first | exact ⟨hR, hme⟩ | exact ⟨⟨_, _, _, hR, rfl, rfl, rfl⟩, hme⟩ | (go_roundw; exact hR; exact hme)
            · have dt : decide (t ≤ (k : Int)) = false := by simpa using ht
              obtain ⟨hcl, hca⟩ := (unhide HPA) k (by omega) (by omega) hlt
              have HC := hide (cnt_in hf ht hlt)
              have hl0 : 0 < l.length := by omega
              have hb := hblk hl0
              obtain ⟨rfl, -⟩ := (unhide HA5) hl0
              obtain ⟨c, hc⟩ : ∃ c, cnt f t k = c := ⟨_, rfl⟩
              have HC2 := hide hc
              rw [hc] at hcl hca hb HC ⊢
              have e0 : wr.cell? ⟨g, c, none⟩ = some (.int .i64 x) := (hb.cell c).trans (intA_get (by rw [over_at, hca, hx]))
              have e1 := hb.frozen c
              have hbv2 := hbv.setK (p := ⟨g, c, none⟩) ((unhide HKG1) hl0) (.int .i64 99)
              have CG2 := hide (bv_get hbv2 k x hx)
              have HBV5 := hide hbv2
              have HBK := hide (show Blk (wr.setCell ⟨g, c, none⟩ (.int .i64 99)) g 3 (intA (over l (c + 1))) by
                have h := hb.set_ c (.int .i64 99)
                rwa [intA_set, over_set hcl] at h)
              have HBL := hide (hbel.setCell (p := ⟨g, c, none⟩) (unhide HGW) (.int .i64 99))
              have hcN : c < N := by rw [← unhide HN]; exact hcl
              have hcN2 : (c : Int) < (N : Int) := by omega
              have dn : decide ((N : Int) ≤ (c : Int)) = false := by simp; omega
              have dn2 : decide (N ≤ c) = false := by simp; omega
              have dx : (x != x) = false := by simp
              have wc : IntKind.i64.wrap ((c : Int) + 1) = (c : Int) + 1 := by rw [IntKind.wrap_i64]; omega
              clear hbv hbv2 hblk hbel hx hc hb hcl hca hl0
              go_wp2_with fail
              refine (unhide CG).mono ?_
              rintro e w6 ⟨rfl, rfl⟩
              clear CG
              go_wp2_with fail
              refine (unhide CG2).mono ?_
              rintro e w7 ⟨rfl, hw7⟩
              subst hw7
              clear CG2
              go_wp2_with fail
              have hR : ARel K1 w1.heap.size bb g s1.1 s1.2 l f t w5 w5 (.int .i64 ((c : Int) + 1)) (.int .i64 ((k : Int) + 1)) (w6.setCell ⟨g, c, none⟩ (.int .i64 99)) := ⟨k + 1, by go_num, by rw [unhide HC]; rfl, by omega, unhide HBV5, fun _ => by rw [unhide HC]; exact unhide HBK, unhide HBL⟩
              have hme : 9 - (intOf (.int .i64 ((k : Int) + 1))).toNat < 9 - k := by simp [intOf]; omega
              first | exact ⟨hR, hme⟩ | exact ⟨⟨_, _, _, hR, rfl, rfl, rfl⟩, hme⟩ | (go_roundw; exact hR; exact hme)
        · obtain rfl : k = 9 := by omega
          have e9 : cnt f t 9 = N := by rw [← unhide HN, unhide HPL]
          have CG := hide (bv_out hbv 9 (by unfold hasB; rw [unhide H9]; rfl))
          have CG2 := hide (bv_out hbv (-1) (by unfold hasB; rw [unhide H9]; rfl))
          have HBL := hide hbel
          rw [e9]
          clear hbv hblk hbel e9
          go_wp2_with fail
          refine (unhide CG).mono ?_
          rintro e w6 ⟨rfl, rfl⟩
          clear CG
          go_wp2_with fail
          refine (unhide CG2).mono ?_
          rintro e w7 ⟨rfl, rfl⟩
          clear CG2
          go_wp2
          go_ret
          refine ⟨rfl, ?_⟩
          have hq := (unhide HB1).size
          have h5 := (unhide HK5).below (B := w1.heap.size) (fun k h => h)
          exact (unhide HB2).trans ((h5.trans (unhide HBL)).mono hq)
end
theorem walkParts (l1 : List Opn) (A1 : Option Addr) (p1 : Nat) (f t : Int) (w : World) (ho1 : OV l1 A1 p1 w.heap.size w) :
    Calls Try.prog 5 #[.slice A1 l1.length p1, .int .i64 f, .int .i64 t] w fun e w' => e = .returned (.bool true) ∧ Below w.heap.size w w' := by
  by_cases h : 200 < l1.length
  · exact parts_big l1 A1 p1 f t w h
  · exact parts_small l1 A1 p1 f t w (by omega) ho1
end Go.Proofs.Ytjnljhigaapalaa.Un
