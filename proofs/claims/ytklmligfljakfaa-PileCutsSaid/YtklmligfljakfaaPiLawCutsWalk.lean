/-
  PileCuts, walked: true at any entries. No conditions but that the entries lie in memory.
-/
import Derived.Test.YtklmligfljakfaaPiPlay
set_option linter.unusedVariables false
set_option linter.unusedSimpArgs false
namespace Go.Proofs.Ytklmligfljakfaa.Pi
open Go.RowKit Go.Proofs.Ytklmligfljakfaa.Mem Go.Proofs.Ytklmligfljakfaa.Kp
open Go.Proofs.Ytklmligfljakfaa.Plan (wp_plan plan pick pl_t pl_l pl_k pl_e pl_n pl_s pl_ls)
set_option maxRecDepth 100000 in
set_option maxHeartbeats 2000000 in
theorem cuts_big (l1 l2 : List En) (A1 A2 : Option Addr) (c1 c2 : Nat) (w : World) (h : 1000 < l1.length ∨ 1000 < l2.length) :
    Calls Try.prog 5 #[.slice A1 l1.length c1, .slice A2 l2.length c2] w fun e w' => e = .returned (.bool true) ∧ Below w.heap.size w w' := by
  have C := hide (anchor_any w)
  obtain ⟨q, hq⟩ : ∃ q, decide (1000 < l1.length) = q := ⟨_, rfl⟩
  obtain ⟨r, hr⟩ : ∃ r, decide (1000 < l2.length) = r := ⟨_, rfl⟩
  have d0 : decide ((1000 : Int) < (l1.length : Int)) = q := by rw [← hq]; apply Bool.eq_iff_iff.2; simp only [decide_eq_true_iff]; omega
  have d1 : decide ((1000 : Int) < (l2.length : Int)) = r := by rw [← hr]; apply Bool.eq_iff_iff.2; simp only [decide_eq_true_iff]; omega
  have HQR := hide (show (q || r) = true by rw [← hq, ← hr]; simpa using h)
  clear h hq hr
  go_enter Try.func5, Try.ntmps5
  go_wp2_with fail
  refine (unhide C).mono ?_
  rintro e w1 ⟨rfl, hb1⟩
  have C1 := hide (new_in (fun k => k < w1.heap.size) w1.heap.size 5000 w1 (by omega) (fun k h => h) (fun k h => h) (Nat.le_refl _))
  have HB1 := hide hb1
  clear C hb1
  go_wp2_with fail
  refine (unhide C1).mono ?_
  rintro e w2 ⟨⟨rfl, h2⟩, hb2⟩
  have HB2 := hide ((unhide HB1).trans (hb2.mono (unhide HB1).size))
  clear C1 h2 hb2
  cases q with
  | true =>
    go_wp2
    go_ret
    exact ⟨rfl, unhide HB2⟩
  | false =>
    cases r with
    | true =>
      go_wp2
      go_ret
      exact ⟨rfl, unhide HB2⟩
    | false => cases unhide HQR
def noB (x : En) : En := ⟨false, x.pc, x.pos, x.mark, x.orig, x.val⟩
def bar77 : En := ⟨true, 0, 0, 0, 0, 77⟩
def CRel (pre l : List En) (w : World) (i : Value) (wr : World) : Prop := ∃ (k most : Nat), i = .int .i64 (k : Int) ∧ k ≤ l.length ∧ PV (fun j => j < w.heap.size) w.heap.size w.heap.size (pre ++ l.take k) 5000 most wr ∧ Keep (fun j => j < w.heap.size) w wr
theorem push_more {pre l : List En} {k : Nat} {x : En} (h : l[k]? = some x) (hl : (pre ++ l).length ≤ 5000) : pushL (pre ++ l.take k) 5000 x = pre ++ l.take (k + 1) := by
  have hk := (List.getElem?_eq_some_iff.1 h).1
  rw [List.length_append] at hl
  unfold pushL
  rw [if_pos (by rw [List.length_append, List.length_take]; omega), List.take_add_one, h, Option.toList_some, List.append_assoc]
theorem bar_mid (l r : List En) : barZ (l ++ bar77 :: r.map noB) = (l.length : Int) ∧ barE (l ++ bar77 :: r.map noB) = bar77 ∧ (l ++ bar77 :: r.map noB).take (cutN (l ++ bar77 :: r.map noB)) = l := by
  have h1 : barZ (l ++ bar77 :: r.map noB) = (l.length : Int) := by
    have e : l ++ bar77 :: r.map noB = (l ++ [bar77]) ++ r.map noB := by simp
    unfold barZ
    rw [e, barF_plain _ _ _ _ (fun x hx => by obtain ⟨y, -, rfl⟩ := List.mem_map.1 hx; rfl), barF_snoc]
    simp [bar77]
  obtain ⟨e1, e2, -⟩ := bar_some h1 (by simp)
  refine ⟨h1, ?_, ?_⟩
  · simpa using e1.symm
  · rw [e2]
    simp
theorem build_e3 (w : World) : Sem.run Try.prog (Instr.build 30 #[(0, .bool true), (5, .int .i64 77)]) w = .ok (.agg #[.bool true, .int .i64 0, .int .i64 0, .int .i64 0, .int .i64 0, .int .i64 77]) w := run_build w 30 _ _ (by kernel_rfl)
theorem eql_bool_same (b : Bool) (w : World) : Sem.run Try.prog (binOp .eql 4 (.bool b) (.bool b)) w = .ok (.bool true) w := by
  have u4 := Try.underlying4
  go_simp
structure CF (l : List En) (A : Option Addr) (c : Nat) (w1 : World) (g1 g2 g3 : Nat) (a b : En) (most : Nat) (wx : World) : Prop where
  k1 : Blk wx g1 30 #[.bool true, .int .i64 0, .int .i64 0, .int .i64 0, .int .i64 0, .int .i64 77]
  k2 : Blk wx g2 30 #[.bool a.bar, .int .i64 a.pc, .int .i64 a.pos, .int .i64 a.mark, .int .i64 a.orig, .int .i64 a.val]
  k3 : Blk wx g3 30 #[.bool b.bar, .int .i64 b.pc, .int .i64 b.pos, .int .i64 b.mark, .int .i64 b.orig, .int .i64 b.val]
  pv : PV (fun j => j < w1.heap.size) w1.heap.size w1.heap.size l 5000 most wx
  ev : EV l A c w1.heap.size wx
  kp : Keep (fun j => j < w1.heap.size) w1 wx
theorem CF.below {l : List En} {A : Option Addr} {c : Nat} {w1 : World} {g1 g2 g3 : Nat} {a b : En} {most : Nat} {wx wy : World} (h : CF l A c w1 g1 g2 g3 a b most wx) (hb : Below wx.heap.size wx wy) : CF l A c w1 g1 g2 g3 a b most wy :=
  ⟨h.k1.below hb h.k1.lt, h.k2.below hb h.k2.lt, h.k3.below hb h.k3.lt, h.pv.below hb, h.ev.below hb h.kp.size, h.kp.trans (Keep.of_below hb h.pv.hi)⟩
theorem EV.six {l : List En} {b off c B : Nat} {w : World} (h : EV l (some ⟨b, off, none⟩) c B w) {k : Nat} {x : En} (hx : l[k]? = some x) : w.cell? ⟨b, off + k * 6, none⟩ = some (.bool x.bar) ∧ w.cell? ⟨b, off + k * 6 + 1, none⟩ = some (.int .i64 x.pc) ∧ w.cell? ⟨b, off + k * 6 + 2, none⟩ = some (.int .i64 x.pos) ∧ w.cell? ⟨b, off + k * 6 + 3, none⟩ = some (.int .i64 x.mark) ∧ w.cell? ⟨b, off + k * 6 + 4, none⟩ = some (.int .i64 x.orig) ∧ w.cell? ⟨b, off + k * 6 + 5, none⟩ = some (.int .i64 x.val) := by
  obtain ⟨b', off', e, -, h⟩ := h.lies (by have := (List.getElem?_eq_some_iff.1 hx).1; omega)
  cases e
  exact h k x hx
section
attribute [local go_sem] neq_same equal_same eq_guard build_e3 eql_bool_same
set_option maxRecDepth 100000 in
set_option maxHeartbeats 8000000 in
theorem cuts_small (l1 l2 : List En) (A1 A2 : Option Addr) (p1 p2 : Nat) (w : World) (h1 : l1.length ≤ 1000) (h2 : l2.length ≤ 1000) (ho1 : EV l1 A1 p1 w.heap.size w) (ho2 : EV l2 A2 p2 w.heap.size w) :
    Calls Try.prog 5 #[.slice A1 l1.length p1, .slice A2 l2.length p2] w fun e w' => e = .returned (.bool true) ∧ Below w.heap.size w w' := by
  have C := hide (anchor_any w)
  have d0 : decide ((1000 : Int) < (l1.length : Int)) = false := by rw [decide_eq_false_iff_not]; omega
  have d1 : decide ((1000 : Int) < (l2.length : Int)) = false := by rw [decide_eq_false_iff_not]; omega
  have d2 : decide (1000 < l1.length) = false := by rw [decide_eq_false_iff_not]; omega
  have d3 : decide (1000 < l2.length) = false := by rw [decide_eq_false_iff_not]; omega
  have r1 := ho1.room
  have r2 := ho1.top
  have r3 := ho2.room
  have r4 := ho2.top
  have HO1 := hide ho1
  have HO2 := hide ho2
  obtain ⟨n1, hn1⟩ : ∃ n, l1.length = n := ⟨_, rfl⟩
  obtain ⟨n2, hn2⟩ : ∃ n, l2.length = n := ⟨_, rfl⟩
  have HN1 := hide hn1
  have HN2 := hide hn2
  rw [hn1] at h1 d0 d2 r1 ⊢
  rw [hn2] at h2 d1 d3 r3 ⊢
  have HS1 := hide h1
  have HS2 := hide h2
  clear ho1 ho2 hn1 hn2
  go_enter Try.func5, Try.ntmps5
  go_wp2_with fail
  refine (unhide C).mono ?_
  rintro e w1 ⟨rfl, hb1⟩
  have C1 := hide (new_in (fun k => k < w1.heap.size) w1.heap.size 5000 w1 (by omega) (fun k h => h) (fun k h => h) (Nat.le_refl _))
  have HB1 := hide hb1
  have HO1' := hide (((unhide HO1).below hb1 (Nat.le_refl _)).more hb1.size)
  have HO2' := hide (((unhide HO2).below hb1 (Nat.le_refl _)).more hb1.size)
  clear C hb1 HO1 HO2
  go_wp2_with fail
  refine (unhide C1).mono ?_
  rintro e w2 ⟨⟨rfl, h2⟩, hb2⟩
  have HR0 := hide (show CRel [] l1 w1 (.int .i64 0) w2 from ⟨0, 0, rfl, Nat.zero_le _, h2, Keep.of_below hb2 (fun k h => h)⟩)
  clear C1 h2 hb2
  go_wp2_with fail
  go_loopw [48] (fun i wr => CRel [] l1 w1 i wr) (fun i _ => n1 - (intOf i).toNat)
  case atStart => exact unhide HR0
  case round =>
    obtain ⟨k, most, rfl, hk, hp, hkp⟩ := hrel
    go_hideQ
    rw [unhide HN1] at hk
    by_cases hlt : k < n1
    · obtain ⟨x, hx⟩ : ∃ x, l1[k]? = some x := ⟨_, List.getElem?_eq_getElem (by rw [unhide HN1]; exact hlt)⟩
      obtain ⟨b, off, eA, hbl, hc⟩ := ((unhide HO1').keep hkp (fun j hj => hj)).lies (by rw [unhide HN1]; omega)
      obtain ⟨c0, c1, c2, c3, c4, c5⟩ := hc k _ hx
      have hki : (k : Int) < (n1 : Int) := by omega
      have hbx := below_box wr (oEn x)
      have CP := hide (push_any (hp.below hbx) x)
      rw [push_more hx (by rw [List.length_append, List.length_nil, unhide HN1]; have := unhide HS1; omega)] at CP
      generalize decide ((([] : List En) ++ l1.take k).length < 5000) = q at *
      have HKP := hide (hkp.trans (Keep.of_below hbx hp.hi))
      obtain ⟨x0, x1, x2, x3, x4, x5⟩ := x
      simp only at c0 c1 c2 c3 c4 c5
      subst eA
      clear hc hx hbl hbx hp hkp
      go_wp2_with fail
      refine (unhide CP).mono ?_
      rintro e w5 ⟨rfl, h5, k5⟩
      have hR : CRel [] l1 w1 (.int .i64 ((k : Int) + 1)) w5 := ⟨k + 1, _, by go_num, by rw [unhide HN1]; omega, h5, (unhide HKP).trans k5⟩
      have HR := hide hR
      clear CP h5 k5 HKP hR
      go_wp2_with fail
      have hR := unhide HR
      have hme : n1 - (intOf (.int .i64 ((k : Int) + 1))).toNat < n1 - k := by simp [intOf]; omega
      first | exact ⟨hR, hme⟩ | exact ⟨⟨_, _, _, hR, rfl, rfl, rfl⟩, hme⟩ | exact ⟨⟨_, _, hR, rfl, rfl⟩, hme⟩ | (go_roundw; exact hR; exact hme)
    · obtain rfl : k = n1 := by omega
      rw [List.take_of_length_le (by rw [unhide HN1]; exact Nat.le_refl _), List.nil_append] at hp
      have CP := hide (push_any hp bar77)
      have e1 : pushL l1 5000 bar77 = l1 ++ [bar77] := by unfold pushL; rw [if_pos (by rw [unhide HN1]; have := unhide HS1; omega)]
      rw [e1] at CP
      generalize decide (l1.length < 5000) = q at *
      have HKP := hide hkp
      clear hp hkp e1
      go_wp2_with fail
      refine (unhide CP).mono ?_
      rintro e w5 ⟨rfl, h5, k5⟩
      have HR1 := hide (show CRel (l1 ++ [bar77]) (l2.map noB) w1 (.int .i64 0) w5 from ⟨0, _, rfl, Nat.zero_le _, by rw [List.take_zero, List.append_nil]; exact h5, (unhide HKP).trans k5⟩)
      clear CP h5 k5 HKP
      go_wp2_with fail
      go_loopw [61] (fun i wr => CRel (l1 ++ [bar77]) (l2.map noB) w1 i wr) (fun i _ => n2 - (intOf i).toNat)
      case atStart => exact unhide HR1
      case round =>
        obtain ⟨j, most2, rfl, hj, hp, hkp⟩ := hrel
        go_hideQ
        rw [List.length_map, unhide HN2] at hj
        by_cases hlt2 : j < n2
        · obtain ⟨x, hx⟩ : ∃ x, l2[j]? = some x := ⟨_, List.getElem?_eq_getElem (by rw [unhide HN2]; exact hlt2)⟩
          obtain ⟨b, off, eA, hbl, hc⟩ := ((unhide HO2').keep hkp (fun j hj => hj)).lies (by rw [unhide HN2]; omega)
          obtain ⟨c0, c1, c2, c3, c4, c5⟩ := hc j _ hx
          have hki : (j : Int) < (n2 : Int) := by omega
          have hbx := below_box wr (oEn (noB x))
          have CP := hide (push_any (hp.below hbx) (noB x))
          rw [push_more (l := l2.map noB) (by rw [List.getElem?_map, hx]; rfl) (by rw [List.length_append, List.length_append, List.length_map, unhide HN2, unhide HN1]; have := unhide HS1; have := unhide HS2; simp; omega)] at CP
          generalize decide (((l1 ++ [bar77]) ++ (l2.map noB).take j).length < 5000) = q at *
          have HKP := hide (hkp.trans (Keep.of_below hbx hp.hi))
          obtain ⟨x0, x1, x2, x3, x4, x5⟩ := x
          simp only at c0 c1 c2 c3 c4 c5
          rw [show noB ⟨x0, x1, x2, x3, x4, x5⟩ = ⟨false, x1, x2, x3, x4, x5⟩ from rfl] at CP HKP
          subst eA
          clear hc hx hbl hbx hp hkp
          go_wp2_with fail
          refine (unhide CP).mono ?_
          rintro e w5 ⟨rfl, h5, k5⟩
          have hR : CRel (l1 ++ [bar77]) (l2.map noB) w1 (.int .i64 ((j : Int) + 1)) w5 := ⟨j + 1, _, by go_num, by rw [List.length_map, unhide HN2]; omega, h5, (unhide HKP).trans k5⟩
          have HR := hide hR
          clear CP h5 k5 HKP hR
          go_wp2_with fail
          have hR := unhide HR
          have hme : n2 - (intOf (.int .i64 ((j : Int) + 1))).toNat < n2 - j := by simp [intOf]; omega
          first | exact ⟨hR, hme⟩ | exact ⟨⟨_, _, _, hR, rfl, rfl, rfl⟩, hme⟩ | exact ⟨⟨_, _, hR, rfl, rfl⟩, hme⟩ | (go_roundw; exact hR; exact hme)
        · obtain rfl : j = n2 := by omega
          rw [List.take_of_length_le (by rw [List.length_map, unhide HN2]; exact Nat.le_refl _), List.append_assoc, List.singleton_append] at hp
          have CC := hide (vcut_any hp)
          obtain ⟨e1, e2, e3⟩ := bar_mid l1 l2
          rw [e2, e3, e1, show decide (0 ≤ (l1.length : Int)) = true by simp] at CC
          have HKP := hide hkp
          clear hp hkp e1 e2 e3
          go_wp2_with fail
          refine (unhide CC).mono ?_
          rintro e w5 ⟨rfl, h5, k5⟩
          have b5 := below_box w5 (oEn bar77)
          have CT := hide (vtop_any (h5.below b5))
          obtain ⟨a, ha⟩ : ∃ a, lastE l1 = a := ⟨_, rfl⟩
          obtain ⟨t, ht⟩ : ∃ t, decide (0 < l1.length) = t := ⟨_, rfl⟩
          have HA := hide ha
          have HT := hide ht
          have HP5 := hide (h5.below b5)
          have HK5 := hide (Blk.new w5 30 #[.bool true, .int .i64 0, .int .i64 0, .int .i64 0, .int .i64 0, .int .i64 77])
          have HKP5 := hide (((unhide HKP).trans k5).trans (Keep.of_below b5 h5.hi))
          rw [ha, ht] at CT
          clear CC h5 k5 b5 HKP ha ht
          obtain ⟨a0, a1, a2, a3, a4, a5⟩ := a
          go_wp2_with fail
          refine (unhide CT).mono ?_
          rintro e w6 ⟨rfl, hb6⟩
          have b6 := below_box w6 (oEn ⟨a0, a1, a2, a3, a4, a5⟩)
          have hb67 := hb6.trans (b6.mono hb6.size)
          have hkp7 := (unhide HKP5).trans (Keep.of_below hb67 (unhide HP5).hi)
          have CB := hide (lbar_any l1 A1 p1 (w6.alloc (oEn ⟨a0, a1, a2, a3, a4, a5⟩)) (((unhide HO1').keep hkp7 (fun j hj => hj)).more hkp7.size))
          rw [unhide HN1] at CB
          have HP7 := hide ((unhide HP5).below hb67)
          have HK57 := hide ((unhide HK5).below hb67 (by simp))
          have HK7 := hide (Blk.new w6 30 #[.bool a0, .int .i64 a1, .int .i64 a2, .int .i64 a3, .int .i64 a4, .int .i64 a5])
          have HKP7 := hide hkp7
          clear CT hb6 b6 hb67 hkp7 HP5 HK5 HKP5
          go_wp2_with fail
          refine (unhide CB).mono ?_
          rintro e w8 ⟨rfl, hb8⟩
          have CX := hide (vbar_any ((unhide HP7).below hb8))
          have HB8 := hide hb8
          clear CB hb8
          obtain ⟨y, hy⟩ : ∃ y, barE l1 = y := ⟨_, rfl⟩
          have HY := hide hy
          rw [hy] at CX
          clear hy
          obtain ⟨y0, y1, y2, y3, y4, y5⟩ := y
          obtain ⟨z, hz⟩ : ∃ z, barZ l1 = z := ⟨_, rfl⟩
          have HZ := hide hz
          rw [hz] at CX ⊢
          clear hz
          go_wp2_with fail
          refine (unhide CX).mono ?_
          rintro e w9 ⟨rfl, hb9⟩
          have b9 := below_box w9 (oEn ⟨y0, y1, y2, y3, y4, y5⟩)
          have hb79 := ((unhide HB8).trans (hb9.mono (unhide HB8).size)).trans (b9.mono (Nat.le_trans (unhide HB8).size hb9.size))
          have hcf : CF l1 A1 p1 w1 w5.heap.size w6.heap.size w9.heap.size ⟨a0, a1, a2, a3, a4, a5⟩ ⟨y0, y1, y2, y3, y4, y5⟩ most2 (w9.alloc (oEn ⟨y0, y1, y2, y3, y4, y5⟩)).drew := by
            have hkp := (unhide HKP7).trans (Keep.of_below hb79 (unhide HP7).hi)
            exact (⟨(unhide HK57).below hb79 (unhide HK57).lt, (unhide HK7).below hb79 (unhide HK7).lt, Blk.new w9 _ _, (unhide HP7).below hb79, (unhide HO1').keep hkp (fun j hj => hj), hkp⟩ : CF _ _ _ _ _ _ _ _ _ _ (w9.alloc (oEn ⟨y0, y1, y2, y3, y4, y5⟩))).below (Below.refl _ _).drew
          have HCF := hide hcf
          clear CX hb9 b9 hb79 hcf HP7 HK57 HK7 HKP7
          have CL := hide (show ∀ wx, CF l1 A1 p1 w1 w5.heap.size w6.heap.size w9.heap.size ⟨a0, a1, a2, a3, a4, a5⟩ ⟨y0, y1, y2, y3, y4, y5⟩ most2 wx → Calls Try.prog 16 #[.pointer (some ⟨w1.heap.size, 0, none⟩)] wx fun e w' => e = .returned (.int .i64 (k : Int)) ∧ w' = wx from fun wx h => by
            have := vlen_any h.pv
            rw [unhide HN1] at this
            exact this)
          have CA := hide (show ∀ wx, CF l1 A1 p1 w1 w5.heap.size w6.heap.size w9.heap.size ⟨a0, a1, a2, a3, a4, a5⟩ ⟨y0, y1, y2, y3, y4, y5⟩ most2 wx → Calls Try.prog 11 #[.slice A1 k p1] wx fun e w' => e = .returned (enV ⟨a0, a1, a2, a3, a4, a5⟩) ∧ CF l1 A1 p1 w1 w5.heap.size w6.heap.size w9.heap.size ⟨a0, a1, a2, a3, a4, a5⟩ ⟨y0, y1, y2, y3, y4, y5⟩ most2 w' from fun wx h => by
            have := last_any l1 A1 p1 wx (h.ev.more h.kp.size)
            rw [unhide HN1, unhide HA] at this
            exact this.mono fun e w' ⟨h1, h2⟩ => ⟨h1, h.below h2⟩)
          have ht := unhide HT
          rw [unhide HN1] at ht
          have dt : decide ((0 : Int) < (k : Int)) = t := by rw [← ht]; apply Bool.eq_iff_iff.2; simp only [decide_eq_true_iff]; omega
          have dk : ((k : Int) == (k : Int)) = true := by simp
          rcases barZ_form l1 with hz | ⟨m, hz, hm⟩
          · obtain rfl : z = -1 := by rw [← unhide HZ, hz]
            clear hz
            go_wp2_with fail
            refine wp_region_noPanic ?_
            refine wp_plan (CF l1 A1 p1 w1 w5.heap.size w6.heap.size w9.heap.size ⟨a0, a1, a2, a3, a4, a5⟩ ⟨y0, y1, y2, y3, y4, y5⟩ most2) [(.t, 0), (.t, 1), (.l, 2), (.t, 3), (.t, 4), (.t, 5), (.t, 6), (.t, 7), (.t, 9), (.t, 10), (.k, 8), (.t, 11), (.t, 12), (.t, 13), (.t, 14), (.t, 15), (.t, 16), (.t, 17), (.t, 18), (.t, 19), (.t, 20), (.l, 21), (.t, 22), (.k, 23), (.t, 24), (.t, 25), (.t, 26), (.t, 27), (.t, 28), (.t, 29), (.t, 30), (.t, 31), (.t, 32), (.t, 33), (.t, 34), (.t, 35), (.l, 36), (.t, 37), (.t, 38), (.t, 39), (.l, 40), (.t, 41), (.t, 42), (.t, 43), (.t, 44)] (by kernel_rfl) (by kernel_rfl) (fun _ _ _ _ _ h => h) ?_
            simp only [plan, pick]
            repeat ((first | (apply pl_t; (· rfl); (· (intro w; go_simp; try with_reducible rfl))) | (apply pl_l; (· rfl); (· exact (unhide HCF)); (· (rintro wx hS; obtain ⟨s0, s1, s2, s3, s4, s5⟩ := blk6 hS.k1; obtain ⟨t0, t1, t2, t3, t4, t5⟩ := blk6 hS.k2; obtain ⟨u0, u1, u2, u3, u4, u5⟩ := blk6 hS.k3; clear hS; go_simp; try with_reducible rfl))) | (refine pl_s rfl ?_) | (refine pl_ls rfl (unhide HCF) ?_)); try simp only [Act.put, List.setIfInBounds_toArray, List.set_cons_zero, List.set_cons_succ])
            refine pl_k fun K1 hK => ?_
            go_simp
            refine ((unhide CL) _ (unhide HCF)).mono ?_
            rintro e w10 ⟨rfl, hw10⟩
            subst hw10
            go_simp
            refine hK.out _ _ (unhide HCF) ?_
            clear hK K1
            repeat ((first | (apply pl_t; (· rfl); (· (intro w; go_simp; try with_reducible rfl))) | (apply pl_l; (· rfl); (· exact (unhide HCF)); (· (rintro wx hS; obtain ⟨s0, s1, s2, s3, s4, s5⟩ := blk6 hS.k1; obtain ⟨t0, t1, t2, t3, t4, t5⟩ := blk6 hS.k2; obtain ⟨u0, u1, u2, u3, u4, u5⟩ := blk6 hS.k3; clear hS; go_simp; try with_reducible rfl))) | (refine pl_s rfl ?_) | (refine pl_ls rfl (unhide HCF) ?_)); try simp only [Act.put, List.setIfInBounds_toArray, List.set_cons_zero, List.set_cons_succ])
            refine pl_k fun K1 hK => ?_
            go_simp
            refine ((unhide CA) _ (unhide HCF)).mono ?_
            rintro e w11 ⟨rfl, hcf⟩
            have HCF := hide hcf
            go_simp
            refine hK.out _ _ hcf ?_
            clear hK K1 hcf
            repeat ((first | (apply pl_t; (· rfl); (· (intro w; go_simp; try with_reducible rfl))) | (apply pl_l; (· rfl); (· exact (unhide HCF)); (· (rintro wx hS; obtain ⟨s0, s1, s2, s3, s4, s5⟩ := blk6 hS.k1; obtain ⟨t0, t1, t2, t3, t4, t5⟩ := blk6 hS.k2; obtain ⟨u0, u1, u2, u3, u4, u5⟩ := blk6 hS.k3; clear hS; go_simp; try with_reducible rfl))) | (refine pl_s rfl ?_) | (refine pl_ls rfl (unhide HCF) ?_)); try simp only [Act.put, List.setIfInBounds_toArray, List.set_cons_zero, List.set_cons_succ])
            refine pl_n (NoPanic.normal ?_)
            go_wp2_with fail
            go_ret
            exact ⟨rfl, (unhide HB1).trans (((unhide HCF).kp.below (fun k h => h)).mono (unhide HB1).size)⟩
          · obtain rfl : z = (m : Int) := by rw [← unhide HZ, hz]
            rw [unhide HN1] at hm
            have hz0 : decide ((0 : Int) ≤ (m : Int)) = true := by simp
            have hmk : (m : Int) < (k : Int) := by omega
            have HE := hide (show l1[m]? = some ⟨y0, y1, y2, y3, y4, y5⟩ by rw [← unhide HY]; exact (bar_some hz (by rw [unhide HN1]; exact hm)).1)
            obtain ⟨b, off, eA, -, -⟩ := (unhide HO1').lies (by rw [unhide HN1]; omega)
            subst eA
            clear hz
            go_wp2_with fail
            refine wp_region_noPanic ?_
            refine wp_plan (CF l1 (some ⟨b, off, none⟩) p1 w1 w5.heap.size w6.heap.size w9.heap.size ⟨a0, a1, a2, a3, a4, a5⟩ ⟨y0, y1, y2, y3, y4, y5⟩ most2) [(.t, 0), (.t, 1), (.l, 2), (.t, 3), (.t, 4), (.t, 5), (.t, 6), (.t, 7), (.t, 9), (.t, 10), (.k, 8), (.t, 11), (.t, 12), (.t, 13), (.t, 14), (.t, 15), (.t, 16), (.t, 17), (.t, 18), (.t, 19), (.t, 20), (.l, 21), (.t, 22), (.k, 23), (.t, 24), (.t, 25), (.t, 26), (.t, 27), (.t, 28), (.t, 29), (.t, 30), (.t, 31), (.t, 32), (.t, 33), (.t, 34), (.t, 35), (.l, 36), (.t, 37), (.t, 38), (.t, 39), (.l, 40), (.t, 41), (.t, 42), (.t, 43), (.t, 44)] (by kernel_rfl) (by kernel_rfl) (fun _ _ _ _ _ h => h) ?_
            simp only [plan, pick]
            repeat ((first | (apply pl_t; (· rfl); (· (intro w; go_simp; try with_reducible rfl))) | (apply pl_l; (· rfl); (· exact (unhide HCF)); (· (rintro wx hS; obtain ⟨v0, v1, v2, v3, v4, v5⟩ := hS.ev.six (unhide HE); simp only at v0 v1 v2 v3 v4 v5; obtain ⟨s0, s1, s2, s3, s4, s5⟩ := blk6 hS.k1; obtain ⟨t0, t1, t2, t3, t4, t5⟩ := blk6 hS.k2; obtain ⟨u0, u1, u2, u3, u4, u5⟩ := blk6 hS.k3; clear hS; go_simp; try with_reducible rfl))) | (refine pl_s rfl ?_) | (refine pl_ls rfl (unhide HCF) ?_)); try simp only [Act.put, List.setIfInBounds_toArray, List.set_cons_zero, List.set_cons_succ])
            refine pl_k fun K1 hK => ?_
            go_simp
            refine ((unhide CL) _ (unhide HCF)).mono ?_
            rintro e w10 ⟨rfl, hw10⟩
            subst hw10
            go_simp
            refine hK.out _ _ (unhide HCF) ?_
            clear hK K1
            repeat ((first | (apply pl_t; (· rfl); (· (intro w; go_simp; try with_reducible rfl))) | (apply pl_l; (· rfl); (· exact (unhide HCF)); (· (rintro wx hS; obtain ⟨v0, v1, v2, v3, v4, v5⟩ := hS.ev.six (unhide HE); simp only at v0 v1 v2 v3 v4 v5; obtain ⟨s0, s1, s2, s3, s4, s5⟩ := blk6 hS.k1; obtain ⟨t0, t1, t2, t3, t4, t5⟩ := blk6 hS.k2; obtain ⟨u0, u1, u2, u3, u4, u5⟩ := blk6 hS.k3; clear hS; go_simp; try with_reducible rfl))) | (refine pl_s rfl ?_) | (refine pl_ls rfl (unhide HCF) ?_)); try simp only [Act.put, List.setIfInBounds_toArray, List.set_cons_zero, List.set_cons_succ])
            refine pl_k fun K1 hK => ?_
            go_simp
            refine ((unhide CA) _ (unhide HCF)).mono ?_
            rintro e w11 ⟨rfl, hcf⟩
            have HCF := hide hcf
            go_simp
            refine hK.out _ _ hcf ?_
            clear hK K1 hcf
            repeat ((first | (apply pl_t; (· rfl); (· (intro w; go_simp; try with_reducible rfl))) | (apply pl_l; (· rfl); (· exact (unhide HCF)); (· (rintro wx hS; obtain ⟨v0, v1, v2, v3, v4, v5⟩ := hS.ev.six (unhide HE); simp only at v0 v1 v2 v3 v4 v5; obtain ⟨s0, s1, s2, s3, s4, s5⟩ := blk6 hS.k1; obtain ⟨t0, t1, t2, t3, t4, t5⟩ := blk6 hS.k2; obtain ⟨u0, u1, u2, u3, u4, u5⟩ := blk6 hS.k3; clear hS; go_simp; try with_reducible rfl))) | (refine pl_s rfl ?_) | (refine pl_ls rfl (unhide HCF) ?_)); try simp only [Act.put, List.setIfInBounds_toArray, List.set_cons_zero, List.set_cons_succ])
            refine pl_n (NoPanic.normal ?_)
            go_wp2_with fail
            go_ret
            exact ⟨rfl, (unhide HB1).trans (((unhide HCF).kp.below (fun k h => h)).mono (unhide HB1).size)⟩
end
theorem walkCuts (l1 l2 : List En) (A1 A2 : Option Addr) (p1 p2 : Nat) (w : World) (ho1 : EV l1 A1 p1 w.heap.size w) (ho2 : EV l2 A2 p2 w.heap.size w) :
    Calls Try.prog 5 #[.slice A1 l1.length p1, .slice A2 l2.length p2] w fun e w' => e = .returned (.bool true) ∧ Below w.heap.size w w' := by
  by_cases h : 1000 < l1.length ∨ 1000 < l2.length
  · exact cuts_big l1 l2 A1 A2 p1 p2 w h
  · exact cuts_small l1 l2 A1 A2 p1 p2 w (by omega) (by omega) ho1 ho2
end Go.Proofs.Ytklmligfljakfaa.Pi
