/-
  The law RsetJoins, walked.
-/
import Derived.Test.YthpmchdejoiacaaRsLawCountsWalk
import Derived.Test.YthpmchdejoiacaaRsLawMakesWalk
set_option linter.unusedVariables false
set_option linter.unusedSimpArgs false
namespace Go.Proofs.Ythpmchdejoiacaa.Rs
open Go.Shelf Go.RowKit Go.Proofs.Ythpmchdejoiacaa.Mem
theorem eql_bool_j (a b : Bool) (w : World) : Sem.run Try.prog (binOp .eql 4 (.bool a) (.bool b)) w = .ok (.bool (a == b)) w := by
  have h := run_equal_bool (P := Try.prog) w 4 a b Try.underlying4
  simp [binOp, h]
attribute [local go_sem] run_not_true run_not_false neq_bool_m eql_bool_j

theorem least_int {l : List R} (h : Least l) : ∀ r ∈ l, -9223372036854775808 ≤ r.1 ∧ r.1 ≤ 9223372036854775807 := fun r hr => by
  have := h.ok r hr
  unfold okR at this
  omega
/-- a list that the law holds, and how it lies -/
structure Kept (W : World) (A : Option Addr) (l : List R) : Prop where
  lst : Lst W W.heap.size A l
theorem Kept.on {W W' : World} {A : Option Addr} {l : List R} (h : Kept W A l) (hb : Below W.heap.size W W') : Kept W' A l := ⟨(h.lst.below hb).more hb.size⟩

set_option maxHeartbeats 8000000 in
theorem walkJoins (a : List R) (A : Option Addr) (ca : Nat) (b : List R) (B : Option Addr) (cb : Nat) (w : World)
    (hca : a.length ≤ ca) (hma : ca ≤ 9223372036854775807) (hia : ∀ r ∈ a, -9223372036854775808 ≤ r.1 ∧ r.1 ≤ 9223372036854775807) (ha : Lst w w.heap.size A a)
    (hcb : b.length ≤ cb) (hmb : cb ≤ 9223372036854775807) (hib : ∀ r ∈ b, -9223372036854775808 ≤ r.1 ∧ r.1 ≤ 9223372036854775807) (hb : Lst w w.heap.size B b) :
    Calls Try.prog 5 #[.slice A a.length ca, .slice B b.length cb] w fun e w' => e = .returned (.bool true) ∧ Below w.heap.size w w' := by
  have HA := hide (Kept.mk ha)
  have HB := hide (Kept.mk hb)
  clear ha hb hia hib
  by_cases hbig : 40 < (a.length : Int)
  · go_enter Try.func5, Try.ntmps5
    go_wp2_with fail
    refine (anchor_any w).mono ?_
    rintro e w1 ⟨rfl, hb1⟩
    go_wp2
    go_ret
    exact ⟨rfl, hb1⟩
  · by_cases hbig2 : 40 < (b.length : Int)
    · go_enter Try.func5, Try.ntmps5
      go_wp2_with fail
      refine (anchor_any w).mono ?_
      rintro e w1 ⟨rfl, hb1⟩
      go_wp2
      go_ret
      exact ⟨rfl, hb1⟩
    · have hla : a.length ≤ 40 := by omega
      have hlb : b.length ≤ 40 := by omega
      have hln := notL_len a
      have hlo := orL_len a b
      have hld := andL_len a b
      have SO := hide (orL_has a b)
      have SD := hide (andL_has a b)
      have SN := hide (notL_has a)
      have LO := hide (orL_least a b)
      have LD := hide (andL_least a b)
      have LN := hide (notL_least a)
      go_enter Try.func5, Try.ntmps5
      go_wp2_with fail
      refine (anchor_any w).mono ?_
      rintro e w1 ⟨rfl, hb1⟩
      have HB1 := hide hb1
      have KA1 := hide ((unhide HA).on hb1)
      have KB1 := hide ((unhide HB).on hb1)
      clear hb1
      go_wp2_with fail
      refine (or_any a b A B ca cb w1 (by omega) (by omega) (unhide KA1).lst (unhide KB1).lst).mono ?_
      rintro e w2 ⟨v2, rfl, hcut2⟩
      obtain ⟨O_, cO_, rfl, hl2, hcO_, hcmO_⟩ := own_lst hcut2.1
      have HB2 := hide ((unhide HB1).trans (hcut2.2.mono (unhide HB1).size))
      have KA2 := hide ((unhide KA1).on hcut2.2)
      have KB2 := hide ((unhide KB1).on hcut2.2)
      have KO2 := hide (Kept.mk hl2)
      clear hcut2 hl2
      go_wp2_with fail
      refine (and_any a b A B ca cb w2 (by omega) (by omega) hca hcb (unhide KA2).lst (unhide KB2).lst).mono ?_
      rintro e w3 ⟨v3, rfl, hcut3⟩
      obtain ⟨D_, cD_, rfl, hl3, hcD_, hcmD_⟩ := own_lst hcut3.1
      have HB3 := hide ((unhide HB2).trans (hcut3.2.mono (unhide HB2).size))
      have KA3 := hide ((unhide KA2).on hcut3.2)
      have KB3 := hide ((unhide KB2).on hcut3.2)
      have KO3 := hide ((unhide KO2).on hcut3.2)
      have KD3 := hide (Kept.mk hl3)
      clear hcut3 hl3
      go_wp2_with fail
      refine (not_any a A ca w3 (by omega) hca (unhide KA3).lst).mono ?_
      rintro e w4 ⟨v4, rfl, hcut4⟩
      obtain ⟨N_, cN_, rfl, hl4, hcN_, hcmN_⟩ := own_lst hcut4.1
      have HB4 := hide ((unhide HB3).trans (hcut4.2.mono (unhide HB3).size))
      have KA4 := hide ((unhide KA3).on hcut4.2)
      have KB4 := hide ((unhide KB3).on hcut4.2)
      have KO4 := hide ((unhide KO3).on hcut4.2)
      have KD4 := hide ((unhide KD3).on hcut4.2)
      have KN4 := hide (Kept.mk hl4)
      clear hcut4 hl4
      generalize orL a b = lo at *
      generalize andL a b = ld at *
      generalize notL a = ln at *
      go_wp2_with fail
      refine (lawOf_any lo O_ cO_ w4 (by omega) (unhide KO4).lst).mono ?_
      rintro e w5 ⟨v5, rfl, hcut5⟩
      obtain ⟨X5, cx5, rfl, hl5, hcx5, hcmx5⟩ := own_lst2 hcut5.1
      have HB5 := hide ((unhide HB4).trans (hcut5.2.mono (unhide HB4).size))
      have KA5 := hide ((unhide KA4).on hcut5.2)
      have KB5 := hide ((unhide KB4).on hcut5.2)
      have KO5 := hide ((unhide KO4).on hcut5.2)
      have KD5 := hide ((unhide KD4).on hcut5.2)
      have KN5 := hide ((unhide KN4).on hcut5.2)
      have HX5 := hide hl5
      clear hcut5 hl5
      go_wp2_with fail
      refine (refLeast_any lo X5 cx5 w5 (by omega) (least_int (unhide LO)) (unhide HX5)).mono ?_
      rintro e w6 ⟨rfl, hb6⟩
      rw [decide_eq_true (unhide LO)]
      have HB6 := hide ((unhide HB5).trans (hb6.mono (unhide HB5).size))
      have KA6 := hide ((unhide KA5).on hb6)
      have KB6 := hide ((unhide KB5).on hb6)
      have KO6 := hide ((unhide KO5).on hb6)
      have KD6 := hide ((unhide KD5).on hb6)
      have KN6 := hide ((unhide KN5).on hb6)
      clear hb6
      go_wp2_with fail
      refine (lawOf_any ld D_ cD_ w6 (by omega) (unhide KD6).lst).mono ?_
      rintro e w7 ⟨v7, rfl, hcut7⟩
      obtain ⟨X7, cx7, rfl, hl7, hcx7, hcmx7⟩ := own_lst2 hcut7.1
      have HB7 := hide ((unhide HB6).trans (hcut7.2.mono (unhide HB6).size))
      have KA7 := hide ((unhide KA6).on hcut7.2)
      have KB7 := hide ((unhide KB6).on hcut7.2)
      have KO7 := hide ((unhide KO6).on hcut7.2)
      have KD7 := hide ((unhide KD6).on hcut7.2)
      have KN7 := hide ((unhide KN6).on hcut7.2)
      have HX7 := hide hl7
      clear hcut7 hl7
      go_wp2_with fail
      refine (refLeast_any ld X7 cx7 w7 (by omega) (least_int (unhide LD)) (unhide HX7)).mono ?_
      rintro e w8 ⟨rfl, hb8⟩
      rw [decide_eq_true (unhide LD)]
      have HB8 := hide ((unhide HB7).trans (hb8.mono (unhide HB7).size))
      have KA8 := hide ((unhide KA7).on hb8)
      have KB8 := hide ((unhide KB7).on hb8)
      have KO8 := hide ((unhide KO7).on hb8)
      have KD8 := hide ((unhide KD7).on hb8)
      have KN8 := hide ((unhide KN7).on hb8)
      clear hb8
      go_wp2_with fail
      refine (lawOf_any ln N_ cN_ w8 (by omega) (unhide KN8).lst).mono ?_
      rintro e w9 ⟨v9, rfl, hcut9⟩
      obtain ⟨X9, cx9, rfl, hl9, hcx9, hcmx9⟩ := own_lst2 hcut9.1
      have HB9 := hide ((unhide HB8).trans (hcut9.2.mono (unhide HB8).size))
      have KA9 := hide ((unhide KA8).on hcut9.2)
      have KB9 := hide ((unhide KB8).on hcut9.2)
      have KO9 := hide ((unhide KO8).on hcut9.2)
      have KD9 := hide ((unhide KD8).on hcut9.2)
      have KN9 := hide ((unhide KN8).on hcut9.2)
      have HX9 := hide hl9
      clear hcut9 hl9
      go_wp2_with fail
      refine (refLeast_any ln X9 cx9 w9 (by omega) (least_int (unhide LN)) (unhide HX9)).mono ?_
      rintro e w10 ⟨rfl, hb10⟩
      rw [decide_eq_true (unhide LN)]
      have HB10 := hide ((unhide HB9).trans (hb10.mono (unhide HB9).size))
      have KA10 := hide ((unhide KA9).on hb10)
      have KB10 := hide ((unhide KB9).on hb10)
      have KO10 := hide ((unhide KO9).on hb10)
      have KD10 := hide ((unhide KD9).on hb10)
      have KN10 := hide ((unhide KN9).on hb10)
      clear hb10
      have hbl := below_al (Below.refl w10.heap.size w10) (Nat.le_refl _) (.cells #[.slice A a.length ca, .slice B b.length cb, .slice O_ lo.length cO_, .slice D_ ld.length cD_, .slice N_ ln.length cN_] 22)
      have HED := hide (edges_any [(A, a, ca), (B, b, cb), (O_, lo, cO_), (D_, ld, cD_), (N_, ln, cN_)] w10.heap.size 5 (w10.alloc (.cells #[.slice A a.length ca, .slice B b.length cb, .slice O_ lo.length cO_, .slice D_ ld.length cD_, .slice N_ ln.length cN_] 22)) (by simp) (by simp)
        (fun k x hx => by
          rw [World.cell?_alloc_new]
          match k, hx with
          | 0, hx => simp at hx; subst hx; rfl
          | 1, hx => simp at hx; subst hx; rfl
          | 2, hx => simp at hx; subst hx; rfl
          | 3, hx => simp at hx; subst hx; rfl
          | 4, hx => simp at hx; subst hx; rfl
          | k + 5, hx => simp at hx)
        (fun x hx => by
          simp at hx
          rcases hx with rfl | rfl | rfl | rfl | rfl
          · exact ⟨((unhide KA10).on hbl).lst, by simp only; omega⟩
          · exact ⟨((unhide KB10).on hbl).lst, by simp only; omega⟩
          · exact ⟨((unhide KO10).on hbl).lst, by simp only; omega⟩
          · exact ⟨((unhide KD10).on hbl).lst, by simp only; omega⟩
          · exact ⟨((unhide KN10).on hbl).lst, by simp only; omega⟩))
      have HBL := hide hbl
      clear hbl
      go_wp2_with fail
      refine (unhide HED).mono ?_
      rintro e w11 ⟨v11, zs, rfl, hzs, hzin, hcut11⟩
      obtain ⟨X11, cx11, rfl, hr3, hcx11⟩ := own_reads hcut11.1
      have hb11 : Below w10.heap.size w10 w11 := (unhide HBL).trans (hcut11.2.mono (by simp))
      have HB11 := hide ((unhide HB10).trans (hb11.mono (unhide HB10).size))
      have KA11 := hide ((unhide KA10).on hb11)
      have KB11 := hide ((unhide KB10).on hb11)
      have KO11 := hide ((unhide KO10).on hb11)
      have KD11 := hide ((unhide KD10).on hb11)
      have KN11 := hide ((unhide KN10).on hb11)
      have HR := hide hr3
      have HZ := hide hzin
      clear hcut11 hr3 hb11 HED HBL hzin
      go_wp2
      go_loopw [54] (fun i wr => MRel zs.length w11 i wr) (fun i _ => zs.length - (intOf i).toNat)
      case atStart => exact ⟨0, rfl, Nat.zero_le _, Below.refl _ _⟩
      case round =>
        obtain ⟨k, rfl, hk, hbl⟩ := hrel
        by_cases hlt : k < zs.length
        · obtain ⟨b0, off, z, rfl, hz, c1⟩ := int_at (unhide HR) hlt hbl
          have hlt' : (k : Int) < (zs.length : Int) := by omega
          have hzb := (unhide HZ) z (List.mem_of_getElem? hz)
          have P0 := hide hbl
          have QA0 := hide ((unhide KA11).on hbl)
          have QB0 := hide ((unhide KB11).on hbl)
          have QO0 := hide ((unhide KO11).on hbl)
          have QD0 := hide ((unhide KD11).on hbl)
          have QN0 := hide ((unhide KN11).on hbl)
          have hO : hasL lo z = (hasL a z || hasL b z) := (unhide SO) z
          have hD : hasL ld z = (hasL a z && hasL b z) := (unhide SD) z
          have hN : hasL ln z = !hasL a z := by rw [(unhide SN) z, show decide (0 ≤ z ∧ z ≤ 1114367) = true by simpa using hzb]; simp
          have EO := hide hO
          have ED := hide hD
          have EN := hide hN
          clear hbl hz hzb hO hD hN
          go_wp2_with fail
          refine (lawOf_any a A ca wr (by omega) (unhide QA0).lst).mono ?_
          rintro e x1 ⟨v, rfl, hcut⟩
          obtain ⟨Y0, cy0, rfl, hl, hcy0, hcmy0⟩ := own_lst2 hcut.1
          have P1 := hide ((unhide P0).trans (hcut.2.mono (unhide P0).size))
          have QB1 := hide ((unhide QB0).on hcut.2)
          have QO1 := hide ((unhide QO0).on hcut.2)
          have QD1 := hide ((unhide QD0).on hcut.2)
          have QN1 := hide ((unhide QN0).on hcut.2)
          have HY0 := hide hl
          clear hcut hl c1
          go_wp2_with fail
          refine (refHas_any a z Y0 cy0 x1 (by omega) (unhide HY0)).mono ?_
          rintro e x2 ⟨rfl, rfl⟩
          go_wp2_with fail
          refine (lawOf_any b B cb x2 (by omega) (unhide QB1).lst).mono ?_
          rintro e x3 ⟨v, rfl, hcut⟩
          obtain ⟨Y1, cy1, rfl, hl, hcy1, hcmy1⟩ := own_lst2 hcut.1
          have P2 := hide ((unhide P1).trans (hcut.2.mono (unhide P1).size))
          have QO2 := hide ((unhide QO1).on hcut.2)
          have QD2 := hide ((unhide QD1).on hcut.2)
          have QN2 := hide ((unhide QN1).on hcut.2)
          have HY1 := hide hl
          clear hcut hl
          go_wp2_with fail
          refine (refHas_any b z Y1 cy1 x3 (by omega) (unhide HY1)).mono ?_
          rintro e x4 ⟨rfl, rfl⟩
          generalize hpa : hasL a z = p at *
          generalize hpb : hasL b z = q at *
          clear hpa hpb
          cases p <;> cases q
          · go_wp2_with fail
            refine (lawOf_any lo O_ cO_ x4 (by omega) (unhide QO2).lst).mono ?_
            rintro e x5 ⟨v, rfl, hcut⟩
            obtain ⟨Y2, cy2, rfl, hl, hcy2, hcmy2⟩ := own_lst2 hcut.1
            have P3 := hide ((unhide P2).trans (hcut.2.mono (unhide P2).size))
            have QD3 := hide ((unhide QD2).on hcut.2)
            have QN3 := hide ((unhide QN2).on hcut.2)
            have HY2 := hide hl
            clear hcut hl
            go_wp2_with fail
            refine (refHas_any lo z Y2 cy2 x5 (by omega) (unhide HY2)).mono ?_
            rintro e x6 ⟨rfl, rfl⟩
            rw [unhide EO]
            go_wp2_with fail
            refine (lawOf_any ld D_ cD_ x6 (by omega) (unhide QD3).lst).mono ?_
            rintro e x7 ⟨v, rfl, hcut⟩
            obtain ⟨Y3, cy3, rfl, hl, hcy3, hcmy3⟩ := own_lst2 hcut.1
            have P4 := hide ((unhide P3).trans (hcut.2.mono (unhide P3).size))
            have QN4 := hide ((unhide QN3).on hcut.2)
            have HY3 := hide hl
            clear hcut hl
            go_wp2_with fail
            refine (refHas_any ld z Y3 cy3 x7 (by omega) (unhide HY3)).mono ?_
            rintro e x8 ⟨rfl, rfl⟩
            rw [unhide ED]
            go_wp2_with fail
            refine (lawOf_any ln N_ cN_ x8 (by omega) (unhide QN4).lst).mono ?_
            rintro e x9 ⟨v, rfl, hcut⟩
            obtain ⟨Y4, cy4, rfl, hl, hcy4, hcmy4⟩ := own_lst2 hcut.1
            have P5 := hide ((unhide P4).trans (hcut.2.mono (unhide P4).size))
            have HY4 := hide hl
            clear hcut hl
            go_wp2_with fail
            refine (refHas_any ln z Y4 cy4 x9 (by omega) (unhide HY4)).mono ?_
            rintro e x10 ⟨rfl, rfl⟩
            rw [unhide EN]
            go_wp2
            first | go_roundw | refine ⟨⟨_, _, _, _, ?rel, rfl, rfl, rfl, rfl⟩, ?measure⟩
            case rel => exact ⟨k + 1, by go_num, by omega, unhide P5⟩
            case measure => simp [intOf]; omega
          · go_wp2_with fail
            refine (lawOf_any lo O_ cO_ x4 (by omega) (unhide QO2).lst).mono ?_
            rintro e x5 ⟨v, rfl, hcut⟩
            obtain ⟨Y2, cy2, rfl, hl, hcy2, hcmy2⟩ := own_lst2 hcut.1
            have P3 := hide ((unhide P2).trans (hcut.2.mono (unhide P2).size))
            have QD3 := hide ((unhide QD2).on hcut.2)
            have QN3 := hide ((unhide QN2).on hcut.2)
            have HY2 := hide hl
            clear hcut hl
            go_wp2_with fail
            refine (refHas_any lo z Y2 cy2 x5 (by omega) (unhide HY2)).mono ?_
            rintro e x6 ⟨rfl, rfl⟩
            rw [unhide EO]
            go_wp2_with fail
            refine (lawOf_any ld D_ cD_ x6 (by omega) (unhide QD3).lst).mono ?_
            rintro e x7 ⟨v, rfl, hcut⟩
            obtain ⟨Y3, cy3, rfl, hl, hcy3, hcmy3⟩ := own_lst2 hcut.1
            have P4 := hide ((unhide P3).trans (hcut.2.mono (unhide P3).size))
            have QN4 := hide ((unhide QN3).on hcut.2)
            have HY3 := hide hl
            clear hcut hl
            go_wp2_with fail
            refine (refHas_any ld z Y3 cy3 x7 (by omega) (unhide HY3)).mono ?_
            rintro e x8 ⟨rfl, rfl⟩
            rw [unhide ED]
            go_wp2_with fail
            refine (lawOf_any ln N_ cN_ x8 (by omega) (unhide QN4).lst).mono ?_
            rintro e x9 ⟨v, rfl, hcut⟩
            obtain ⟨Y4, cy4, rfl, hl, hcy4, hcmy4⟩ := own_lst2 hcut.1
            have P5 := hide ((unhide P4).trans (hcut.2.mono (unhide P4).size))
            have HY4 := hide hl
            clear hcut hl
            go_wp2_with fail
            refine (refHas_any ln z Y4 cy4 x9 (by omega) (unhide HY4)).mono ?_
            rintro e x10 ⟨rfl, rfl⟩
            rw [unhide EN]
            go_wp2
            first | go_roundw | refine ⟨⟨_, _, _, _, ?rel, rfl, rfl, rfl, rfl⟩, ?measure⟩
            case rel => exact ⟨k + 1, by go_num, by omega, unhide P5⟩
            case measure => simp [intOf]; omega
          · go_wp2_with fail
            refine (lawOf_any lo O_ cO_ x4 (by omega) (unhide QO2).lst).mono ?_
            rintro e x5 ⟨v, rfl, hcut⟩
            obtain ⟨Y2, cy2, rfl, hl, hcy2, hcmy2⟩ := own_lst2 hcut.1
            have P3 := hide ((unhide P2).trans (hcut.2.mono (unhide P2).size))
            have QD3 := hide ((unhide QD2).on hcut.2)
            have QN3 := hide ((unhide QN2).on hcut.2)
            have HY2 := hide hl
            clear hcut hl
            go_wp2_with fail
            refine (refHas_any lo z Y2 cy2 x5 (by omega) (unhide HY2)).mono ?_
            rintro e x6 ⟨rfl, rfl⟩
            rw [unhide EO]
            go_wp2_with fail
            refine (lawOf_any ld D_ cD_ x6 (by omega) (unhide QD3).lst).mono ?_
            rintro e x7 ⟨v, rfl, hcut⟩
            obtain ⟨Y3, cy3, rfl, hl, hcy3, hcmy3⟩ := own_lst2 hcut.1
            have P4 := hide ((unhide P3).trans (hcut.2.mono (unhide P3).size))
            have QN4 := hide ((unhide QN3).on hcut.2)
            have HY3 := hide hl
            clear hcut hl
            go_wp2_with fail
            refine (refHas_any ld z Y3 cy3 x7 (by omega) (unhide HY3)).mono ?_
            rintro e x8 ⟨rfl, rfl⟩
            rw [unhide ED]
            go_wp2_with fail
            refine (lawOf_any ln N_ cN_ x8 (by omega) (unhide QN4).lst).mono ?_
            rintro e x9 ⟨v, rfl, hcut⟩
            obtain ⟨Y4, cy4, rfl, hl, hcy4, hcmy4⟩ := own_lst2 hcut.1
            have P5 := hide ((unhide P4).trans (hcut.2.mono (unhide P4).size))
            have HY4 := hide hl
            clear hcut hl
            go_wp2_with fail
            refine (refHas_any ln z Y4 cy4 x9 (by omega) (unhide HY4)).mono ?_
            rintro e x10 ⟨rfl, rfl⟩
            rw [unhide EN]
            go_wp2
            first | go_roundw | refine ⟨⟨_, _, _, _, ?rel, rfl, rfl, rfl, rfl⟩, ?measure⟩
            case rel => exact ⟨k + 1, by go_num, by omega, unhide P5⟩
            case measure => simp [intOf]; omega
          · go_wp2_with fail
            refine (lawOf_any lo O_ cO_ x4 (by omega) (unhide QO2).lst).mono ?_
            rintro e x5 ⟨v, rfl, hcut⟩
            obtain ⟨Y2, cy2, rfl, hl, hcy2, hcmy2⟩ := own_lst2 hcut.1
            have P3 := hide ((unhide P2).trans (hcut.2.mono (unhide P2).size))
            have QD3 := hide ((unhide QD2).on hcut.2)
            have QN3 := hide ((unhide QN2).on hcut.2)
            have HY2 := hide hl
            clear hcut hl
            go_wp2_with fail
            refine (refHas_any lo z Y2 cy2 x5 (by omega) (unhide HY2)).mono ?_
            rintro e x6 ⟨rfl, rfl⟩
            rw [unhide EO]
            go_wp2_with fail
            refine (lawOf_any ld D_ cD_ x6 (by omega) (unhide QD3).lst).mono ?_
            rintro e x7 ⟨v, rfl, hcut⟩
            obtain ⟨Y3, cy3, rfl, hl, hcy3, hcmy3⟩ := own_lst2 hcut.1
            have P4 := hide ((unhide P3).trans (hcut.2.mono (unhide P3).size))
            have QN4 := hide ((unhide QN3).on hcut.2)
            have HY3 := hide hl
            clear hcut hl
            go_wp2_with fail
            refine (refHas_any ld z Y3 cy3 x7 (by omega) (unhide HY3)).mono ?_
            rintro e x8 ⟨rfl, rfl⟩
            rw [unhide ED]
            go_wp2_with fail
            refine (lawOf_any ln N_ cN_ x8 (by omega) (unhide QN4).lst).mono ?_
            rintro e x9 ⟨v, rfl, hcut⟩
            obtain ⟨Y4, cy4, rfl, hl, hcy4, hcmy4⟩ := own_lst2 hcut.1
            have P5 := hide ((unhide P4).trans (hcut.2.mono (unhide P4).size))
            have HY4 := hide hl
            clear hcut hl
            go_wp2_with fail
            refine (refHas_any ln z Y4 cy4 x9 (by omega) (unhide HY4)).mono ?_
            rintro e x10 ⟨rfl, rfl⟩
            rw [unhide EN]
            go_wp2
            first | go_roundw | refine ⟨⟨_, _, _, _, ?rel, rfl, rfl, rfl, rfl⟩, ?measure⟩
            case rel => exact ⟨k + 1, by go_num, by omega, unhide P5⟩
            case measure => simp [intOf]; omega
        · obtain rfl : k = zs.length := by omega
          have P0 := hide hbl
          clear hbl
          go_wp2
          go_ret
          exact ⟨rfl, (unhide HB11).trans ((unhide P0).mono (unhide HB11).size)⟩
end Go.Proofs.Ythpmchdejoiacaa.Rs
