/-
  The law RsetCounts, walked.
-/
import Derived.Test.YthpmchdejoiacaaRsAnchor
import Derived.Test.YthpmchdejoiacaaRsOr
import Derived.Test.YthpmchdejoiacaaRsAnd
set_option linter.unusedVariables false
set_option linter.unusedSimpArgs false
namespace Go.Proofs.Ythpmchdejoiacaa.Rs
open Go.Shelf Go.RowKit Go.Proofs.Ythpmchdejoiacaa.Mem
attribute [local go_sem] run_not_true run_not_false

theorem cnt_bound (l : List R) : 0 ≤ cntL l ∧ cntL l ≤ 1114368 := by
  have h := cntL_not l
  have h1 : ∀ m : List R, 0 ≤ cntL m := fun m => by rw [cntL_eq 1114368 (by decide)]; omega
  have := h1 l
  have := h1 (notL l)
  omega
theorem notL_len (l : List R) : (notL l).length ≤ l.length + 1 := by
  have h : ∀ (m : List R) (f : Int), (notF f m).length ≤ m.length + 1 := by
    intro m
    induction m with
    | nil => intro f; unfold notF; split <;> simp
    | cons r t ih =>
      intro f
      unfold notF
      rw [List.length_append, List.length_cons]
      have := ih (r.2 + 1)
      split <;> simp <;> omega
  have := h (mk l) 0
  have := mk_len l
  unfold notL
  omega
theorem andL_len (a b : List R) : (andL a b).length ≤ a.length + b.length := by
  have := andF_len _ (mk a) (mk b) (Nat.le_refl _)
  have := mk_len a
  have := mk_len b
  unfold andL
  omega
theorem orL_len (a b : List R) : (orL a b).length ≤ a.length + b.length := by
  have := mk_len (a ++ b)
  unfold orL
  simpa using this

set_option maxHeartbeats 4000000 in
theorem walkCounts (a : List R) (A : Option Addr) (ca : Nat) (b : List R) (B : Option Addr) (cb : Nat) (w : World)
    (hca : a.length ≤ ca) (hma : ca ≤ 9223372036854775807) (hia : ∀ r ∈ a, -9223372036854775808 ≤ r.1 ∧ r.1 ≤ 9223372036854775807) (ha : Lst w w.heap.size A a)
    (hcb : b.length ≤ cb) (hmb : cb ≤ 9223372036854775807) (hib : ∀ r ∈ b, -9223372036854775808 ≤ r.1 ∧ r.1 ≤ 9223372036854775807) (hb : Lst w w.heap.size B b) :
    Calls Try.prog 6 #[.slice A a.length ca, .slice B b.length cb] w fun e w' => e = .returned (.bool true) ∧ Below w.heap.size w w' := by
  have HA := hide ha
  have HB := hide hb
  clear ha hb hia hib
  by_cases hbig : 40 < (a.length : Int)
  · go_enter Try.func6, Try.ntmps6
    go_wp2_with fail
    refine (anchor_any w).mono ?_
    rintro e w1 ⟨rfl, hb1⟩
    go_wp2
    go_ret
    exact ⟨rfl, hb1⟩
  · by_cases hbig2 : 40 < (b.length : Int)
    · go_enter Try.func6, Try.ntmps6
      go_wp2_with fail
      refine (anchor_any w).mono ?_
      rintro e w1 ⟨rfl, hb1⟩
      go_wp2
      go_ret
      exact ⟨rfl, hb1⟩
    · have hla : a.length ≤ 40 := by omega
      have hlb : b.length ≤ 40 := by omega
      have hba := cnt_bound a
      have hbb := cnt_bound b
      have hbn := cnt_bound (notL a)
      have hbo := cnt_bound (orL a b)
      have hbd := cnt_bound (andL a b)
      have hs1 := cntL_not a
      have hs2 := cntL_or_and a b
      have hln := notL_len a
      have hlo := orL_len a b
      have hld := andL_len a b
      have hsum : sumL (mk a) = cntL a := rfl
      have hok := (mk_least a).ok
      have hml := mk_len a
      go_enter Try.func6, Try.ntmps6
      go_wp2_with fail
      refine (anchor_any w).mono ?_
      rintro e w1 ⟨rfl, hb1⟩
      have HB1 := hide hb1
      have HA1 := hide ((unhide HA).below hb1 |>.more hb1.size)
      have HBB1 := hide ((unhide HB).below hb1 |>.more hb1.size)
      clear hb1
      go_wp2_with fail
      refine (make_any a A ca w1 (by omega) hca (unhide HA1)).mono ?_
      rintro e w2 ⟨v2, rfl, hcut⟩
      obtain ⟨A2, cap2, rfl, hl2, hc2, hcm2⟩ := own_lst hcut.1
      have HB2 := hide ((unhide HB1).trans (hcut.2.mono (unhide HB1).size))
      have HA2 := hide ((unhide HA1).below hcut.2 |>.more hcut.2.size)
      have HBB2 := hide ((unhide HBB1).below hcut.2 |>.more hcut.2.size)
      have HL := hide hl2
      have HSUM := hide hsum
      have HOK := hide hok
      clear hcut hl2 hsum hok
      generalize mk a = m at *
      go_wp2
      go_loopw [5, 21] (fun n i wr => CRel m w2 n i wr) (fun _ i _ => m.length - (intOf i).toNat)
      case atStart => exact ⟨0, rfl, rfl, Nat.zero_le _, Below.refl _ _⟩
      case round =>
        obtain ⟨k, rfl, rfl, hk, hbl⟩ := hrel
        by_cases hlt : k < m.length
        · obtain ⟨b0, off, rfl, hb0, hc⟩ := (unhide HL) (by omega)
          obtain ⟨r, hr⟩ : ∃ r, m[k]? = some r := ⟨_, List.getElem?_eq_getElem hlt⟩
          have c1 : wr.cell? ⟨b0, off + k * 2, none⟩ = some (.int .i64 r.1) := (hbl.cell (p := ⟨b0, off + k * 2, none⟩) hb0).trans (hc k r hr).1
          have c2 : wr.cell? ⟨b0, off + k * 2 + 1, none⟩ = some (.int .i64 r.2) := (hbl.cell (p := ⟨b0, off + k * 2 + 1, none⟩) hb0).trans (hc k r hr).2
          have hlt' : (k : Int) < (m.length : Int) := by omega
          have hrok := (unhide HOK) r (List.mem_of_getElem? hr)
          have hbd := sumL_take_bound (unhide HOK) k hk
          have htk : sumL (m.take (k + 1)) = sumL (m.take k) + (r.2 - r.1 + 1) := by
            have e : m[k] = r := by simpa [List.getElem?_eq_getElem hlt] using hr
            rw [List.take_succ_eq_append_getElem hlt, e, sumL_append]; simp
          have hw1 : IntKind.i64.wrap (r.2 - r.1) = r.2 - r.1 := wrap_id _ (by unfold okR at hrok; omega) (by unfold okR at hrok; omega)
          have hw2 : IntKind.i64.wrap (r.2 - r.1 + 1) = r.2 - r.1 + 1 := wrap_id _ (by unfold okR at hrok; omega) (by unfold okR at hrok; omega)
          have hw3 : IntKind.i64.wrap (sumL (m.take k) + (r.2 - r.1 + 1)) = sumL (m.take k) + (r.2 - r.1 + 1) := wrap_id _ (by unfold okR at hrok; omega) (by unfold okR at hrok; omega)
          have HBL := hide hbl
          have HTK := hide htk
          clear hbl hr hc htk hbd hrok
          generalize sumL (m.take k) = t at *
          go_wp2
          go_roundw
          case rel => exact ⟨k + 1, by go_num, by rw [unhide HTK], by omega, below_al (unhide HBL) (unhide HBL).size _⟩
          case measure => simp [intOf]; omega
        · obtain rfl : k = m.length := by omega
          rw [List.take_length, unhide HSUM]
          have HBr := hide ((unhide HB2).trans (hbl.mono (unhide HB2).size))
          have HAr := hide ((unhide HA2).below hbl |>.more hbl.size)
          have HBBr := hide ((unhide HBB2).below hbl |>.more hbl.size)
          clear hbl
          generalize hCA : cntL a = CA at *
          generalize hCB : cntL b = CB at *
          generalize hCN : cntL (notL a) = CN at *
          generalize hCO : cntL (orL a b) = CO at *
          generalize hCD : cntL (andL a b) = CD at *
          have KA := hide hCA
          have KB := hide hCB
          have KN := hide hCN
          have KO := hide hCO
          have KD := hide hCD
          clear hCA hCB hCN hCO hCD
          go_wp2_with fail
          refine (count_any a A ca wr (by omega) hca (unhide HAr)).mono ?_
          rintro e w3 ⟨rfl, hb3⟩
          rw [unhide KA]
          have q1 : (CA == CA) = true := by simp
          have HB3 := hide ((unhide HBr).trans (hb3.mono (unhide HBr).size))
          have HA3 := hide ((unhide HAr).below hb3 |>.more hb3.size)
          have HBB3 := hide ((unhide HBBr).below hb3 |>.more hb3.size)
          clear hb3
          go_wp2_with fail
          refine (count_any a A ca w3 (by omega) hca (unhide HA3)).mono ?_
          rintro e w4 ⟨rfl, hb4⟩
          rw [unhide KA]
          have HB4 := hide ((unhide HB3).trans (hb4.mono (unhide HB3).size))
          have HA4 := hide ((unhide HA3).below hb4 |>.more hb4.size)
          have HBB4 := hide ((unhide HBB3).below hb4 |>.more hb4.size)
          clear hb4
          go_wp2_with fail
          refine (not_any a A ca w4 (by omega) hca (unhide HA4)).mono ?_
          rintro e w5 ⟨v5, rfl, hcut5⟩
          obtain ⟨A5, cap5, rfl, hl5, hc5, hcm5⟩ := own_lst hcut5.1
          have HB5 := hide ((unhide HB4).trans (hcut5.2.mono (unhide HB4).size))
          have HA5 := hide ((unhide HA4).below hcut5.2 |>.more hcut5.2.size)
          have HBB5 := hide ((unhide HBB4).below hcut5.2 |>.more hcut5.2.size)
          have HX5 := hide hl5
          clear hcut5 hl5
          go_wp2_with fail
          refine (count_any (notL a) A5 cap5 w5 (by omega) hc5 (unhide HX5)).mono ?_
          rintro e w6 ⟨rfl, hb6⟩
          rw [unhide KN]
          have HB6 := hide ((unhide HB5).trans (hb6.mono (unhide HB5).size))
          have HA6 := hide ((unhide HA5).below hb6 |>.more hb6.size)
          have HBB6 := hide ((unhide HBB5).below hb6 |>.more hb6.size)
          clear hb6
          have q2 : IntKind.i64.wrap (CA + CN) = CA + CN := wrap_id _ (by omega) (by omega)
          have q3 : (CA + CN == 1114368) = true := by simp; omega
          go_wp2_with fail
          refine (or_any a b A B ca cb w6 (by omega) (by omega) (unhide HA6) (unhide HBB6)).mono ?_
          rintro e w7 ⟨v7, rfl, hcut7⟩
          obtain ⟨A7, cap7, rfl, hl7, hc7, hcm7⟩ := own_lst hcut7.1
          have HB7 := hide ((unhide HB6).trans (hcut7.2.mono (unhide HB6).size))
          have HA7 := hide ((unhide HA6).below hcut7.2 |>.more hcut7.2.size)
          have HBB7 := hide ((unhide HBB6).below hcut7.2 |>.more hcut7.2.size)
          have HX7 := hide hl7
          clear hcut7 hl7
          go_wp2_with fail
          refine (count_any (orL a b) A7 cap7 w7 (by omega) hc7 (unhide HX7)).mono ?_
          rintro e w8 ⟨rfl, hb8⟩
          rw [unhide KO]
          have HB8 := hide ((unhide HB7).trans (hb8.mono (unhide HB7).size))
          have HA8 := hide ((unhide HA7).below hb8 |>.more hb8.size)
          have HBB8 := hide ((unhide HBB7).below hb8 |>.more hb8.size)
          clear hb8
          go_wp2_with fail
          refine (and_any a b A B ca cb w8 (by omega) (by omega) hca hcb (unhide HA8) (unhide HBB8)).mono ?_
          rintro e w9 ⟨v9, rfl, hcut9⟩
          obtain ⟨A9, cap9, rfl, hl9, hc9, hcm9⟩ := own_lst hcut9.1
          have HB9 := hide ((unhide HB8).trans (hcut9.2.mono (unhide HB8).size))
          have HA9 := hide ((unhide HA8).below hcut9.2 |>.more hcut9.2.size)
          have HBB9 := hide ((unhide HBB8).below hcut9.2 |>.more hcut9.2.size)
          have HX9 := hide hl9
          clear hcut9 hl9
          go_wp2_with fail
          refine (count_any (andL a b) A9 cap9 w9 (by omega) hc9 (unhide HX9)).mono ?_
          rintro e w10 ⟨rfl, hb10⟩
          rw [unhide KD]
          have HB10 := hide ((unhide HB9).trans (hb10.mono (unhide HB9).size))
          have HA10 := hide ((unhide HA9).below hb10 |>.more hb10.size)
          have HBB10 := hide ((unhide HBB9).below hb10 |>.more hb10.size)
          clear hb10
          have q4 : IntKind.i64.wrap (CO + CD) = CO + CD := wrap_id _ (by omega) (by omega)
          go_wp2_with fail
          refine (count_any a A ca w10 (by omega) hca (unhide HA10)).mono ?_
          rintro e w11 ⟨rfl, hb11⟩
          rw [unhide KA]
          have HB11 := hide ((unhide HB10).trans (hb11.mono (unhide HB10).size))
          have HBB11 := hide ((unhide HBB10).below hb11 |>.more hb11.size)
          clear hb11
          go_wp2_with fail
          refine (count_any b B cb w11 (by omega) hcb (unhide HBB11)).mono ?_
          rintro e w12 ⟨rfl, hb12⟩
          rw [unhide KB]
          have HB12 := hide ((unhide HB11).trans (hb12.mono (unhide HB11).size))
          clear hb12
          have q5 : IntKind.i64.wrap (CA + CB) = CA + CB := wrap_id _ (by omega) (by omega)
          have q6 : (CO + CD == CA + CB) = true := by simp; omega
          go_wp2
          go_ret
          exact ⟨rfl, unhide HB12⟩
end Go.Proofs.Ythpmchdejoiacaa.Rs
