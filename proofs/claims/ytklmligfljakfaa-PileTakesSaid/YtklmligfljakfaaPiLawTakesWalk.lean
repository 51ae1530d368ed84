/-
  PileTakes, walked: true at any limit and any entries. No conditions but that the entries lie in memory.
-/
import Derived.Test.YtklmligfljakfaaPiEq
set_option linter.unusedVariables false
set_option linter.unusedSimpArgs false
namespace Go.Proofs.Ytklmligfljakfaa.Pi
open Go.RowKit Go.Proofs.Ytklmligfljakfaa.Mem Go.Proofs.Ytklmligfljakfaa.Kp
set_option maxHeartbeats 1000000 in
theorem takes_out (lim : Int) (l : List En) (A : Option Addr) (c : Nat) (w : World) (h : lim < 0 ∨ 65536 < lim) :
    Calls Try.prog 4 #[.int .i64 lim, .slice A l.length c] w fun e w' => e = .returned (.bool true) ∧ Below w.heap.size w w' := by
  have C := hide (anchor_any w)
  have C1 := hide (fun W => new_out lim W h)
  obtain ⟨q, hq⟩ : ∃ q, decide (lim < 0) = q := ⟨_, rfl⟩
  have HQ := hide (show q = false → decide (65536 < lim) = true by rw [← hq]; simp; omega)
  clear h
  go_enter Try.func4, Try.ntmps4
  go_wp2_with fail
  refine (unhide C).mono ?_
  rintro e w1 ⟨rfl, hb1⟩
  have HB1 := hide hb1
  clear hb1
  go_wp2_with fail
  refine ((unhide C1) _).mono ?_
  rintro e w2 ⟨rfl, rfl⟩
  cases q with
  | true =>
    go_wp2
    go_ret
    exact ⟨rfl, unhide HB1⟩
  | false =>
    have d1 := unhide HQ rfl
    go_wp2
    go_ret
    exact ⟨rfl, unhide HB1⟩
set_option maxHeartbeats 1000000 in
theorem takes_big (n : Nat) (l : List En) (A : Option Addr) (c : Nat) (w : World) (hn : n ≤ 65536) (h : 1000 < l.length) :
    Calls Try.prog 4 #[.int .i64 (n : Int), .slice A l.length c] w fun e w' => e = .returned (.bool true) ∧ Below w.heap.size w w' := by
  have C := hide (anchor_any w)
  have d0 : decide ((n : Int) < 0) = false := by simp
  have d1 : decide ((65536 : Int) < (n : Int)) = false := by simp; omega
  have d2 : decide ((1000 : Int) < (l.length : Int)) = true := by simp; omega
  have d3 : decide (1000 < l.length) = true := by simp; omega
  have HN := hide hn
  clear h hn
  go_enter Try.func4, Try.ntmps4
  go_wp2_with fail
  refine (unhide C).mono ?_
  rintro e w1 ⟨rfl, hb1⟩
  have C1 := hide (new_in (fun k => k < w1.heap.size) w1.heap.size n w1 (unhide HN) (fun k h => h) (fun k h => h) (Nat.le_refl _))
  have HB1 := hide hb1
  clear C hb1
  go_wp2_with fail
  refine (unhide C1).mono ?_
  rintro e w2 ⟨⟨rfl, h2⟩, hb2⟩
  have HB2 := hide ((unhide HB1).trans (hb2.mono (unhide HB1).size))
  clear C1 h2 hb2
  go_wp2
  go_ret
  exact ⟨rfl, unhide HB2⟩
def TRel (l : List En) (lim bb : Nat) (w : World) (i : Value) (wr : World) : Prop := ∃ k : Nat, i = .int .i64 (k : Int) ∧ k ≤ l.length ∧ PV (fun j => j < w.heap.size) w.heap.size bb (l.take (min k lim)) lim (min k lim) wr ∧ Keep (fun j => j < w.heap.size) w wr
theorem push_take {l : List En} {k lim : Nat} {x : En} (h : l[k]? = some x) : pushL (l.take (min k lim)) lim x = l.take (min (k + 1) lim) ∧ max (min k lim) (l.take (min (k + 1) lim)).length = min (k + 1) lim := by
  have hk := (List.getElem?_eq_some_iff.1 h).1
  have e1 : pushL (l.take (min k lim)) lim x = l.take (min (k + 1) lim) := by
    unfold pushL
    rw [List.length_take]
    by_cases hl : k < lim
    · rw [if_pos (by omega), Nat.min_eq_left (by omega), Nat.min_eq_left (by omega), List.take_add_one, h, Option.toList_some]
    · rw [if_neg (by omega), Nat.min_eq_right (by omega), Nat.min_eq_right (by omega)]
  refine ⟨e1, ?_⟩
  rw [List.length_take]
  omega
def URel (l : List En) (lim bb n most : Nat) (w : World) (i : Value) (wr : World) : Prop := ∃ k : Nat, i = .int .i64 (k : Int) ∧ k ≤ n ∧ PV (fun j => j < w.heap.size) w.heap.size bb (l.take (n - k)) lim most wr ∧ Keep (fun j => j < w.heap.size) w wr
section
attribute [local go_sem] neq_same eq_guard
set_option maxRecDepth 100000 in
set_option maxHeartbeats 4000000 in
theorem takes_small (lim : Nat) (l : List En) (A : Option Addr) (c : Nat) (w : World) (hn : lim ≤ 65536) (hl : l.length ≤ 1000) (ho : EV l A c w.heap.size w) :
    Calls Try.prog 4 #[.int .i64 (lim : Int), .slice A l.length c] w fun e w' => e = .returned (.bool true) ∧ Below w.heap.size w w' := by
  have C := hide (anchor_any w)
  have d0 : decide ((lim : Int) < 0) = false := by simp
  have d1 : decide ((65536 : Int) < (lim : Int)) = false := by simp; omega
  have d2 : decide ((1000 : Int) < (l.length : Int)) = false := by simp; omega
  have d3 : decide (1000 < l.length) = false := by simp; omega
  have r1 := ho.room
  have r2 := ho.top
  have HO := hide ho
  obtain ⟨m, hm⟩ : ∃ m, l.length = m := ⟨_, rfl⟩
  have HM := hide hm
  rw [hm] at hl d2 d3 r1 ⊢
  have HN := hide hn
  have HLL := hide hl
  clear ho hm hl
  go_enter Try.func4, Try.ntmps4
  go_wp2_with fail
  refine (unhide C).mono ?_
  rintro e w1 ⟨rfl, hb1⟩
  have C1 := hide (new_in (fun k => k < w1.heap.size) w1.heap.size lim w1 (unhide HN) (fun k h => h) (fun k h => h) (Nat.le_refl _))
  have HB1 := hide hb1
  have HO1 := hide ((unhide HO).below hb1 (Nat.le_refl _))
  clear C hb1 HO
  go_wp2_with fail
  refine (unhide C1).mono ?_
  rintro e w2 ⟨⟨rfl, h2⟩, hb2⟩
  have HR0 := hide (show TRel l lim w1.heap.size w1 (.int .i64 0) w2 from ⟨0, rfl, Nat.zero_le _, by rw [Nat.zero_min, List.take_zero]; exact h2, Keep.of_below hb2 (fun k h => h)⟩)
  clear C1 h2 hb2
  go_wp2_with fail
  go_loopw [46] (fun i wr => TRel l lim w1.heap.size w1 i wr) (fun i _ => m - (intOf i).toNat)
  case atStart => exact unhide HR0
  case round =>
    obtain ⟨k, rfl, hk, hp, hkp⟩ := hrel
    go_hideQ
    rw [unhide HM] at hk
    by_cases hlt : k < m
    · obtain ⟨x, hx⟩ : ∃ x, l[k]? = some x := ⟨_, List.getElem?_eq_getElem (by rw [unhide HM]; exact hlt)⟩
      obtain ⟨b, off, eA, hbl, hc⟩ := ((unhide HO1).keep hkp (fun j hj => Nat.lt_of_lt_of_le hj (unhide HB1).size)).lies (by rw [unhide HM]; omega)
      obtain ⟨c0, c1, c2, c3, c4, c5⟩ := hc k _ hx
      have hki : (k : Int) < (m : Int) := by omega
      have hbx := below_box wr (oEn x)
      have CP := hide (push_any (hp.below hbx) x)
      rw [(push_take hx).1, (push_take hx).2] at CP
      generalize decide ((l.take (min k lim)).length < lim) = q at *
      have HKP := hide (hkp.trans (Keep.of_below hbx hp.hi))
      obtain ⟨x0, x1, x2, x3, x4, x5⟩ := x
      simp only at c0 c1 c2 c3 c4 c5
      subst eA
      clear hc hx hbl hbx hp hkp
      go_wp2_with fail
      refine (unhide CP).mono ?_
      rintro e w5 ⟨rfl, h5, k5⟩
      have hR : TRel l lim w1.heap.size w1 (.int .i64 ((k : Int) + 1)) w5 := ⟨k + 1, by go_num, by rw [unhide HM]; omega, h5, (unhide HKP).trans k5⟩
      have HR := hide hR
      clear CP h5 k5 HKP hR
      go_wp2_with fail
      have hR := unhide HR
      have hme : m - (intOf (.int .i64 ((k : Int) + 1))).toNat < m - k := by simp [intOf]; omega
      first | exact ⟨hR, hme⟩ | exact ⟨⟨_, _, _, hR, rfl, rfl, rfl⟩, hme⟩ | exact ⟨⟨_, _, hR, rfl, rfl⟩, hme⟩ | (go_roundw; exact hR; exact hme)
    · obtain rfl : k = m := by omega
      obtain ⟨n, hnn⟩ : ∃ n, min k lim = n := ⟨_, rfl⟩
      rw [hnn] at hp
      have hmin : (n : Int) = min (k : Int) (lim : Int) := by omega
      have HMIN := hide hmin
      have HNK := hide (show n ≤ k by omega)
      have HR1 := hide (show URel l lim w1.heap.size n n w1 (.int .i64 0) wr from ⟨0, rfl, Nat.zero_le _, hp, hkp⟩)
      have hif : (if (lim : Int) < (k : Int) then (lim : Int) else (k : Int)) = (n : Int) := by split <;> omega
      clear hp hkp hnn hmin
      go_upto_region 11 with (fail)
      go_cut [9] from 54 to 57 (fun v wx => v = .int .i64 (n : Int) ∧ wx = wr)
      case first =>
        have hmin := unhide HMIN
        rcases Nat.lt_or_ge lim k with hh | hh
        · have e1 : n = lim := by omega
          have h1 : (lim : Int) < (k : Int) := by omega
          have h2 : decide ((lim : Int) < (k : Int)) = true := by simpa using h1
          clear hmin hif
          go_wp2_with fail
          all_goals (go_meet; exact ⟨by rw [e1], rfl⟩)
        · have e1 : n = k := by omega
          have h1 : ¬ (lim : Int) < (k : Int) := by omega
          have h2 : decide ((lim : Int) < (k : Int)) = false := by simpa using h1
          clear hmin hif
          go_wp2_with fail
          all_goals (go_meet; exact ⟨by rw [e1], rfl⟩)
      case rest =>
        obtain ⟨rfl, rfl⟩ := hcut
        clear hif
        go_wp2_with fail
        go_loopw [59] (fun i wr => URel l lim w1.heap.size n n w1 i wr) (fun i _ => n - (intOf i).toNat)
        case atStart => exact unhide HR1
        case round =>
          obtain ⟨j, rfl, hj, hp, hkp⟩ := hrel
          go_hideQ
          have HNK2 := unhide HNK
          have hml := unhide HM
          by_cases hlt2 : j < n
          · obtain ⟨x, hx⟩ : ∃ x, l[n - 1 - j]? = some x := ⟨_, List.getElem?_eq_getElem (by rw [hml]; omega)⟩
            have hlen : (l.take (n - j)).length = n - j := by rw [List.length_take, hml]; omega
            have hlast : lastE (l.take (n - j)) = x := by
              have := lastE_at (l := l.take (n - j)) (by rw [hlen]; omega)
              rw [hlen, List.getElem?_take, if_pos (by omega), show n - j - 1 = n - 1 - j by omega, hx] at this
              exact (Option.some.inj this).symm
            have CP := hide (vpop_any hp)
            rw [hlen, hlast, List.take_take, show decide (0 < n - j) = true by simp; omega, show min (n - j - 1) (n - j) = n - (j + 1) by omega] at CP
            have HKP := hide hkp
            obtain ⟨i, hi⟩ : ∃ i, n - 1 - j = i := ⟨_, rfl⟩
            rw [hi] at hx
            have hsum : IntKind.i64.wrap ((n : Int) - 1) = (n : Int) - 1 := by rw [IntKind.wrap_i64]; have := unhide HLL; omega
            have hsum2 : IntKind.i64.wrap ((n : Int) - 1 - (j : Int)) = (i : Int) := by rw [IntKind.wrap_i64]; have := unhide HLL; omega
            have hji : (j : Int) < (n : Int) := by omega
            have hik : (i : Int) < (k : Int) := by omega
            have hjb : j ≤ 1000 := by have := unhide HLL; omega
            have HX := hide hx
            obtain ⟨x0, x1, x2, x3, x4, x5⟩ := x
            clear hx hlen hlast hp hkp hi HNK2 hml
            go_wp2_with fail
            refine (unhide CP).mono ?_
            rintro e w5 ⟨rfl, h5, k5⟩
            have hbx := below_box w5 (oEn ⟨x0, x1, x2, x3, x4, x5⟩)
            have hk6 := ((unhide HKP).trans k5).trans (Keep.of_below hbx h5.hi)
            obtain ⟨b, off, eA, hbl, hc⟩ := ((unhide HO1).keep hk6 (fun j hj => Nat.lt_of_lt_of_le hj (unhide HB1).size)).lies (by rw [unhide HM]; omega)
            obtain ⟨c0, c1, c2, c3, c4, c5⟩ := hc i _ (unhide HX)
            simp only at c0 c1 c2 c3 c4 c5
            have hp6 := h5.below hbx
            have HP6 := hide hp6
            have HK6 := hide hk6
            subst eA
            clear CP h5 k5 hbx hk6 hbl hc hp6
            go_wp2_with fail
            go_quiet (fail)
            have hb7 := below_drewN (Below.refl (w5.alloc (oEn ⟨x0, x1, x2, x3, x4, x5⟩)).heap.size (w5.alloc (oEn ⟨x0, x1, x2, x3, x4, x5⟩))) nq
            have hR : URel l lim w1.heap.size n n w1 (.int .i64 ((j : Int) + 1)) ((w5.alloc (oEn ⟨x0, x1, x2, x3, x4, x5⟩)).drewN nq) := ⟨j + 1, by go_num, by omega, (unhide HP6).below hb7, (unhide HK6).trans (Keep.of_below hb7 (unhide HP6).hi)⟩
            have HR := hide hR
            clear hR hb7 c0 c1 c2 c3 c4 c5
            go_wp2_with fail
            have hR := unhide HR
            have hme : n - (intOf (.int .i64 ((j : Int) + 1))).toNat < n - j := by simp [intOf]; omega
            first | exact ⟨hR, hme⟩ | exact ⟨⟨_, _, _, hR, rfl, rfl, rfl⟩, hme⟩ | exact ⟨⟨_, _, hR, rfl, rfl⟩, hme⟩ | (go_roundw; exact hR; exact hme)
          · obtain rfl : j = n := by omega
            rw [Nat.sub_self, List.take_zero] at hp
            have CP := hide (vpop_any hp)
            rw [show lastE [] = en0 from rfl, show decide (0 < ([] : List En).length) = false from rfl, show ([] : List En).take (([] : List En).length - 1) = [] from rfl] at CP
            have HKP := hide hkp
            clear hp hkp HNK2 hml
            go_wp2_with fail
            refine (unhide CP).mono ?_
            rintro e w5 ⟨rfl, h5, k5⟩
            have hbx := below_box w5 (oEn en0)
            have CM := hide (vmost_any (h5.below hbx))
            have HK6 := hide (((unhide HKP).trans k5).trans (Keep.of_below hbx h5.hi))
            clear CP h5 k5 hbx
            go_wp2_with fail
            refine (unhide CM).mono ?_
            rintro e w6 ⟨rfl, hw6⟩
            subst hw6
            go_wp2_with fail
            go_ret
            exact ⟨rfl, (unhide HB1).trans (((unhide HK6).below (fun k h => h)).mono (unhide HB1).size)⟩
end
theorem walkTakes (lim : Int) (l : List En) (A : Option Addr) (c : Nat) (w : World) (ho : EV l A c w.heap.size w) :
    Calls Try.prog 4 #[.int .i64 lim, .slice A l.length c] w fun e w' => e = .returned (.bool true) ∧ Below w.heap.size w w' := by
  by_cases h : lim < 0 ∨ 65536 < lim
  · exact takes_out lim l A c w h
  · obtain ⟨n, rfl⟩ : ∃ n : Nat, lim = (n : Int) := ⟨lim.toNat, by omega⟩
    by_cases h2 : 1000 < l.length
    · exact takes_big n l A c w (by omega) h2
    · exact takes_small n l A c w (by omega) (by omega) ho
end Go.Proofs.Ytklmligfljakfaa.Pi
