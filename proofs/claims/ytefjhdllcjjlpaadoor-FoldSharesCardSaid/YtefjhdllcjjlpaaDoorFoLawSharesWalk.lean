/-
  The law FoldShares, walked: true at any number. Conditions: the table's variable holds the rows that the program's text lays.
-/
import Derived.Test.YtefjhdllcjjlpaaDoorFoLawOrbitsWalk
set_option linter.unusedVariables false
set_option linter.unusedSimpArgs false
namespace Go.Proofs.YtefjhdllcjjlpaaDoor.FoLawShares
open Go.RowKit Go.Shelf Go.Proofs.YtefjhdllcjjlpaaDoor.Mem Go.Proofs.YtefjhdllcjjlpaaDoor.Fo

theorem run_not_tt {P : Program} (w : World) : Sem.run P (Op.unary UnOp.not (.bool true)) w = .ok (.bool false) w := rfl
theorem run_not_ff {P : Program} (w : World) : Sem.run P (Op.unary UnOp.not (.bool false)) w = .ok (.bool true) w := rfl
attribute [local go_sem] run_not_tt run_not_ff

set_option maxHeartbeats 1000000 in
theorem walk_out (x : Int) (w : World) {b off cap : Nat} (hT : Tab b off cap w) (h : ¬ (0 ≤ x ∧ x ≤ 1114367)) :
    Calls Tryd.prog 4 #[.int .i64 x] w fun e w' => e = .returned (.bool true) ∧ Below w.heap.size w w' := by
  have HT := hide hT
  have HO := hide (foldZ_out h).1
  clear hT
  by_cases hn : x < 0
  · clear h
    go_enter Tryd.func4, Tryd.ntmps4
    go_wp2_with fail
    refine (anchor_any w (unhide HT)).mono ?_
    rintro e w1 ⟨rfl, hB1⟩
    have HB1 := hide hB1
    have HT1 := hide ((unhide HT).below hB1 (Nat.le_refl _))
    clear hB1
    go_wp2_with fail
    refine (porbit_any x w1 (unhide HT1)).mono ?_
    rintro e w2 ⟨v, rfl, hcut⟩
    rw [unhide HO] at hcut
    obtain ⟨A, ca, rfl, _, _⟩ := own_reads hcut.1
    have HB2 := hide ((unhide HB1).trans (hcut.2.mono (unhide HB1).size))
    clear hcut
    go_wp2
    go_ret
    exact ⟨rfl, unhide HB2⟩
  · have hn2 : 1114367 < x := by omega
    clear h
    go_enter Tryd.func4, Tryd.ntmps4
    go_wp2_with fail
    refine (anchor_any w (unhide HT)).mono ?_
    rintro e w1 ⟨rfl, hB1⟩
    have HB1 := hide hB1
    have HT1 := hide ((unhide HT).below hB1 (Nat.le_refl _))
    clear hB1
    go_wp2_with fail
    refine (porbit_any x w1 (unhide HT1)).mono ?_
    rintro e w2 ⟨v, rfl, hcut⟩
    rw [unhide HO] at hcut
    obtain ⟨A, ca, rfl, _, _⟩ := own_reads hcut.1
    have HB2 := hide ((unhide HB1).trans (hcut.2.mono (unhide HB1).size))
    clear hcut
    go_wp2
    go_ret
    exact ⟨rfl, unhide HB2⟩

set_option maxHeartbeats 8000000 in
set_option maxRecDepth 100000 in
theorem walk_in (x : Int) (w : World) {b off cap : Nat} (hT : Tab b off cap w) (h0 : 0 ≤ x) (h1 : x ≤ 1114367) :
    Calls Tryd.prog 4 #[.int .i64 x] w fun e w' => e = .returned (.bool true) ∧ Below w.heap.size w w' := by
  have HT := hide hT
  clear hT
  have hself := orb_self h0 h1
  go_enter Tryd.func4, Tryd.ntmps4
  go_wp2_with fail
  refine (anchor_any w (unhide HT)).mono ?_
  rintro e w1 ⟨rfl, hB1⟩
  have HB1 := hide hB1
  have HT1 := hide ((unhide HT).below hB1 (Nat.le_refl _))
  clear hB1
  go_wp2_with fail
  refine (porbit_any x w1 (unhide HT1)).mono ?_
  rintro e w2 ⟨v, rfl, hcut⟩
  have h3 := orb_three x
  have hshare : ∀ y, y ∈ orb x → orb y = orb x := fun y hy => orb_shared hy
  have hfold : ∀ y, y ∈ orb x → (foldZ x == foldZ y) = true := fun y hy => by rw [foldZ_shared hy]; simp
  have hbound : ∀ y, y ∈ orb x → 0 ≤ y ∧ y ≤ 1114367 := fun y hy => ⟨(mem_orb.1 hy).2.1, (mem_orb.1 hy).2.2.1⟩
  have hrise := orb_rises x
  have HB2 := hide ((unhide HB1).trans (hcut.2.mono (unhide HB1).size))
  have HT2 := hide ((unhide HT1).below hcut.2 (Nat.le_refl _))
  obtain ⟨A, ca, rfl, hr, hc⟩ := own_reads hcut.1
  clear hcut HB1 HT1
  obtain ⟨os, hos⟩ : ∃ os, orb x = os := ⟨_, rfl⟩
  rw [hos] at hr hc h3 hshare hfold hbound hrise hself
  rw [hos]
  have HS := hide hshare
  have HF := hide hfold
  have HBD := hide hbound
  have HRI := hide hrise
  have HSE := hide hself
  have HR := hide hr
  clear hshare hfold hbound hrise hself hr hos
  go_wp2
  go_loopw [4, 24] (fun o i wr => ∃ (k : Nat), i = .int .i64 k ∧ k ≤ os.length ∧ o = .bool (decide (x ∈ os.take k)) ∧ Below w2.heap.size w2 wr) (fun _ i _ => os.length - (intOf i).toNat)
  case atStart => exact ⟨0, rfl, Nat.zero_le _, by simp, Below.refl _ _⟩
  case round =>
    obtain ⟨k, rfl, hk, rfl, hbw⟩ := hrel
    by_cases hlt : k < os.length
    · obtain ⟨g1, o1, rfl, hg1, hc1⟩ := ((unhide HR).below hbw).flat (by omega)
      obtain ⟨y, hy⟩ : ∃ y, os[k]? = some y := ⟨_, List.getElem?_eq_getElem hlt⟩
      have c1 : wr.cell? ⟨g1, o1 + k, none⟩ = some (.int .i64 y) := hc1 k _ (by simp [hy, Fo.i64])
      have hmem := List.mem_of_getElem? hy
      have hlt' : (k : Int) < (os.length : Int) := by omega
      have htk : x ∈ os.take (k + 1) ↔ (x ∈ os.take k ∨ y = x) := by
        have e : os[k] = y := by simpa [List.getElem?_eq_getElem hlt] using hy
        rw [List.take_succ_eq_append_getElem hlt, e, List.mem_append, List.mem_singleton]
        exact ⟨fun h => h.imp id Eq.symm, fun h => h.imp id Eq.symm⟩
      have hbl := hide hbw
      have HTK := hide htk
      have HY := hide hy
      have HM := hide hmem
      clear htk hy hmem hbw hc1 hg1
      obtain ⟨own2, hown⟩ : ∃ o2 : Bool, decide (x ∈ os.take (k + 1)) = o2 := ⟨_, rfl⟩
      obtain ⟨own1, hown1⟩ : ∃ o1 : Bool, decide (x ∈ os.take k) = o1 := ⟨_, rfl⟩
      rw [hown1]
      cases own1 with
      | true =>
        have hown2 : own2 = true := by rw [← hown]; simp only [decide_eq_true_eq] at hown1 ⊢; exact (unhide HTK).2 (.inl hown1)
        subst hown2
        have HO2 := hide hown
        clear hown hown1
        go_wp2_with fail
        refine (porbit_any y wr ((unhide HT2).below (unhide hbl) (Nat.le_refl _))).mono ?_
        rintro e w3 ⟨u, rfl, hcut⟩
        rw [(unhide HS) y (unhide HM)] at hcut
        have hB3 := (unhide hbl).trans (hcut.2.mono (unhide hbl).size)
        obtain ⟨C, cc, rfl, hrC, hcC⟩ := own_reads hcut.1
        have HB3 := hide hB3
        have HRC := hide hrC
        have HT3 := hide ((unhide HT2).below hB3 (Nat.le_refl _))
        have hbd := (unhide HBD) y (unhide HM)
        have c1' : w3.cell? ⟨g1, o1 + k, none⟩ = some (.int .i64 y) := (hcut.2.cell (p := ⟨g1, o1 + k, none⟩) (cell_lt c1)).trans c1
        clear hcut hB3 hrC c1
        go_wp2_with fail
        refine (psame_any x y w3 (unhide HT3) (by omega) (by omega)).mono ?_
        rintro e w4 ⟨rfl, hB4⟩
        rw [(unhide HF) y (unhide HM)]
        have HB4 := hide ((unhide HB3).trans (hB4.mono (unhide HB3).size))
        have HRC4 := hide ((unhide HRC).below hB4)
        have HR4 := hide ((unhide HR).below (unhide HB4))
        clear hB4 c1' hbd HRC HB3
        rcases Nat.eq_zero_or_pos k with hk0 | hk0
        · subst hk0
          go_wp2
          go_loopw [63] (fun i wx => ∃ (m q : Nat), i = .int .i64 m ∧ m ≤ os.length ∧ wx = w4.drewN q) (fun i _ => os.length - (intOf i).toNat)
          case atStart => exact ⟨0, 0, rfl, Nat.zero_le _, rfl⟩
          case round =>
            obtain ⟨m, q, rfl, hm, rfl⟩ := hrel
            by_cases hml : m < os.length
            · obtain ⟨g4, o4, rfl, _, hc4⟩ := (unhide HRC4).flat (by omega)
              obtain ⟨g5, o5, he5, _, hc5⟩ := (unhide HR4).flat (by omega)
              simp only [Option.some.injEq, Addr.mk.injEq, and_true] at he5
              obtain ⟨e5, e6⟩ := he5
              subst e5 e6
              obtain ⟨v, hv⟩ : ∃ v, os[m]? = some v := ⟨_, List.getElem?_eq_getElem hml⟩
              have d4 : w4.cell? ⟨g4, o4 + m, none⟩ = some (.int .i64 v) := hc4 m _ (by simp [hv, Fo.i64])
              have d5 := hc5 m (.int .i64 v) (by simp [hv, Fo.i64])
              have hml' : (m : Int) < (os.length : Int) := by omega
              clear hc4 hc5 hv
              go_wp2_with fail
              go_quiet (fail)
              go_wp2
              first | go_roundw | refine ⟨?rel, ?measure⟩
              case rel => exact ⟨m + 1, _, by go_num, by omega, rfl⟩
              case measure => simp [intOf]; omega
            · obtain rfl : m = os.length := by omega
              go_wp2
              refine ⟨⟨0 + 1, by go_num, by omega, by rw [unhide HO2], below_drewN (unhide HB4) _⟩, by simp [intOf]; omega⟩
        · obtain ⟨t, rfl⟩ : ∃ t, k = t + 1 := ⟨k - 1, by omega⟩
          obtain ⟨z, hz⟩ : ∃ z, os[t]? = some z := ⟨_, List.getElem?_eq_getElem (by omega)⟩
          have hzy : z < y := by
            have h1 := List.getElem?_eq_some_iff.1 hz
            have h2 := List.getElem?_eq_some_iff.1 (unhide HY)
            have := List.pairwise_iff_getElem.1 (unhide HRI) t (t + 1) h1.1 h2.1 (by omega)
            rw [h1.2, h2.2] at this
            exact this
          obtain ⟨g3, o3, he3, _, hc3⟩ := (unhide HR4).flat (by omega)
          obtain ⟨rfl, rfl⟩ : g3 = g1 ∧ o3 = o1 := by
            simp only [Option.some.injEq, Addr.mk.injEq, and_true] at he3
            exact ⟨he3.1.symm, he3.2.symm⟩
          have c3 : w4.cell? ⟨g3, o3 + t, none⟩ = some (.int .i64 z) := hc3 t _ (by simp [hz, Fo.i64])
          have hge : decide (y ≤ z) = false := by simp; omega
          have hd : decide (0 < ((t + 1 : Nat) : Int)) = true := by rw [decide_eq_true_iff]; omega
          have htl : (t : Int) < (os.length : Int) := by omega
          have ht0 : (0 : Int) ≤ (t : Int) := by omega
          have HZY := hide hzy
          clear he3 hc3 hz hzy
          go_wp2
          go_loopw [63] (fun i wx => ∃ (m q : Nat), i = .int .i64 m ∧ m ≤ os.length ∧ wx = w4.drewN q) (fun i _ => os.length - (intOf i).toNat)
          case atStart => exact ⟨0, 0, rfl, Nat.zero_le _, rfl⟩
          case round =>
            obtain ⟨m, q, rfl, hm, rfl⟩ := hrel
            by_cases hml : m < os.length
            · obtain ⟨g4, o4, rfl, _, hc4⟩ := (unhide HRC4).flat (by omega)
              obtain ⟨g5, o5, he5, _, hc5⟩ := (unhide HR4).flat (by omega)
              simp only [Option.some.injEq, Addr.mk.injEq, and_true] at he5
              obtain ⟨e5, e6⟩ := he5
              subst e5 e6
              obtain ⟨v, hv⟩ : ∃ v, os[m]? = some v := ⟨_, List.getElem?_eq_getElem hml⟩
              have d4 : w4.cell? ⟨g4, o4 + m, none⟩ = some (.int .i64 v) := hc4 m _ (by simp [hv, Fo.i64])
              have d5 := hc5 m (.int .i64 v) (by simp [hv, Fo.i64])
              have hml' : (m : Int) < (os.length : Int) := by omega
              clear hc4 hc5 hv
              go_wp2_with fail
              go_quiet (fail)
              go_wp2
              first | go_roundw | refine ⟨?rel, ?measure⟩
              case rel => exact ⟨m + 1, _, by go_num, by omega, rfl⟩
              case measure => simp [intOf]; omega
            · obtain rfl : m = os.length := by omega
              go_wp2
              refine ⟨⟨t + 1 + 1, by go_num, by omega, by rw [unhide HO2], below_drewN (unhide HB4) _⟩, by simp [intOf]; omega⟩
      | false =>
        have hown2 : own2 = (y == x) := by
          rw [← hown, Bool.eq_iff_iff]
          simp only [decide_eq_true_eq, decide_eq_false_iff_not, beq_iff_eq] at hown1 ⊢
          rw [unhide HTK]
          exact ⟨fun h => h.resolve_left hown1, .inr⟩
        have HO2 := hide (show decide (x ∈ os.take (k + 1)) = (y == x) from hown.trans hown2)
        clear hown hown1 hown2
        go_wp2_with fail
        refine (porbit_any y wr ((unhide HT2).below (unhide hbl) (Nat.le_refl _))).mono ?_
        rintro e w3 ⟨u, rfl, hcut⟩
        rw [(unhide HS) y (unhide HM)] at hcut
        have hB3 := (unhide hbl).trans (hcut.2.mono (unhide hbl).size)
        obtain ⟨C, cc, rfl, hrC, hcC⟩ := own_reads hcut.1
        have HB3 := hide hB3
        have HRC := hide hrC
        have HT3 := hide ((unhide HT2).below hB3 (Nat.le_refl _))
        have hbd := (unhide HBD) y (unhide HM)
        have c1' : w3.cell? ⟨g1, o1 + k, none⟩ = some (.int .i64 y) := (hcut.2.cell (p := ⟨g1, o1 + k, none⟩) (cell_lt c1)).trans c1
        clear hcut hB3 hrC c1
        go_wp2_with fail
        refine (psame_any x y w3 (unhide HT3) (by omega) (by omega)).mono ?_
        rintro e w4 ⟨rfl, hB4⟩
        rw [(unhide HF) y (unhide HM)]
        have HB4 := hide ((unhide HB3).trans (hB4.mono (unhide HB3).size))
        have HRC4 := hide ((unhide HRC).below hB4)
        have HR4 := hide ((unhide HR).below (unhide HB4))
        clear hB4 c1' hbd HRC HB3
        rcases Nat.eq_zero_or_pos k with hk0 | hk0
        · subst hk0
          go_wp2
          go_loopw [63] (fun i wx => ∃ (m q : Nat), i = .int .i64 m ∧ m ≤ os.length ∧ wx = w4.drewN q) (fun i _ => os.length - (intOf i).toNat)
          case atStart => exact ⟨0, 0, rfl, Nat.zero_le _, rfl⟩
          case round =>
            obtain ⟨m, q, rfl, hm, rfl⟩ := hrel
            by_cases hml : m < os.length
            · obtain ⟨g4, o4, rfl, _, hc4⟩ := (unhide HRC4).flat (by omega)
              obtain ⟨g5, o5, he5, _, hc5⟩ := (unhide HR4).flat (by omega)
              simp only [Option.some.injEq, Addr.mk.injEq, and_true] at he5
              obtain ⟨e5, e6⟩ := he5
              subst e5 e6
              obtain ⟨v, hv⟩ : ∃ v, os[m]? = some v := ⟨_, List.getElem?_eq_getElem hml⟩
              have d4 : w4.cell? ⟨g4, o4 + m, none⟩ = some (.int .i64 v) := hc4 m _ (by simp [hv, Fo.i64])
              have d5 := hc5 m (.int .i64 v) (by simp [hv, Fo.i64])
              have hml' : (m : Int) < (os.length : Int) := by omega
              clear hc4 hc5 hv
              go_wp2_with fail
              go_quiet (fail)
              go_wp2
              first | go_roundw | refine ⟨?rel, ?measure⟩
              case rel => exact ⟨m + 1, _, by go_num, by omega, rfl⟩
              case measure => simp [intOf]; omega
            · obtain rfl : m = os.length := by omega
              go_wp2
              refine ⟨⟨0 + 1, by go_num, by omega, by rw [unhide HO2], below_drewN (unhide HB4) _⟩, by simp [intOf]; omega⟩
        · obtain ⟨t, rfl⟩ : ∃ t, k = t + 1 := ⟨k - 1, by omega⟩
          obtain ⟨z, hz⟩ : ∃ z, os[t]? = some z := ⟨_, List.getElem?_eq_getElem (by omega)⟩
          have hzy : z < y := by
            have h1 := List.getElem?_eq_some_iff.1 hz
            have h2 := List.getElem?_eq_some_iff.1 (unhide HY)
            have := List.pairwise_iff_getElem.1 (unhide HRI) t (t + 1) h1.1 h2.1 (by omega)
            rw [h1.2, h2.2] at this
            exact this
          obtain ⟨g3, o3, he3, _, hc3⟩ := (unhide HR4).flat (by omega)
          obtain ⟨rfl, rfl⟩ : g3 = g1 ∧ o3 = o1 := by
            simp only [Option.some.injEq, Addr.mk.injEq, and_true] at he3
            exact ⟨he3.1.symm, he3.2.symm⟩
          have c3 : w4.cell? ⟨g3, o3 + t, none⟩ = some (.int .i64 z) := hc3 t _ (by simp [hz, Fo.i64])
          have hge : decide (y ≤ z) = false := by simp; omega
          have hd : decide (0 < ((t + 1 : Nat) : Int)) = true := by rw [decide_eq_true_iff]; omega
          have htl : (t : Int) < (os.length : Int) := by omega
          have ht0 : (0 : Int) ≤ (t : Int) := by omega
          have HZY := hide hzy
          clear he3 hc3 hz hzy
          go_wp2
          go_loopw [63] (fun i wx => ∃ (m q : Nat), i = .int .i64 m ∧ m ≤ os.length ∧ wx = w4.drewN q) (fun i _ => os.length - (intOf i).toNat)
          case atStart => exact ⟨0, 0, rfl, Nat.zero_le _, rfl⟩
          case round =>
            obtain ⟨m, q, rfl, hm, rfl⟩ := hrel
            by_cases hml : m < os.length
            · obtain ⟨g4, o4, rfl, _, hc4⟩ := (unhide HRC4).flat (by omega)
              obtain ⟨g5, o5, he5, _, hc5⟩ := (unhide HR4).flat (by omega)
              simp only [Option.some.injEq, Addr.mk.injEq, and_true] at he5
              obtain ⟨e5, e6⟩ := he5
              subst e5 e6
              obtain ⟨v, hv⟩ : ∃ v, os[m]? = some v := ⟨_, List.getElem?_eq_getElem hml⟩
              have d4 : w4.cell? ⟨g4, o4 + m, none⟩ = some (.int .i64 v) := hc4 m _ (by simp [hv, Fo.i64])
              have d5 := hc5 m (.int .i64 v) (by simp [hv, Fo.i64])
              have hml' : (m : Int) < (os.length : Int) := by omega
              clear hc4 hc5 hv
              go_wp2_with fail
              go_quiet (fail)
              go_wp2
              first | go_roundw | refine ⟨?rel, ?measure⟩
              case rel => exact ⟨m + 1, _, by go_num, by omega, rfl⟩
              case measure => simp [intOf]; omega
            · obtain rfl : m = os.length := by omega
              go_wp2
              refine ⟨⟨t + 1 + 1, by go_num, by omega, by rw [unhide HO2], below_drewN (unhide HB4) _⟩, by simp [intOf]; omega⟩
    · obtain rfl : k = os.length := by omega
      have hd : decide (x ∈ os.take os.length) = true := by rw [List.take_length]; simpa using unhide HSE
      rw [hd]
      have hbl := hide hbw
      clear hbw hd
      go_wp2
      go_ret
      exact ⟨rfl, (unhide HB2).trans ((unhide hbl).mono (unhide HB2).size)⟩

theorem walk (x : Int) (w : World) {b off cap : Nat} (hT : Tab b off cap w) (_ : -9223372036854775808 ≤ x ∧ x ≤ 9223372036854775807) :
    Calls Tryd.prog 4 #[.int .i64 x] w fun e w' => e = .returned (.bool true) ∧ Below w.heap.size w w' := by
  by_cases h : 0 ≤ x ∧ x ≤ 1114367
  · exact walk_in x w hT h.1 h.2
  · exact walk_out x w hT h
end Go.Proofs.YtefjhdllcjjlpaaDoor.FoLawShares
