/-
  The law FoldOrbits, walked: true at any number. Conditions: the table's variable holds the rows that the program's text lays.
-/
import Derived.Test.YtefjhdllcjjlpaaDoorFoAnchor
set_option linter.unusedVariables false
set_option linter.unusedSimpArgs false
namespace Go.Proofs.YtefjhdllcjjlpaaDoor.FoLawOrbits
open Go.RowKit Go.Shelf Go.Proofs.YtefjhdllcjjlpaaDoor.Mem Go.Proofs.YtefjhdllcjjlpaaDoor.Fo

theorem refOrbit (x : Int) (w : World) : Calls Tryd.prog 9 #[.int .i64 x] w fun e w' => ∃ v, e = .returned v ∧ CutI w (orb x) v w' := by
  refine (orbit_any x w).mono ?_
  rintro e w' ⟨v, l, rfl, ho, _, hc⟩
  rw [orb_unique ho] at hc
  exact ⟨v, rfl, hc⟩
theorem refFold (x : Int) (w : World) : Calls Tryd.prog 11 #[.int .i64 x] w fun e w' => e = .returned (.int .i64 (foldZ x)) ∧ Below w.heap.size w w' := by
  refine (fold_any x w).mono ?_
  rintro e w' ⟨l, ho, rfl, hb⟩
  rw [orb_unique ho]
  exact ⟨rfl, hb⟩

set_option maxHeartbeats 2000000 in
theorem walk (x : Int) (w : World) {b off cap : Nat} (hT : Tab b off cap w) (hx : -9223372036854775808 ≤ x ∧ x ≤ 9223372036854775807) :
    Calls Tryd.prog 3 #[.int .i64 x] w fun e w' => e = .returned (.bool true) ∧ Below w.heap.size w w' := by
  have HT := hide hT
  have HX := hide hx
  clear hT hx
  go_enter Tryd.func3, Tryd.ntmps3
  go_wp2_with fail
  refine (anchor_any w (unhide HT)).mono ?_
  rintro e w1 ⟨rfl, hB1⟩
  have HB1 := hide hB1
  have HT1 := hide ((unhide HT).below hB1 (Nat.le_refl _))
  clear hB1
  go_wp2_with fail
  refine (porbit_any x w1 (unhide HT1)).mono ?_
  rintro e w2 ⟨v, rfl, hcut⟩
  have HC := hide hcut
  have HT2 := hide ((unhide HT1).below hcut.2 (Nat.le_refl _))
  clear hcut
  go_wp2_with fail
  refine (refOrbit x w2).mono ?_
  rintro e w3 ⟨u, rfl, hcut⟩
  have HD := hide hcut
  have HC3 := hide ((unhide HC).on hcut.2)
  have HT3 := hide ((unhide HT2).below hcut.2 (Nat.le_refl _))
  clear hcut HC
  have h3 := orb_three x
  obtain ⟨A, ca, rfl, hrA, hcA⟩ := own_reads (unhide HC3).1
  obtain ⟨C, cc, rfl, hrC, hcC⟩ := own_reads (unhide HD).1
  have HRA := hide hrA
  have HRC := hide hrC
  clear hrA hrC
  obtain ⟨os, hos⟩ : ∃ os, orb x = os := ⟨_, rfl⟩
  rw [hos] at HRA HRC h3 hcA hcC
  rw [hos]
  clear hos
  go_wp2_with fail
  refine (pfold_any x w3 (unhide HT3) (unhide HX).1 (unhide HX).2).mono ?_
  rintro e w4 ⟨rfl, hB4⟩
  have HB4 := hide hB4
  clear hB4
  obtain ⟨p, hp⟩ : ∃ p, foldZ x = p := ⟨_, rfl⟩
  rw [hp]
  go_wp2_with fail
  refine (refFold x w4).mono ?_
  rintro e w5 ⟨rfl, hB5⟩
  rw [hp]
  clear hp
  have HB5 := hide ((unhide HB4).trans (hB5.mono (unhide HB4).size))
  have HRA5 := hide ((unhide HRA).below (unhide HB5))
  have HRC5 := hide ((unhide HRC).below (unhide HB5))
  have HBW := hide (((unhide HB1).trans ((unhide HC3).2.mono (unhide HB1).size)).trans ((unhide HB5).mono (((unhide HB1).trans ((unhide HC3).2.mono (unhide HB1).size)).size)))
  clear hB5 HB4
  go_wp2
  go_loopw [26] (fun i wr => ∃ (k : Nat) (q : Nat), i = .int .i64 k ∧ k ≤ os.length ∧ wr = w5.drewN q) (fun i _ => os.length - (intOf i).toNat)
  case atStart => exact ⟨0, 0, rfl, Nat.zero_le _, rfl⟩
  case round =>
    obtain ⟨k, q, rfl, hk, rfl⟩ := hrel
    by_cases hlt : k < os.length
    · obtain ⟨g1, o1, rfl, _, hc1⟩ := (unhide HRA5).flat (by omega)
      obtain ⟨g2, o2, rfl, _, hc2⟩ := (unhide HRC5).flat (by omega)
      obtain ⟨z, hz⟩ : ∃ z, os[k]? = some z := ⟨_, List.getElem?_eq_getElem hlt⟩
      have c1 : w5.cell? ⟨g1, o1 + k, none⟩ = some (.int .i64 z) := hc1 k _ (by simp [hz, Fo.i64])
      have c2 : w5.cell? ⟨g2, o2 + k, none⟩ = some (.int .i64 z) := hc2 k _ (by simp [hz, Fo.i64])
      have hlt' : (k : Int) < (os.length : Int) := by omega
      clear hc1 hc2 hz
      go_wp2_with fail
      go_quiet (fail)
      go_wp2
      first | go_roundw | refine ⟨?rel, ?measure⟩
      case rel => exact ⟨k + 1, _, by go_num, by omega, rfl⟩
      case measure => simp [intOf]; omega
    · obtain rfl : k = os.length := by omega
      go_wp2
      go_ret
      exact ⟨rfl, below_drewN (unhide HBW) _⟩
end Go.Proofs.YtefjhdllcjjlpaaDoor.FoLawOrbits
