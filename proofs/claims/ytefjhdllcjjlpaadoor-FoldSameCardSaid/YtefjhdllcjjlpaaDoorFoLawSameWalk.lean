/-
  The law FoldSame, walked: true at any three numbers. Conditions: the table's variable holds the rows that the program's text lays.
-/
import Derived.Test.YtefjhdllcjjlpaaDoorFoLawOrbitsWalk
set_option linter.unusedVariables false
set_option linter.unusedSimpArgs false
namespace Go.Proofs.YtefjhdllcjjlpaaDoor.FoLawSame
open Go.RowKit Go.Shelf Go.Proofs.YtefjhdllcjjlpaaDoor.Mem Go.Proofs.YtefjhdllcjjlpaaDoor.Fo

theorem eql_bool_s (a b : Bool) (w : World) : Sem.run Tryd.prog (binOp .eql 4 (.bool a) (.bool b)) w = .ok (.bool (a == b)) w := by
  cases a <;> cases b <;> rfl
theorem run_not_tt {P : Program} (w : World) : Sem.run P (Op.unary UnOp.not (.bool true)) w = .ok (.bool false) w := rfl
theorem run_not_ff {P : Program} (w : World) : Sem.run P (Op.unary UnOp.not (.bool false)) w = .ok (.bool true) w := rfl
attribute [local go_sem] run_not_tt run_not_ff eql_bool_s

theorem same_b (x y : Int) (c : Bool) (hc : (foldZ x == foldZ y) = c) (w : World) {b off cap : Nat} (hT : Tab b off cap w) (hx : -9223372036854775808 ≤ x ∧ x ≤ 9223372036854775807) (hy : -9223372036854775808 ≤ y ∧ y ≤ 9223372036854775807) :
    Calls Tryd.prog 12 #[.int .i64 x, .int .i64 y] w fun e w' => e = .returned (.bool c) ∧ Below w.heap.size w w' := by subst hc; exact psame_any x y w hT hx hy

set_option maxHeartbeats 4000000 in
theorem walk (x y z : Int) (w : World) {b off cap : Nat} (hT : Tab b off cap w) (hx : -9223372036854775808 ≤ x ∧ x ≤ 9223372036854775807) (hy : -9223372036854775808 ≤ y ∧ y ≤ 9223372036854775807) (hz : -9223372036854775808 ≤ z ∧ z ≤ 9223372036854775807) :
    Calls Tryd.prog 5 #[.int .i64 x, .int .i64 y, .int .i64 z] w fun e w' => e = .returned (.bool true) ∧ Below w.heap.size w w' := by
  have HT := hide hT
  have HX := hide hx
  have HY := hide hy
  have HZ := hide hz
  clear hT hx hy hz
  go_enter Tryd.func5, Tryd.ntmps5
  go_wp2_with fail
  refine (anchor_any w (unhide HT)).mono ?_
  rintro e w1 ⟨rfl, hB1⟩
  have HB1 := hide hB1
  have HT1 := hide ((unhide HT).below hB1 (Nat.le_refl _))
  clear hB1
  obtain ⟨p, hp⟩ : ∃ p, foldZ x = p := ⟨_, rfl⟩
  obtain ⟨q, hq⟩ : ∃ q, foldZ y = q := ⟨_, rfl⟩
  have HP := hide hp
  have HQ := hide hq
  clear hp hq
  go_wp2_with fail
  refine (FoLawOrbits.refFold x w1).mono ?_
  rintro e w2 ⟨rfl, hB2⟩
  rw [unhide HP]
  have HB2 := hide ((unhide HB1).trans (hB2.mono (unhide HB1).size))
  have HT2 := hide ((unhide HT1).below hB2 (Nat.le_refl _))
  clear hB2
  go_wp2_with fail
  refine (FoLawOrbits.refFold y w2).mono ?_
  rintro e w3 ⟨rfl, hB3⟩
  rw [unhide HQ]
  have HB3 := hide ((unhide HB2).trans (hB3.mono (unhide HB2).size))
  have HT3 := hide ((unhide HT2).below hB3 (Nat.le_refl _))
  clear hB3
  by_cases hpq : p = q
  · have hc : (p == q) = true := by simp [hpq]
    have HC1 := hide (show (foldZ x == foldZ y) = true by rw [unhide HP, unhide HQ]; simp [hpq])
    have HC2 := hide (show (foldZ y == foldZ x) = true by rw [unhide HP, unhide HQ]; simp [hpq])
    obtain ⟨c, hcc⟩ : ∃ c : Bool, (foldZ x == foldZ z) = c := ⟨_, rfl⟩
    have HC3 := hide hcc
    have HC4 := hide (show (foldZ y == foldZ z) = c by rw [← hcc, unhide HP, unhide HQ, hpq])
    clear hpq hcc
    go_wp2_with fail
    refine (same_b x y true (unhide HC1) w3 (unhide HT3) (unhide HX) (unhide HY)).mono ?_
    rintro e w4 ⟨rfl, hB4⟩
    have HB4 := hide ((unhide HB3).trans (hB4.mono (unhide HB3).size))
    have HT4 := hide ((unhide HT3).below hB4 (Nat.le_refl _))
    clear hB4
    go_wp2_with fail
    refine (same_b y x true (unhide HC2) w4 (unhide HT4) (unhide HY) (unhide HX)).mono ?_
    rintro e w5 ⟨rfl, hB5⟩
    have HB5 := hide ((unhide HB4).trans (hB5.mono (unhide HB4).size))
    have HT5 := hide ((unhide HT4).below hB5 (Nat.le_refl _))
    clear hB5
    go_wp2_with fail
    refine (same_b x z c (unhide HC3) w5 (unhide HT5) (unhide HX) (unhide HZ)).mono ?_
    rintro e w6 ⟨rfl, hB6⟩
    have HB6 := hide ((unhide HB5).trans (hB6.mono (unhide HB5).size))
    have HT6 := hide ((unhide HT5).below hB6 (Nat.le_refl _))
    clear hB6
    go_wp2_with fail
    refine (same_b y z c (unhide HC4) w6 (unhide HT6) (unhide HY) (unhide HZ)).mono ?_
    rintro e w7 ⟨rfl, hB7⟩
    have HB7 := hide ((unhide HB6).trans (hB7.mono (unhide HB6).size))
    clear hB7
    have hcc : (c == c) = true := by simp
    cases c <;> (go_wp2; go_ret; exact ⟨rfl, unhide HB7⟩)
  · have hc : (p == q) = false := by simp [hpq]
    have HC1 := hide (show (foldZ x == foldZ y) = false by rw [unhide HP, unhide HQ]; simp [hpq])
    have HC2 := hide (show (foldZ y == foldZ x) = false by rw [unhide HP, unhide HQ]; simp; exact fun h => hpq h.symm)
    clear hpq
    go_wp2_with fail
    refine (same_b x y false (unhide HC1) w3 (unhide HT3) (unhide HX) (unhide HY)).mono ?_
    rintro e w4 ⟨rfl, hB4⟩
    have HB4 := hide ((unhide HB3).trans (hB4.mono (unhide HB3).size))
    have HT4 := hide ((unhide HT3).below hB4 (Nat.le_refl _))
    clear hB4
    go_wp2_with fail
    refine (same_b y x false (unhide HC2) w4 (unhide HT4) (unhide HY) (unhide HX)).mono ?_
    rintro e w5 ⟨rfl, hB5⟩
    have HB5 := hide ((unhide HB4).trans (hB5.mono (unhide HB4).size))
    clear hB5
    go_wp2
    go_ret
    exact ⟨rfl, unhide HB5⟩
end Go.Proofs.YtefjhdllcjjlpaaDoor.FoLawSame
