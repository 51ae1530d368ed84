/-
  The law's anchor, walked: the document's two examples. Conditions: the table's variable holds the rows that the program's text lays.
-/
import Derived.Test.YtefjhdllcjjlpaaDoorFoCalls
set_option linter.unusedVariables false
set_option linter.unusedSimpArgs false
namespace Go.Proofs.YtefjhdllcjjlpaaDoor.Fo
open Go.RowKit Go.Shelf Go.Proofs.YtefjhdllcjjlpaaDoor.Mem

theorem fold_962 : foldZ 962 = 931 := (fold_least 962).symm.trans (by decide +kernel)

set_option maxHeartbeats 1000000 in
theorem anchor_any (w : World) {b off cap : Nat} (hT : Tab b off cap w) : Calls Tryd.prog 7 #[] w fun e w' => e = .returned (.bool true) ∧ Below w.heap.size w w' := by
  have HT := hide hT
  clear hT
  go_enter Tryd.func7, Tryd.ntmps7
  go_wp2_with fail
  refine (porbit_any 107 w (unhide HT)).mono ?_
  rintro e w1 ⟨v, rfl, hcut⟩
  rw [anchor_orb] at hcut
  obtain ⟨A, ca, rfl, hr, hc⟩ := own_reads hcut.1
  obtain ⟨g, o, rfl, hlt, hcs⟩ := hr.flat (by decide)
  have c0 : w1.cell? ⟨g, o, none⟩ = some (.int .i64 75) := hcs 0 _ rfl
  have c1 : w1.cell? ⟨g, o + 1, none⟩ = some (.int .i64 107) := hcs 1 _ rfl
  have c2 : w1.cell? ⟨g, o + 2, none⟩ = some (.int .i64 8490) := hcs 2 _ rfl
  have HB1 := hide hcut.2
  have HT1 := hide ((unhide HT).below hcut.2 (Nat.le_refl _))
  clear hcut hr hcs hlt
  go_wp2_with fail
  refine (pfold_any 962 w1 (unhide HT1) (by omega) (by omega)).mono ?_
  rintro e w2 ⟨rfl, hB2⟩
  rw [fold_962]
  have HB2 := hide hB2
  clear hB2 c0 c1 c2
  go_wp2
  go_ret
  exact ⟨rfl, (unhide HB1).trans ((unhide HB2).mono (unhide HB1).size)⟩
end Go.Proofs.YtefjhdllcjjlpaaDoor.Fo
