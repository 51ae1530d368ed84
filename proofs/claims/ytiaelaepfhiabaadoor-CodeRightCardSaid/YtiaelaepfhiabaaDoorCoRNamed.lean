/-
  clewref11's named, whole. Conditions: the instructions lie in memory, the place is one of theirs, its Op is one.
-/
import Derived.Test.YtiaelaepfhiabaaDoorCoRNamed6
import Derived.Test.YtiaelaepfhiabaaDoorCoRNamed5
import Derived.Test.YtiaelaepfhiabaaDoorCoRNamed2
import Derived.Test.YtiaelaepfhiabaaDoorCoRNamed3
import Derived.Test.YtiaelaepfhiabaaDoorCoRNamed4
set_option linter.unusedVariables false
set_option linter.unusedSimpArgs false
namespace Go.Proofs.YtiaelaepfhiabaaDoor.Co
open Go.RowKit Go.Proofs.YtiaelaepfhiabaaDoor.Mem Go.Proofs.YtiaelaepfhiabaaDoor.Rs
theorem rnamed_any (l : List In) (As Al A : Option Addr) (c ns cs nk ck : Nat) (g : Int) (a : Nat) (w : World) (i : In) (ha : l[a]? = some i) (h1 : 1 ≤ i.op) (h19 : i.op ≤ 19) (hl : (l.length : Int) ≤ 9000000000000000000) (hs : (ns : Int) ≤ 9000000000000000000) (hk : (nk : Int) ≤ 9000000000000000000) (h : Ins w w.heap.size A l) :
    Calls Tryd.prog 19 #[.agg #[.slice A l.length c, .slice As ns cs, .slice Al nk ck, .int .i64 g], .int .i64 (a : Int)] w fun e w' => e = .returned (.bool (fitsB l ns nk g a i)) ∧ Below w.heap.size w w' := by
  obtain ⟨op, x, y, z, nd, ph⟩ := i
  dsimp only at h1 h19
  have hc : op = 1 ∨ op = 2 ∨ op = 3 ∨ op = 4 ∨ op = 5 ∨ op = 6 ∨ op = 7 ∨ op = 8 ∨ op = 9 ∨ op = 10 ∨ op = 11 ∨ op = 12 ∨ op = 13 ∨ op = 14 ∨ op = 15 ∨ op = 16 ∨ op = 17 ∨ op = 18 ∨ op = 19 := by omega
  clear h1 h19
  rcases hc with rfl | rfl | rfl | rfl | rfl | rfl | rfl | rfl | rfl | rfl | rfl | rfl | rfl | rfl | rfl | rfl | rfl | rfl | rfl
  · by_cases hz : z = 0
    · subst hz
      by_cases hy : y = 0
      · subst hy
        exact rn_1_m l As Al A c ns cs nk ck g a w x nd ph ha hl hs hk h
      · exact rn_1_y l As Al A c ns cs nk ck g a w x y nd ph (by simpa using hy) ha hl hs hk h
    · exact rn_1_z l As Al A c ns cs nk ck g a w x y z nd ph (by simpa using hz) ha hl hs hk h
  · by_cases hz : z = 0
    · subst hz
      by_cases hy : y = 0
      · subst hy
        exact rn_2_m l As Al A c ns cs nk ck g a w x nd ph ha hl hs hk h
      · exact rn_2_y l As Al A c ns cs nk ck g a w x y nd ph (by simpa using hy) ha hl hs hk h
    · exact rn_2_z l As Al A c ns cs nk ck g a w x y z nd ph (by simpa using hz) ha hl hs hk h
  · by_cases hz : z = 0
    · subst hz
      exact rn_3_m l As Al A c ns cs nk ck g a w x y nd ph ha hl hs hk h
    · exact rn_3_z l As Al A c ns cs nk ck g a w x y z nd ph (by simpa using hz) ha hl hs hk h
  · by_cases hz : z = 0
    · subst hz
      by_cases hy : y = 0
      · subst hy
        exact rn_4_m l As Al A c ns cs nk ck g a w x nd ph ha hl hs hk h
      · exact rn_4_y l As Al A c ns cs nk ck g a w x y nd ph (by simpa using hy) ha hl hs hk h
    · exact rn_4_z l As Al A c ns cs nk ck g a w x y z nd ph (by simpa using hz) ha hl hs hk h
  · by_cases hz : z = 0
    · subst hz
      by_cases hy : y = 0
      · subst hy
        by_cases hx : x = -1
        · subst hx; exact rn_5_a l As Al A c ns cs nk ck g a w nd ph ha hl hs hk h
        · exact rn_5_b l As Al A c ns cs nk ck g a w x nd ph (beq_eq_false_iff_ne.2 hx) ha hl hs hk h
      · exact rn_5_y l As Al A c ns cs nk ck g a w x y nd ph (by simpa using hy) ha hl hs hk h
    · exact rn_5_z l As Al A c ns cs nk ck g a w x y z nd ph (by simpa using hz) ha hl hs hk h
  · by_cases hz : z = 0
    · subst hz
      by_cases hy : y = 0
      · subst hy
        exact rn_6_m l As Al A c ns cs nk ck g a w x nd ph ha hl hs hk h
      · exact rn_6_y l As Al A c ns cs nk ck g a w x y nd ph (by simpa using hy) ha hl hs hk h
    · exact rn_6_z l As Al A c ns cs nk ck g a w x y z nd ph (by simpa using hz) ha hl hs hk h
  · by_cases hz : z = 0
    · subst hz
      by_cases hy : y = 0
      · subst hy
        exact rn_7_m l As Al A c ns cs nk ck g a w x nd ph ha hl hs hk h
      · exact rn_7_y l As Al A c ns cs nk ck g a w x y nd ph (by simpa using hy) ha hl hs hk h
    · exact rn_7_z l As Al A c ns cs nk ck g a w x y z nd ph (by simpa using hz) ha hl hs hk h
  · exact rn_8_m l As Al A c ns cs nk ck g a w x y z nd ph ha hl hs hk h
  · by_cases hz : z = 0
    · subst hz
      by_cases hy : y = 0
      · subst hy
        exact rn_9_m l As Al A c ns cs nk ck g a w x nd ph ha hl hs hk h
      · exact rn_9_y l As Al A c ns cs nk ck g a w x y nd ph (by simpa using hy) ha hl hs hk h
    · exact rn_9_z l As Al A c ns cs nk ck g a w x y z nd ph (by simpa using hz) ha hl hs hk h
  · by_cases hz : z = 0
    · subst hz
      exact rn_10_m l As Al A c ns cs nk ck g a w x y nd ph ha hl hs hk h
    · exact rn_10_z l As Al A c ns cs nk ck g a w x y z nd ph (by simpa using hz) ha hl hs hk h
  · by_cases hz : z = 0
    · subst hz
      by_cases hy : y = 0
      · subst hy
        exact rn_11_m l As Al A c ns cs nk ck g a w x nd ph ha hl hs hk h
      · exact rn_11_y l As Al A c ns cs nk ck g a w x y nd ph (by simpa using hy) ha hl hs hk h
    · exact rn_11_z l As Al A c ns cs nk ck g a w x y z nd ph (by simpa using hz) ha hl hs hk h
  · by_cases hz : z = 0
    · subst hz
      by_cases hy : y = 0
      · subst hy
        exact rn_12_m l As Al A c ns cs nk ck g a w x nd ph ha hl hs hk h
      · exact rn_12_y l As Al A c ns cs nk ck g a w x y nd ph (by simpa using hy) ha hl hs hk h
    · exact rn_12_z l As Al A c ns cs nk ck g a w x y z nd ph (by simpa using hz) ha hl hs hk h
  · by_cases hz : z = 0
    · subst hz
      by_cases hy : y = 0
      · subst hy
        by_cases hx : x = -1
        · subst hx; exact rn_13_a l As Al A c ns cs nk ck g a w nd ph ha hl hs hk h
        · exact rn_13_b l As Al A c ns cs nk ck g a w x nd ph (beq_eq_false_iff_ne.2 hx) ha hl hs hk h
      · exact rn_13_y l As Al A c ns cs nk ck g a w x y nd ph (by simpa using hy) ha hl hs hk h
    · exact rn_13_z l As Al A c ns cs nk ck g a w x y z nd ph (by simpa using hz) ha hl hs hk h
  · by_cases hz : z = 0
    · subst hz
      exact rn_14_m l As Al A c ns cs nk ck g a w x y nd ph ha hl hs hk h
    · exact rn_14_z l As Al A c ns cs nk ck g a w x y z nd ph (by simpa using hz) ha hl hs hk h
  · by_cases hz : z = 0
    · subst hz
      by_cases hy : y = 0
      · subst hy
        exact rn_15_m l As Al A c ns cs nk ck g a w x nd ph ha hl hs hk h
      · exact rn_15_y l As Al A c ns cs nk ck g a w x y nd ph (by simpa using hy) ha hl hs hk h
    · exact rn_15_z l As Al A c ns cs nk ck g a w x y z nd ph (by simpa using hz) ha hl hs hk h
  · by_cases hz : z = 0
    · subst hz
      by_cases hy : y = 0
      · subst hy
        exact rn_16_m l As Al A c ns cs nk ck g a w x nd ph ha hl hs hk h
      · exact rn_16_y l As Al A c ns cs nk ck g a w x y nd ph (by simpa using hy) ha hl hs hk h
    · exact rn_16_z l As Al A c ns cs nk ck g a w x y z nd ph (by simpa using hz) ha hl hs hk h
  · by_cases hz : z = 0
    · subst hz
      by_cases hy : y = 0
      · subst hy
        exact rn_17_m l As Al A c ns cs nk ck g a w x nd ph ha hl hs hk h
      · exact rn_17_y l As Al A c ns cs nk ck g a w x y nd ph (by simpa using hy) ha hl hs hk h
    · exact rn_17_z l As Al A c ns cs nk ck g a w x y z nd ph (by simpa using hz) ha hl hs hk h
  · by_cases hz : z = 0
    · subst hz
      by_cases hy : y = 0
      · subst hy
        exact rn_18_m l As Al A c ns cs nk ck g a w x nd ph ha hl hs hk h
      · exact rn_18_y l As Al A c ns cs nk ck g a w x y nd ph (by simpa using hy) ha hl hs hk h
    · exact rn_18_z l As Al A c ns cs nk ck g a w x y z nd ph (by simpa using hz) ha hl hs hk h
  · by_cases hz : z = 0
    · subst hz
      by_cases hy : y = 0
      · subst hy
        exact rn_19_m l As Al A c ns cs nk ck g a w x nd ph ha hl hs hk h
      · exact rn_19_y l As Al A c ns cs nk ck g a w x y nd ph (by simpa using hy) ha hl hs hk h
    · exact rn_19_z l As Al A c ns cs nk ck g a w x y z nd ph (by simpa using hz) ha hl hs hk h
end Go.Proofs.YtiaelaepfhiabaaDoor.Co
