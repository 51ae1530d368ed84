/-
  slices.IndexFunc and ContainsFunc at instructions, counts and sets, walked: the function handed in by what it answers. Condition: the row lies in memory.
-/
import Derived.Test.YtiaelaepfhiabaaDoorCoFits1
import Derived.Test.YtiaelaepfhiabaaDoorRsRight
set_option linter.unusedVariables false
set_option linter.unusedSimpArgs false
namespace Go.Proofs.YtiaelaepfhiabaaDoor.Co
open Go.RowKit Go.Proofs.YtiaelaepfhiabaaDoor.Mem Go.Proofs.YtiaelaepfhiabaaDoor.Rs
attribute [local go_sem] run_not_true run_not_false

set_option maxHeartbeats 1000000 in
theorem ended1_any (i : In) (w : World) : Calls Tryd.prog 29 #[.agg #[.int .i64 i.op, .int .i64 i.x, .int .i64 i.y, .int .i64 i.z, .int .i64 i.nd, .int .i64 i.ph]] w fun e w' => e = .returned (.bool (i.op == 19)) ∧ Below w.heap.size w w' := by
  go_enter Tryd.func29, Tryd.ntmps29
  go_wp2
  go_ret
  exact ⟨rfl, below_al (Below.refl _ _) (Nat.le_refl _) _⟩

theorem find_none {l : List In} (h : ∀ j < l.length, ∀ i, l[j]? = some i → (i.op == 19) = false) : endIx l = -1 := by
  unfold endIx
  rw [List.findIdx?_eq_none_iff.2 (fun i hi => by
    obtain ⟨j, hj, rfl⟩ := List.getElem_of_mem hi
    exact h j hj _ (List.getElem?_eq_getElem hj))]
theorem find_some {l : List In} {k : Nat} {i : In} (hi : l[k]? = some i) (hk : (i.op == 19) = true) (h : ∀ j < k, ∀ i, l[j]? = some i → (i.op == 19) = false) : endIx l = (k : Int) := by
  obtain ⟨hlt, rfl⟩ := List.getElem?_eq_some_iff.1 hi
  unfold endIx
  have : l.findIdx? (fun i => i.op == 19) = some k := by
    rw [List.findIdx?_eq_some_iff_getElem]
    exact ⟨hlt, hk, fun j hj => by rw [h j hj _ (List.getElem?_eq_getElem (by omega))]; simp⟩
  rw [this]

set_option maxHeartbeats 2000000 in
theorem index_any (l : List In) (A : Option Addr) (c : Nat) (w : World) (hl : (l.length : Int) ≤ 9000000000000000000) (h : Ins w w.heap.size A l) :
    Calls Tryd.prog 30 #[.slice A l.length c, .func (.func 29) #[] #[]] w fun e w' => e = .returned (.int .i64 (endIx l)) ∧ Below w.heap.size w w' := by
  have HI := hide h
  have HL := hide hl
  clear h hl
  go_enter Tryd.func30, Tryd.ntmps30
  go_wp2_with fail
  go_loopw [8] (fun i wr => ∃ k : Nat, i = .int .i64 (k : Int) ∧ k ≤ l.length ∧ (∀ j < k, ∀ i, l[j]? = some i → (i.op == 19) = false) ∧ Below w.heap.size w wr) (fun i _ => l.length - (intOf i).toNat)
  case atStart => exact ⟨0, rfl, Nat.zero_le _, fun j h => absurd h (by omega), Below.refl _ _⟩
  case round =>
    obtain ⟨k, rfl, hk, hno, hbe⟩ := hrel
    by_cases hlt : k < l.length
    · obtain ⟨i, hi⟩ : ∃ i, l[k]? = some i := ⟨l[k], List.getElem?_eq_getElem hlt⟩
      obtain ⟨b, off, rfl, hb, hc⟩ := (unhide HI) (by omega)
      obtain ⟨c0, c1, c2, c3, c4, c5⟩ := hc k i hi
      replace c0 := (hbe.cell (p := ⟨b, _, none⟩) hb).trans c0
      replace c1 := (hbe.cell (p := ⟨b, _, none⟩) hb).trans c1
      replace c2 := (hbe.cell (p := ⟨b, _, none⟩) hb).trans c2
      replace c3 := (hbe.cell (p := ⟨b, _, none⟩) hb).trans c3
      replace c4 := (hbe.cell (p := ⟨b, _, none⟩) hb).trans c4
      replace c5 := (hbe.cell (p := ⟨b, _, none⟩) hb).trans c5
      have H1 := hide (And.intro hno (And.intro hbe hi))
      clear hno hbe hi hc
      go_wp2_with fail
      refine (ended1_any i wr).mono ?_
      rintro e w1 ⟨rfl, hb1⟩
      have HB := hide ((unhide H1).2.1.trans (hb1.mono (unhide H1).2.1.size))
      clear hb1 c0 c1 c2 c3 c4 c5
      cases q : (i.op == 19)
      · have HQ := hide q
        clear q
        go_wp2_with fail
        have hw : wrap64 ((k : Int) + 1) = ((k + 1 : Nat) : Int) := by
          have h1 := unhide HL
          rw [← IntWalk.i64_left, wrap_id _ (by omega) (by omega)]; simp
        refine ⟨⟨k + 1, by rw [hw], hlt, fun j hj t ht => ?_, unhide HB⟩, by rw [hw]; simp only [intOf, Int.toNat_natCast]; omega⟩
        rcases Nat.lt_or_ge j k with h1 | h1
        · exact (unhide H1).1 j h1 t ht
        · obtain rfl : j = k := by omega
          rw [(unhide H1).2.2] at ht
          obtain rfl := Option.some.inj ht
          exact unhide HQ
      · have HQ := hide (find_some (unhide H1).2.2 q (unhide H1).1)
        clear q
        go_wp2_with fail
        go_ret
        exact ⟨by rw [unhide HQ]; rfl, unhide HB⟩
    · have hkn : (l.length : Int) ≤ (k : Int) := by omega
      have HQ := hide (find_none (l := l) (fun j hj => hno j (by omega)))
      have HB := hide hbe
      clear hno hbe hlt hk
      go_wp2_with fail
      go_ret
      exact ⟨by rw [unhide HQ]; rfl, unhide HB⟩

set_option maxHeartbeats 1000000 in
/-- **ended**. -/
theorem ended_any (l : List In) (v2 v3 v4 : Value) (A : Option Addr) (c : Nat) (w : World) (hl : (l.length : Int) ≤ 9000000000000000000) (h : Ins w w.heap.size A l) :
    Calls Tryd.prog 14 #[.agg #[.slice A l.length c, v2, v3, v4]] w fun e w' => e = .returned (.bool (endedB l)) ∧ Below w.heap.size w w' := by
  have HI := hide ((h.below (below_al (Below.refl _ _) (Nat.le_refl _) (.cells #[.slice A l.length c, v2, v3, v4] 26))).more (B' := (w.alloc (.cells #[.slice A l.length c, v2, v3, v4] 26)).heap.size) (by simp))
  have hw : IntKind.i64.wrap ((l.length : Int) - 1) = (l.length : Int) - 1 := wrap_id _ (by omega) (by omega)
  have HIX := hide (index_any l A c (w.alloc (.cells #[.slice A l.length c, v2, v3, v4] 26)) hl (unhide HI))
  unfold endedB
  clear h hl
  generalize endIx l = n at *
  by_cases h0 : 0 ≤ n
  all_goals
    go_enter Tryd.func14, Tryd.ntmps14
    go_wp2_with fail
    refine (unhide HIX).mono ?_
    rintro e w1 ⟨rfl, hb⟩
    have cb : w1.cell? ⟨w.heap.size, 0, none⟩ = some (.slice A l.length c) := (hb.cell (p := ⟨w.heap.size, 0, none⟩) (by simp)).trans (by rw [World.cell?_alloc_new]; rfl)
    have HB := hide hb
    clear hb
    go_wp2_with fail
    go_ret
    refine ⟨?_, (below_al (Below.refl _ _) (Nat.le_refl _) _).trans ((unhide HB).mono (by simp))⟩
    first
      | (simp [h0]; done)
      | (simp; omega)
      | (simp [h0]; rfl)
end Go.Proofs.YtiaelaepfhiabaaDoor.Co
