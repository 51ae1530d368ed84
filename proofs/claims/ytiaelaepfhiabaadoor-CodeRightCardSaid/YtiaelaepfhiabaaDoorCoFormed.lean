/-
  code.fits, whole; code.formed, walked. Condition: the instructions lie in memory.
-/
import Derived.Test.YtiaelaepfhiabaaDoorCoFits2
import Derived.Test.YtiaelaepfhiabaaDoorCoFits3
import Derived.Test.YtiaelaepfhiabaaDoorCoNamed
set_option linter.unusedVariables false
set_option linter.unusedSimpArgs false
namespace Go.Proofs.YtiaelaepfhiabaaDoor.Co
open Go.RowKit Go.Proofs.YtiaelaepfhiabaaDoor.Mem Go.Proofs.YtiaelaepfhiabaaDoor.Rs
attribute [local go_sem] run_not_true run_not_false
theorem fits_any (l : List In) (As Al A : Option Addr) (c ns cs nk ck : Nat) (g : Int) (a : Nat) (w : World) (i : In) (ha : l[a]? = some i) (hl : (l.length : Int) ≤ 9000000000000000000) (hs : (ns : Int) ≤ 9000000000000000000) (hk : (nk : Int) ≤ 9000000000000000000) (h : Ins w w.heap.size A l) :
    Calls Tryd.prog 31 #[.agg #[.slice A l.length c, .slice As ns cs, .slice Al nk ck, .int .i64 g], .int .i64 (a : Int)] w fun e w' => e = .returned (.bool (fitsB l ns nk g a i)) ∧ Below w.heap.size w w' := by
  obtain ⟨op, x, y, z, nd, ph⟩ := i
  by_cases h1 : op = 1
  · subst h1; exact fits_1 l As Al A c ns cs nk ck g a w x y z nd ph ha hl hs hk h
  by_cases h2 : op = 2
  · subst h2; exact fits_2 l As Al A c ns cs nk ck g a w x y z nd ph ha hl hs hk h
  by_cases h3 : op = 3
  · subst h3; exact fits_3 l As Al A c ns cs nk ck g a w x y z nd ph ha hl hs hk h
  by_cases h4 : op = 4
  · subst h4; exact fits_4 l As Al A c ns cs nk ck g a w x y z nd ph ha hl hs hk h
  by_cases h5 : op = 5
  · subst h5
    by_cases hx : x = -1
    · subst hx; exact fits_5a l As Al A c ns cs nk ck g a w y z nd ph ha hl hs hk h
    · exact fits_5b l As Al A c ns cs nk ck g a w x y z nd ph (beq_eq_false_iff_ne.2 hx) ha hl hs hk h
  by_cases h6 : op = 6
  · subst h6; exact fits_6 l As Al A c ns cs nk ck g a w x y z nd ph ha hl hs hk h
  by_cases h7 : op = 7
  · subst h7; exact fits_7 l As Al A c ns cs nk ck g a w x y z nd ph ha hl hs hk h
  by_cases h8 : op = 8
  · subst h8; exact fits_8 l As Al A c ns cs nk ck g a w x y z nd ph ha hl hs hk h
  by_cases h9 : op = 9
  · subst h9; exact fits_9 l As Al A c ns cs nk ck g a w x y z nd ph ha hl hs hk h
  by_cases h10 : op = 10
  · subst h10; exact fits_10 l As Al A c ns cs nk ck g a w x y z nd ph ha hl hs hk h
  by_cases h11 : op = 11
  · subst h11; exact fits_11 l As Al A c ns cs nk ck g a w x y z nd ph ha hl hs hk h
  by_cases h12 : op = 12
  · subst h12; exact fits_12 l As Al A c ns cs nk ck g a w x y z nd ph ha hl hs hk h
  by_cases h13 : op = 13
  · subst h13
    by_cases hx : x = -1
    · subst hx; exact fits_13a l As Al A c ns cs nk ck g a w y z nd ph ha hl hs hk h
    · exact fits_13b l As Al A c ns cs nk ck g a w x y z nd ph (beq_eq_false_iff_ne.2 hx) ha hl hs hk h
  by_cases h14 : op = 14
  · subst h14; exact fits_14 l As Al A c ns cs nk ck g a w x y z nd ph ha hl hs hk h
  exact fits_rest l As Al A c ns cs nk ck g a w op x y z nd ph (beq_eq_false_iff_ne.2 h1) (beq_eq_false_iff_ne.2 h2) (beq_eq_false_iff_ne.2 h3) (beq_eq_false_iff_ne.2 h4) (beq_eq_false_iff_ne.2 h5) (beq_eq_false_iff_ne.2 h6) (beq_eq_false_iff_ne.2 h7) (beq_eq_false_iff_ne.2 h8) (beq_eq_false_iff_ne.2 h9) (beq_eq_false_iff_ne.2 h10) (beq_eq_false_iff_ne.2 h11) (beq_eq_false_iff_ne.2 h12) (beq_eq_false_iff_ne.2 h13) (beq_eq_false_iff_ne.2 h14) ha hl hs hk h
theorem formed_no {l : List In} {ns nk : Nat} {g : Int} {k : Nat} {i : In} (hi : l[k]? = some i) (h : formB l ns nk g k i = false) : formedB l ns nk g = false := by
  unfold formedB
  rw [List.all_eq_false]
  exact ⟨k, List.mem_range.2 (List.getElem?_eq_some_iff.1 hi).1, by rw [getD_at hi, h]; simp⟩
theorem formed_yes {l : List In} {ns nk : Nat} {g : Int} (h : ∀ j < l.length, ∀ i, l[j]? = some i → formB l ns nk g j i = true) : formedB l ns nk g = true := by
  unfold formedB
  rw [List.all_eq_true]
  intro j hj
  have hj := List.mem_range.1 hj
  rw [getD_at (List.getElem?_eq_getElem hj)]
  exact h j hj _ (List.getElem?_eq_getElem hj)
set_option maxRecDepth 100000 in
set_option maxHeartbeats 4000000 in
/-- **formed**. -/
theorem formed_any (l : List In) (As Al A : Option Addr) (c ns cs nk ck : Nat) (g : Int) (w : World) (hl : (l.length : Int) ≤ 9000000000000000000) (hs : (ns : Int) ≤ 9000000000000000000) (hk : (nk : Int) ≤ 9000000000000000000) (h : Ins w w.heap.size A l) :
    Calls Tryd.prog 15 #[.agg #[.slice A l.length c, .slice As ns cs, .slice Al nk ck, .int .i64 g]] w fun e w' => e = .returned (.bool (formedB l ns nk g)) ∧ Below w.heap.size w w' := by
  have HI := hide h
  have HL := hide (And.intro hl (And.intro hs hk))
  clear h hl hs hk
  go_enter Tryd.func15, Tryd.ntmps15
  go_wp2_with fail
  go_loopw [8] (fun i wr => ∃ k : Nat, i = .int .i64 (k : Int) ∧ k ≤ l.length ∧ (∀ j < k, ∀ i, l[j]? = some i → formB l ns nk g j i = true) ∧ Below w.heap.size w wr ∧ Blk wr w.heap.size 26 #[.slice A l.length c, .slice As ns cs, .slice Al nk ck, .int .i64 g]) (fun i _ => l.length - (intOf i).toNat)
  case atStart => exact ⟨0, rfl, Nat.zero_le _, fun j h => absurd h (by omega), below_al (Below.refl _ _) (Nat.le_refl _) _, Blk.new _ _ _⟩
  case round =>
    obtain ⟨k, rfl, hkl, hno, hbe, hbk⟩ := hrel
    go_hideQ
    by_cases hlt : k < l.length
    · obtain ⟨i, hi⟩ : ∃ i, l[k]? = some i := ⟨l[k], List.getElem?_eq_getElem hlt⟩
      have HT := hide (fits_any l As Al A c ns cs nk ck g k (wr.alloc (.cells #[.int .i64 i.op, .int .i64 i.x, .int .i64 i.y, .int .i64 i.z, .int .i64 i.nd, .int .i64 i.ph] 37)) i hi (unhide HL).1 (unhide HL).2.1 (unhide HL).2.2 (((unhide HI).below (below_al hbe hbe.size _)).more (by have := hbe.size; simp; omega)))
      obtain ⟨b, off, rfl, hb, hc⟩ := (unhide HI) (by omega)
      obtain ⟨c0, c1, c2, c3, c4, c5⟩ := hc k i hi
      replace c0 := (hbe.cell (p := ⟨b, _, none⟩) hb).trans c0
      replace c1 := (hbe.cell (p := ⟨b, _, none⟩) hb).trans c1
      replace c2 := (hbe.cell (p := ⟨b, _, none⟩) hb).trans c2
      replace c3 := (hbe.cell (p := ⟨b, _, none⟩) hb).trans c3
      replace c4 := (hbe.cell (p := ⟨b, _, none⟩) hb).trans c4
      replace c5 := (hbe.cell (p := ⟨b, _, none⟩) hb).trans c5
      have x0 := (hbk.alloc (.cells #[.int .i64 i.op, .int .i64 i.x, .int .i64 i.y, .int .i64 i.z, .int .i64 i.nd, .int .i64 i.ph] 37)).cell 0
      have x1 := (hbk.alloc (.cells #[.int .i64 i.op, .int .i64 i.x, .int .i64 i.y, .int .i64 i.z, .int .i64 i.nd, .int .i64 i.ph] 37)).cell 1
      have x2 := (hbk.alloc (.cells #[.int .i64 i.op, .int .i64 i.x, .int .i64 i.y, .int .i64 i.z, .int .i64 i.nd, .int .i64 i.ph] 37)).cell 2
      have x3 := (hbk.alloc (.cells #[.int .i64 i.op, .int .i64 i.x, .int .i64 i.y, .int .i64 i.z, .int .i64 i.nd, .int .i64 i.ph] 37)).cell 3
      have H1 := hide (And.intro hno (And.intro hbe (And.intro hi hbk)))
      clear hno hbe hi hc hbk
      go_wp2_with fail
      refine (within_any i.op 1 19 _).mono ?_
      rintro e v1 ⟨rfl, rfl⟩
      cases q1 : withinB i.op 1 19
      · have Q1 := hide (formed_no (ns := ns) (nk := nk) (g := g) (unhide H1).2.2.1 (by simp [formB, q1]))
        clear q1
        go_wp2_with fail
        go_ret
        exact ⟨by rw [unhide Q1]; rfl, below_al (unhide H1).2.1 (unhide H1).2.1.size _⟩
      · have Q1 := hide q1
        clear q1
        go_wp2_with fail
        refine (within_any i.nd 0 16384 _).mono ?_
        rintro e v1 ⟨rfl, rfl⟩
        cases q2 : withinB i.nd 0 16384
        · have Q2 := hide (formed_no (ns := ns) (nk := nk) (g := g) (unhide H1).2.2.1 (by simp [formB, q2]))
          clear q2
          go_wp2_with fail
          go_ret
          exact ⟨by rw [unhide Q2]; rfl, below_al (unhide H1).2.1 (unhide H1).2.1.size _⟩
        · have Q2 := hide q2
          clear q2
          go_wp2_with fail
          refine (within_any i.ph 0 16384 _).mono ?_
          rintro e v1 ⟨rfl, rfl⟩
          cases q3 : withinB i.ph 0 16384
          · have Q3 := hide (formed_no (ns := ns) (nk := nk) (g := g) (unhide H1).2.2.1 (by simp [formB, q3]))
            clear q3
            go_wp2_with fail
            go_ret
            exact ⟨by rw [unhide Q3]; rfl, below_al (unhide H1).2.1 (unhide H1).2.1.size _⟩
          · have Q3 := hide q3
            clear q3
            go_wp2_with fail
            refine (unhide HT).mono ?_
            rintro e v2 ⟨rfl, hv2⟩
            have HV := hide ((below_al (unhide H1).2.1 (unhide H1).2.1.size _).trans (hv2.mono (by have := (unhide H1).2.1.size; simp; omega)))
            have HK := hide (((unhide H1).2.2.2.alloc _).below hv2 (by have := (unhide H1).2.2.2.lt; simp; omega))
            clear hv2
            cases q4 : fitsB l ns nk g k i
            · have Q4 := hide (formed_no (ns := ns) (nk := nk) (g := g) (unhide H1).2.2.1 (by simp [formB, q4]))
              clear q4
              go_wp2_with fail
              go_ret
              exact ⟨by rw [unhide Q4]; rfl, unhide HV⟩
            · have Q4 := hide q4
              clear q4
              go_wp2_with fail
              have hw : wrap64 ((k : Int) + 1) = ((k + 1 : Nat) : Int) := by
                have h1 := (unhide HL).1
                rw [← IntWalk.i64_left, wrap_id _ (by omega) (by omega)]; simp
              refine ⟨⟨k + 1, by rw [hw], hlt, fun j hj t ht => ?_, unhide HV, unhide HK⟩, by rw [hw]; simp only [intOf, Int.toNat_natCast]; omega⟩
              rcases Nat.lt_or_ge j k with h1 | h1
              · exact (unhide H1).1 j h1 t ht
              · obtain rfl : j = k := by omega
                rw [(unhide H1).2.2.1] at ht
                obtain rfl := Option.some.inj ht
                simp [formB, unhide Q1, unhide Q2, unhide Q3, unhide Q4]
    · have hkn : (l.length : Int) ≤ (k : Int) := by omega
      have HQ := hide (formed_yes (l := l) (ns := ns) (nk := nk) (g := g) (fun j hj => hno j (by omega)))
      have HB := hide hbe
      clear hno hbe hlt hkl hbk
      go_wp2_with fail
      go_ret
      exact ⟨by rw [unhide HQ]; rfl, unhide HB⟩
end Go.Proofs.YtiaelaepfhiabaaDoor.Co
