/-
  CodeForward, walked. Conditions: the two tables; the program lies in memory.
-/
import Derived.Test.YtiaelaepfhiabaaDoorCoAnchor
set_option linter.unusedVariables false
set_option linter.unusedSimpArgs false
namespace Go.Proofs.YtiaelaepfhiabaaDoor.Co
open Go.RowKit Go.Proofs.YtiaelaepfhiabaaDoor.Mem Go.Proofs.YtiaelaepfhiabaaDoor.Rs
attribute [local go_sem] run_not_true run_not_false

theorem form_at {l : List In} {ns nk : Nat} {g : Int} (hf : formedB l ns nk g = true) {a : Nat} {i : In} (hi : l[a]? = some i) : formB l ns nk g a i = true := by
  unfold formedB at hf
  rw [List.all_eq_true] at hf
  have := hf a (List.mem_range.2 (List.getElem?_eq_some_iff.1 hi).1)
  rwa [getD_at hi] at this
theorem fit_at {l : List In} {ns nk : Nat} {g : Int} (hf : formedB l ns nk g = true) {a : Nat} {i : In} (hi : l[a]? = some i) : fitsB l ns nk g a i = true := by
  have := form_at hf hi
  simp only [formB, Bool.and_eq_true] at this
  exact this.2
theorem fwd4 {l : List In} {ns nk : Nat} {g : Int} (hf : formedB l ns nk g = true) {a : Nat} {i : In} (hi : l[a]? = some i) (h : i.op = 4 ∨ i.op = 6) : (a : Int) < i.x ∧ i.x < (l.length : Int) := by
  have h1 := fit_at hf hi
  unfold fitsB at h1
  rcases h with h | h <;> simp [h, wayB, aheadB] at h1 <;> omega
theorem fwd8 {l : List In} {ns nk : Nat} {g : Int} (hf : formedB l ns nk g = true) {a : Nat} {i : In} (hi : l[a]? = some i) (h : i.op = 8) : (a : Int) < i.y ∧ i.y < (l.length : Int) ∧ (a : Int) < i.z := by
  have h1 := fit_at hf hi
  unfold fitsB at h1
  simp [h, wayB, aheadB] at h1
  omega
theorem fwd10 {l : List In} {ns nk : Nat} {g : Int} (hf : formedB l ns nk g = true) {a : Nat} {i : In} (hi : l[a]? = some i) (h : i.op = 10) : ∃ (t : Nat) (j : In), i.y = (t : Int) ∧ t < a ∧ l[t]? = some j ∧ j.op = 8 ∧ (a : Int) < j.y := by
  have h1 := fit_at hf hi
  unfold fitsB at h1
  simp [h, aroundB, withinB] at h1
  have hlt := (List.getElem?_eq_some_iff.1 hi).1
  have ht : i.y.toNat < l.length := by omega
  refine ⟨i.y.toNat, l[i.y.toNat], by omega, by omega, List.getElem?_eq_getElem ht, ?_, ?_⟩
  · have := h1.1.2.1.1.2
    simpa [List.getD, ht] using this
  · have := h1.1.2.2
    simpa [List.getD, ht] using this

set_option maxRecDepth 100000 in
set_option maxHeartbeats 4000000 in
theorem walkForward (l : List In) (ss : List (List R)) (kk : List Cn) (As Al A : Option Addr) (c cs ck : Nat) (g : Int) (w : World) (hl : (l.length : Int) ≤ 9000000000000000000) (h : Pv w w.heap.size l ss kk A As Al) (hT : Tb w) :
    Calls Tryd.prog 4 #[.agg #[.slice A l.length c, .slice As ss.length cs, .slice Al kk.length ck, .int .i64 g]] w fun e w' => e = .returned (.bool true) ∧ Below w.heap.size w w' := by
  have b0 : Below w.heap.size w (w.alloc (.cells #[.slice A l.length c, .slice As ss.length cs, .slice Al kk.length ck, .int .i64 g] 26)) := below_al (Below.refl _ _) (Nat.le_refl _) _
  have HA := hide (anchor_any _ (hT.below b0))
  have HP := hide h
  have HB0 := hide b0
  clear h hT b0
  go_enter Tryd.func4, Tryd.ntmps4
  go_wp2_with fail
  refine (unhide HA).mono ?_
  rintro e w1 ⟨rfl, hb1⟩
  have HB1 := hide hb1
  obtain ⟨x0, x1, x2, x3⟩ := box4 hb1
  clear hb1
  by_cases hbig : 1000 < (l.length : Int)
  · have dbig : decide (1000 < (l.length : Int)) = true := decide_eq_true hbig
    go_wp2_with fail
    go_ret
    exact ⟨rfl, (unhide HB0).trans ((unhide HB1).mono (unhide HB0).size)⟩
  · have hsm : (l.length : Int) ≤ 1000 := by omega
    have HSM := hide hsm
    clear hbig
    go_wp2_with fail
    refine (cright_any l ss kk As Al A c cs ck g w1 (by have := unhide HSM; omega) (((unhide HP).below ((unhide HB0).trans ((unhide HB1).mono (unhide HB0).size))).more (by have h1 := (unhide HB0).size; have h2 := (unhide HB1).size; omega))).mono ?_
    rintro e w2 ⟨q, rfl, hq, hb2⟩
    have HB2 := hide ((unhide HB1).trans (hb2.mono (unhide HB1).size))
    have HQ := hide hq
    clear hb2 x0 x1 x2 x3 hq
    obtain ⟨x0, x1, x2, x3⟩ := box4 (unhide HB2)
    cases q with
    | false =>
      go_wp2_with fail
      go_ret
      exact ⟨rfl, (unhide HB0).trans ((unhide HB2).mono (unhide HB0).size)⟩
    | true =>
      have HR := hide ((unhide HQ).1 rfl)
      have HE := hide (end_iff (unhide HR).2.1)
      clear HQ HA
      have HW2 := hide (And.intro ((unhide HB0).trans ((unhide HB2).mono (unhide HB0).size)) ((Blk.new w 26 #[.slice A l.length c, .slice As ss.length cs, .slice Al kk.length ck, .int .i64 g]).below (unhide HB2) (by simp)))
      go_wp2_with fail
      go_loopw [19] (fun i wr => ∃ k : Nat, i = .int .i64 (k : Int) ∧ k ≤ l.length ∧ Below w.heap.size w wr ∧ Blk wr w.heap.size 26 #[.slice A l.length c, .slice As ss.length cs, .slice Al kk.length ck, .int .i64 g]) (fun i _ => l.length - (intOf i).toNat)
      case atStart => exact ⟨0, rfl, Nat.zero_le _, (unhide HW2).1, (unhide HW2).2⟩
      case round =>
        obtain ⟨k, rfl, hk, hbe, hblk⟩ := hrel
        clear x0 x1 x2 x3
        go_hideQ
        obtain ⟨b, off, rfl, hb, hc⟩ := (unhide HP).ins (unhide HE).1
        by_cases hlt : k < l.length
        · obtain ⟨⟨op, x, y, z, nd, ph⟩, hi⟩ : ∃ i, l[k]? = some i := ⟨l[k], List.getElem?_eq_getElem hlt⟩
          obtain ⟨c0, c1, c2, c3, c4, c5⟩ := hc k _ hi
          dsimp only at c0 c1 c2 c3 c4 c5
          replace c0 := (hbe.cell (p := ⟨b, _, none⟩) hb).trans c0
          replace c1 := (hbe.cell (p := ⟨b, _, none⟩) hb).trans c1
          replace c2 := (hbe.cell (p := ⟨b, _, none⟩) hb).trans c2
          replace c3 := (hbe.cell (p := ⟨b, _, none⟩) hb).trans c3
          replace c4 := (hbe.cell (p := ⟨b, _, none⟩) hb).trans c4
          replace c5 := (hbe.cell (p := ⟨b, _, none⟩) hb).trans c5
          have x0 := (hblk.alloc (.cells #[.int .i64 op, .int .i64 x, .int .i64 y, .int .i64 z, .int .i64 nd, .int .i64 ph] 37)).cell 0
          have hw : wrap64 ((k : Int) + 1) = ((k + 1 : Nat) : Int) := by
            have h1 := unhide HSM
            rw [← IntWalk.i64_left, wrap_id _ (by omega) (by omega)]; simp
          have HEND := hide (show ((∃ k_1 : Nat, Value.int IntKind.i64 ((k : Int) + 1) = .int .i64 (k_1 : Int) ∧ k_1 ≤ l.length ∧ Below w.heap.size w (wr.alloc (.cells #[.int .i64 op, .int .i64 x, .int .i64 y, .int .i64 z, .int .i64 nd, .int .i64 ph] 37)) ∧ Blk (wr.alloc (.cells #[.int .i64 op, .int .i64 x, .int .i64 y, .int .i64 z, .int .i64 nd, .int .i64 ph] 37)) w.heap.size 26 #[.slice (some ⟨b, off, none⟩) l.length c, .slice As ss.length cs, .slice Al kk.length ck, .int .i64 g]) ∧ l.length - (intOf (Value.int IntKind.i64 ((k : Int) + 1))).toNat < l.length - (intOf (Value.int .i64 (k : Int))).toNat) from ⟨⟨k + 1, rfl, hlt, below_al hbe hbe.size _, hblk.alloc _⟩, by show l.length - ((k : Int) + 1).toNat < l.length - (k : Int).toNat; omega⟩)
          have H0 := hide (And.intro hbe (And.intro hi hblk))
          by_cases h4 : op = 4
          · obtain ⟨f1, f2⟩ := fwd4 (unhide HR).2.2.1 hi (.inl h4)
            dsimp only at f1 f2
            subst h4
            clear hbe hi hblk hc hw
            go_wp2_with fail
            exact unhide HEND
          by_cases h6 : op = 6
          · obtain ⟨f1, f2⟩ := fwd4 (unhide HR).2.2.1 hi (.inr h6)
            dsimp only at f1 f2
            subst h6
            clear hbe hi hblk hc hw h4
            go_wp2_with fail
            exact unhide HEND
          by_cases h8 : op = 8
          · obtain ⟨f1, f2, f3⟩ := fwd8 (unhide HR).2.2.1 hi h8
            dsimp only at f1 f2 f3
            subst h8
            clear hbe hi hblk hc hw h4 h6
            go_wp2_with fail
            exact unhide HEND
          by_cases h10 : op = 10
          · obtain ⟨t, j, f1, f2, f3, f4, f5⟩ := fwd10 (unhide HR).2.2.1 hi h10
            dsimp only at f1
            subst f1
            obtain ⟨jo, jx, jy, jz, jn, jp⟩ := j
            dsimp only at f4 f5
            subst f4
            subst h10
            obtain ⟨d0, d1, d2, -, -, -⟩ := hc t _ f3
            dsimp only at d0 d1 d2
            replace d0 := (World.cell?_alloc_lt wr (.cells #[.int .i64 10, .int .i64 x, .int .i64 (t : Int), .int .i64 z, .int .i64 nd, .int .i64 ph] 37) ⟨b, off + t * 6, none⟩ (by have := hbe.size; simp; omega)).trans ((hbe.cell (p := ⟨b, _, none⟩) hb).trans d0)
            replace d2 := (World.cell?_alloc_lt wr (.cells #[.int .i64 10, .int .i64 x, .int .i64 (t : Int), .int .i64 z, .int .i64 nd, .int .i64 ph] 37) ⟨b, off + t * 6 + 2, none⟩ (by have := hbe.size; simp; omega)).trans ((hbe.cell (p := ⟨b, _, none⟩) hb).trans d2)
            have g1 : (t : Int) < (k : Int) := by omega
            have g2 : (t : Int) < (l.length : Int) := by omega
            have g3 : t < l.length := by omega
            clear hbe hi hblk hc hw h4 h6 h8 f3 d1
            go_wp2_with fail
            exact unhide HEND
          · have e4 : (op == 4) = false := beq_eq_false_iff_ne.2 h4
            have e6 : (op == 6) = false := beq_eq_false_iff_ne.2 h6
            have e8 : (op == 8) = false := beq_eq_false_iff_ne.2 h8
            have e10 : (op == 10) = false := beq_eq_false_iff_ne.2 h10
            clear hbe hi hblk hc hw h4 h6 h8 h10
            go_wp2_with fail
            exact unhide HEND
        · have hkn : (l.length : Int) ≤ (k : Int) := by omega
          obtain ⟨n1, hn1⟩ : ∃ n1, l.length = n1 + 1 := ⟨l.length - 1, by have := (unhide HE).1; omega⟩
          obtain ⟨i, hi⟩ : ∃ i, l[n1]? = some i := ⟨l[n1]'(by omega), List.getElem?_eq_getElem _⟩
          have h19 : i.op = 19 := ((unhide HE).2 n1 i hi).2 hn1.symm
          have c0 := (hbe.cell (p := ⟨b, _, none⟩) hb).trans (hc n1 i hi).1
          rw [h19] at c0
          have x0 := hblk.cell 0
          have hwn : IntKind.i64.wrap ((l.length : Int) - 1) = (n1 : Int) := by
            have h1 := unhide HSM
            rw [wrap_id _ (by omega) (by omega)]; omega
          have g2 : (n1 : Int) < (l.length : Int) := by omega
          have g3 : n1 < l.length := by omega
          have g4 : (0 : Int) < (l.length : Int) := by omega
          have g5 : 0 < l.length := by omega
          have H0 := hide hbe
          clear hbe hi hblk hc hn1 h19 hlt hk
          go_wp2_with fail
          go_ret
          exact ⟨rfl, unhide H0⟩
end Go.Proofs.YtiaelaepfhiabaaDoor.Co
