/-
  clewref11's Right, walked. Conditions: at most 1000 instructions; the program lies in memory; the sets' lower ends are ints.
-/
import Derived.Test.YtiaelaepfhiabaaDoorCoRBar
import Derived.Test.YtiaelaepfhiabaaDoorCoRLeast
import Derived.Test.YtiaelaepfhiabaaDoorCoRNamed
import Derived.Test.YtiaelaepfhiabaaDoorCoLawForwardWalk
set_option linter.unusedVariables false
set_option linter.unusedSimpArgs false
namespace Go.Proofs.YtiaelaepfhiabaaDoor.Co
open Go.RowKit Go.Proofs.YtiaelaepfhiabaaDoor.Mem Go.Proofs.YtiaelaepfhiabaaDoor.Rs
theorem neq_boolR (a b : Bool) (w : World) : Sem.run Tryd.prog (binOp .neq 4 (.bool a) (.bool b)) w = .ok (.bool (a != b)) w := by
  cases a <;> cases b <;> kernel_rfl
theorem eql_boolR (a b : Bool) (w : World) : Sem.run Tryd.prog (binOp .eql 4 (.bool a) (.bool b)) w = .ok (.bool (a == b)) w := by
  cases a <;> cases b <;> kernel_rfl
attribute [local go_sem] run_not_true run_not_false neq_boolR eql_boolR

theorem end_of {l : List In} (hpos : 0 < l.length) (h : ∀ a i, l[a]? = some i → (i.op = 19 ↔ a + 1 = l.length)) : endedB l = true := by
  obtain ⟨n, hn⟩ : ∃ n, l.length = n + 1 := ⟨l.length - 1, by omega⟩
  have hf : l.findIdx? (fun i => i.op == 19) = some n := by
    rw [List.findIdx?_eq_some_iff_getElem]
    refine ⟨by omega, by simpa using (h n _ (List.getElem?_eq_getElem (by omega))).2 hn.symm, fun j hj => ?_⟩
    have h1 := h j _ (List.getElem?_eq_getElem (by omega : j < l.length))
    simp only [Bool.not_eq_true, beq_eq_false_iff_ne]
    intro e
    have := h1.1 e
    omega
  have he : endIx l = (n : Int) := by unfold endIx; rw [hf]
  unfold endedB
  rw [he, hn]
  simp
theorem end_no {l : List In} {a : Nat} {i : In} (hi : l[a]? = some i) (h : ¬ (i.op = 19 ↔ a + 1 = l.length)) : endedB l = false := by
  cases he : endedB l
  · rfl
  · exact absurd ((end_iff he).2 a i hi) h
/-- the counts, as the reference asks -/
theorem rightC_iff (c : Cn) : rightC c = (withinB c.1 0 1000 && withinB c.2.2 0 1 && (c.2.1 == -1 || (withinB c.2.1 1 1000 && !decide (c.2.1 < c.1)))) := by
  obtain ⟨lo, hi, md⟩ := c
  rw [Bool.eq_iff_iff]
  simp only [rightC, withinB, Bool.and_eq_true, Bool.or_eq_true, decide_eq_true_eq, beq_iff_eq, Bool.not_eq_true', decide_eq_false_iff_not]
  omega
def RPost (l : List In) (ss : List (List R)) (kk : List Cn) (g : Int) (w : World) (e : Ending) (w' : World) : Prop := ∃ q, e = .returned (.bool q) ∧ (q = true ↔ RightP l ss kk g) ∧ Below w.heap.size w w'
theorem rpost_f {l : List In} {ss : List (List R)} {kk : List Cn} {g : Int} {w w' : World} (h : ¬ RightP l ss kk g) (hb : Below w.heap.size w w') : RPost l ss kk g w (.returned (.bool false)) w' := ⟨false, rfl, ⟨fun e => (by cases e), fun e => absurd e h⟩, hb⟩
theorem rbox4 {w w1 : World} {v1 v2 v3 v4 : Value} (hb : Below (w.alloc (.cells #[v1, v2, v3, v4] 33)).heap.size (w.alloc (.cells #[v1, v2, v3, v4] 33)) w1) :
    Blk w1 w.heap.size 33 #[v1, v2, v3, v4] := (Blk.new w 33 #[v1, v2, v3, v4]).below hb (by simp)
theorem named_no {g : Int} {ss : List (List R)} {kk : List Cn} {l : List In} (h : namedB g ss kk = false) : ¬ RightP l ss kk g := fun h2 => by rw [h2.1] at h; cases h
theorem formed_nn {g : Int} {ss : List (List R)} {kk : List Cn} {l : List In} (h : formedB l ss.length kk.length g = false) : ¬ RightP l ss kk g := fun h2 => by rw [h2.2.2.1] at h; cases h
theorem ended_nn {g : Int} {ss : List (List R)} {kk : List Cn} {l : List In} (h : endedB l = false) : ¬ RightP l ss kk g := fun h2 => by rw [h2.2.1] at h; cases h
set_option maxRecDepth 100000 in
set_option maxHeartbeats 8000000 in
/-- **the reference's Right**. -/
theorem rright_any (l : List In) (ss : List (List R)) (kk : List Cn) (As Al A : Option Addr) (c cs ck : Nat) (g : Int) (w : World) (hl : l.length ≤ 1000) (hsl : ss.length ≤ 1000) (hkl : kk.length ≤ 1000) (hint : ∀ s ∈ ss, ∀ r ∈ s, -9223372036854775808 ≤ r.1 ∧ r.1 ≤ 9223372036854775807) (h : Pv w w.heap.size l ss kk A As Al) :
    Calls Tryd.prog 8 #[.agg #[.slice A l.length c, .slice As ss.length cs, .slice Al kk.length ck, .int .i64 g]] w fun e w' => RPost l ss kk g w e w' := by
  have b0 : Below w.heap.size w (w.alloc (.cells #[.slice A l.length c, .slice As ss.length cs, .slice Al kk.length ck, .int .i64 g] 33)) := below_al (Below.refl _ _) (Nat.le_refl _) _
  have HP := hide h
  have HL := hide (And.intro hl (And.intro hsl hkl))
  have HN := hide hint
  have HB0 := hide (And.intro b0 (Blk.new w 33 #[.slice A l.length c, .slice As ss.length cs, .slice Al kk.length ck, .int .i64 g]))
  have hk4 : (kk.length : Int) ≤ 4096 := by omega
  clear h b0 hl hsl hkl hint
  by_cases h0 : l.length = 0
  · have HQ := hide (show ¬ RightP l ss kk g from fun h2 => by have := (end_iff h2.2.1).1; omega)
    have e0 : ((l.length : Int) == 0) = true := by simp [h0]
    have HH0 := hide h0
    clear h0
    go_enter Tryd.func8, Tryd.ntmps8
    go_wp2_with fail
    go_ret
    exact rpost_f (unhide HQ) (unhide HB0).1
  · have e0 : ((l.length : Int) == 0) = false := by rw [beq_eq_false_iff_ne]; omega
    have HPOS := hide (Nat.pos_of_ne_zero h0)
    clear h0
    go_enter Tryd.func8, Tryd.ntmps8
    go_wp2_with fail
    refine (rin_any g 0 99 _).mono ?_
    rintro e v1 ⟨rfl, rfl⟩
    cases qg : withinB g 0 99
    · have HQ := hide (named_no (l := l) (show namedB g ss kk = false by simp [namedB, qg]))
      clear qg
      go_wp2_with fail
      go_ret
      exact rpost_f (unhide HQ) (unhide HB0).1
    · have QG := hide qg
      clear qg
      go_wp2_with fail
      go_loopw [3] (fun i wr => ∃ k : Nat, i = .int .i64 (k : Int) ∧ k ≤ ss.length ∧ (∀ j < k, ∀ s, ss[j]? = some s → leastB s = true) ∧ Below w.heap.size w wr ∧ Blk wr w.heap.size 33 #[.slice A l.length c, .slice As ss.length cs, .slice Al kk.length ck, .int .i64 g]) (fun i _ => ss.length - (intOf i).toNat)
      case atStart => exact ⟨0, rfl, Nat.zero_le _, fun j h => absurd h (by omega), (unhide HB0).1, (unhide HB0).2⟩
      case round =>
        obtain ⟨k, rfl, hk, hno, hbe, hblk⟩ := hrel
        go_hideQ
        have x1 := hblk.cell 1
        by_cases hlt : k < ss.length
        · obtain ⟨s, hs⟩ : ∃ s, ss[k]? = some s := ⟨ss[k], List.getElem?_eq_getElem hlt⟩
          obtain ⟨b, off, rfl, hb, hc⟩ := (unhide HP).sts (by omega)
          obtain ⟨A', cap', c0, hls, hcap, hsl⟩ := hc k s hs
          replace c0 := (hbe.cell (p := ⟨b, _, none⟩) hb).trans c0
          have HLS := hide (refLeast_any s A' cap' wr hsl (fun r hr => (unhide HN) s (List.mem_of_getElem? hs) r hr) ((hls.below hbe).more hbe.size))
          have hltI : (k : Int) < (ss.length : Int) := by omega
          have H1 := hide (And.intro hno (And.intro hbe (And.intro hs hblk)))
          clear hno hbe hs hblk hls hcap hsl hc
          go_wp2_with fail
          refine (unhide HLS).mono ?_
          rintro e w1 ⟨rfl, hb1⟩
          have HB := hide (And.intro ((unhide H1).2.1.trans (hb1.mono (unhide H1).2.1.size)) ((unhide H1).2.2.2.below hb1 (unhide H1).2.2.2.lt))
          clear hb1 x1 c0
          cases q : decide (Least s)
          · have HQ := hide (named_no (l := l) (show namedB g ss kk = false by simp [namedB, all_no (p := leastB) (unhide H1).2.2.1 q]))
            clear q
            go_wp2_with fail
            go_ret
            exact rpost_f (unhide HQ) (unhide HB).1
          · have Q := hide q
            clear q
            go_wp2_with fail
            have hw := wrap64_id (j := k) (by have := (unhide HL).2.1; omega)
            refine ⟨⟨k + 1, by rw [hw], hlt, fun j hj t ht => ?_, (unhide HB).1, (unhide HB).2⟩, mea_n hlt hw⟩
            rcases Nat.lt_or_ge j k with h1 | h1
            · exact (unhide H1).1 j h1 t ht
            · obtain rfl : j = k := by omega
              rw [(unhide H1).2.2.1] at ht
              obtain rfl := Option.some.inj ht
              exact unhide Q
        · have hkn : (ss.length : Int) ≤ (k : Int) := by omega
          have hkn2 : decide (k < ss.length) = false := decide_eq_false hlt
          have HALL := hide (all_yes (kk := ss) (p := leastB) (fun j hj => hno j (by omega)))
          have HB := hide (And.intro hbe hblk)
          clear hno hbe hblk hlt hk
          go_wp2_with fail
          clear hkn
          go_loopw [4] (fun i wr => ∃ k : Nat, i = .int .i64 (k : Int) ∧ k ≤ kk.length ∧ (∀ j < k, ∀ s, kk[j]? = some s → rightC s = true) ∧ Below w.heap.size w wr ∧ Blk wr w.heap.size 33 #[.slice A l.length c, .slice As ss.length cs, .slice Al kk.length ck, .int .i64 g]) (fun i _ => kk.length - (intOf i).toNat)
          case atStart => exact ⟨0, rfl, Nat.zero_le _, fun j h => absurd h (by omega), (unhide HB).1, (unhide HB).2⟩
          case round =>
            obtain ⟨k, rfl, hk, hno, hbe, hblk⟩ := hrel
            clear x1
            go_hideQ
            have x2 := hblk.cell 2
            by_cases hlt : k < kk.length
            · obtain ⟨⟨lo, hi, md⟩, hs⟩ : ∃ s, kk[k]? = some s := ⟨kk[k], List.getElem?_eq_getElem hlt⟩
              obtain ⟨b, off, rfl, hb, hc⟩ := (unhide HP).cns (by omega)
              obtain ⟨c0, c1, c2⟩ := hc k _ hs
              dsimp only at c0 c1 c2
              replace c0 := (hbe.cell (p := ⟨b, _, none⟩) hb).trans c0
              replace c1 := (hbe.cell (p := ⟨b, _, none⟩) hb).trans c1
              replace c2 := (hbe.cell (p := ⟨b, _, none⟩) hb).trans c2
              have hltI : (k : Int) < (kk.length : Int) := by omega
              have hiff := rightC_iff (lo, hi, md)
              dsimp only at hiff
              have HIF := hide hiff
              have H1 := hide (And.intro hno (And.intro hbe (And.intro hs hblk)))
              have HNO := hide (show rightC (lo, hi, md) = false → ¬ RightP l ss kk g from fun hf => named_no (by simp [namedB, all_no (p := rightC) hs hf]))
              have HEND := hide (show rightC (lo, hi, md) = true → ∀ j < k + 1, ∀ s, kk[j]? = some s → rightC s = true from fun hr j hj t ht => by
                rcases Nat.lt_or_ge j k with h1 | h1
                · exact hno j h1 t ht
                · obtain rfl : j = k := by omega
                  rw [hs] at ht
                  obtain rfl := Option.some.inj ht
                  exact hr)
              clear hno hbe hs hblk hc hiff
              go_wp2_with fail
              refine (rin_any lo 0 1000 _).mono ?_
              rintro e v1 ⟨rfl, rfl⟩
              cases q1 : withinB lo 0 1000
              · have HQ := hide ((unhide HNO) (by rw [unhide HIF, q1]; rfl))
                clear q1
                go_wp2_with fail
                go_ret
                exact rpost_f (unhide HQ) (below_al (unhide H1).2.1 (unhide H1).2.1.size _)
              · have Q1 := hide q1
                clear q1
                go_wp2_with fail
                refine (rin_any md 0 1 _).mono ?_
                rintro e v1 ⟨rfl, rfl⟩
                cases q2 : withinB md 0 1
                · have HQ := hide ((unhide HNO) (by rw [unhide HIF, q2]; simp))
                  clear q2
                  go_wp2_with fail
                  go_ret
                  exact rpost_f (unhide HQ) (below_al (unhide H1).2.1 (unhide H1).2.1.size _)
                · have Q2 := hide q2
                  clear q2
                  have hx : (hi != -1) = true ∨ (hi != -1) = false := by cases (hi != -1) <;> simp
                  rcases hx with hx | hx
                  · have HX := hide (show (hi == -1) = false by simpa using hx)
                    go_wp2_with fail
                    refine (rin_any hi 1 1000 _).mono ?_
                    rintro e v1 ⟨rfl, rfl⟩
                    cases q3 : withinB hi 1 1000
                    · have HQ := hide ((unhide HNO) (by rw [unhide HIF, q3, unhide HX]; simp))
                      clear q3
                      go_wp2_with fail
                      go_ret
                      exact rpost_f (unhide HQ) (below_al (unhide H1).2.1 (unhide H1).2.1.size _)
                    · have Q3 := hide q3
                      clear q3
                      by_cases hlh : hi < lo
                      · have HQ := hide ((unhide HNO) (by rw [unhide HIF, unhide HX]; simp [hlh]))
                        have d1 : decide (hi < lo) = true := decide_eq_true hlh
                        clear hlh
                        go_wp2_with fail
                        go_ret
                        exact rpost_f (unhide HQ) (below_al (unhide H1).2.1 (unhide H1).2.1.size _)
                      · have HQ := hide ((unhide HEND) (by rw [unhide HIF, unhide Q1, unhide Q2, unhide Q3, unhide HX]; simp [hlh]))
                        have d1 : decide (hi < lo) = false := decide_eq_false hlh
                        have d2 : lo ≤ hi := by omega
                        clear hlh
                        go_wp2_with fail
                        have hw := wrap64_id (j := k) (by have := (unhide HL).2.2; omega)
                        go_roundw
                        case rel => exact ⟨k + 1, by first | rfl | rw [hw] | go_num, hlt, unhide HQ, below_al (unhide H1).2.1 (unhide H1).2.1.size _, (unhide H1).2.2.2.alloc _⟩
                        case measure => first | exact mea_n hlt hw | (simp only [intOf]; omega)
                  · have HX := hide (show (hi == -1) = true by simpa using hx)
                    have HQ := hide ((unhide HEND) (by rw [unhide HIF, unhide Q1, unhide Q2, unhide HX]; rfl))
                    go_wp2_with fail
                    have hw := wrap64_id (j := k) (by have := (unhide HL).2.2; omega)
                    go_roundw
                    case rel => exact ⟨k + 1, by first | rfl | rw [hw] | go_num, hlt, unhide HQ, below_al (unhide H1).2.1 (unhide H1).2.1.size _, (unhide H1).2.2.2.alloc _⟩
                    case measure => first | exact mea_n hlt hw | (simp only [intOf]; omega)
            · have hkn : (kk.length : Int) ≤ (k : Int) := by omega
              have hkn2 : decide (k < kk.length) = false := decide_eq_false hlt
              have HALC := hide (all_yes (kk := kk) (p := rightC) (fun j hj => hno j (by omega)))
              have HBC := hide (And.intro hbe hblk)
              clear hno hbe hblk hlt hk
              go_wp2_with fail
              clear hkn
              go_loopw [6] (fun i wr => ∃ k : Nat, i = .int .i64 (k : Int) ∧ k ≤ l.length ∧ (∀ j < k, ∀ i, l[j]? = some i → formB l ss.length kk.length g j i = true ∧ (i.op = 19 ↔ j + 1 = l.length)) ∧ Below w.heap.size w wr ∧ Blk wr w.heap.size 33 #[.slice A l.length c, .slice As ss.length cs, .slice Al kk.length ck, .int .i64 g]) (fun i _ => l.length - (intOf i).toNat)
              case atStart => exact ⟨0, rfl, Nat.zero_le _, fun j h => absurd h (by omega), (unhide HBC).1, (unhide HBC).2⟩
              case round =>
                obtain ⟨k, rfl, hk, hno, hbe, hblk⟩ := hrel
                clear x2
                go_hideQ
                obtain ⟨y0, y1, y2, y3⟩ := (⟨hblk.cell 0, hblk.cell 1, hblk.cell 2, hblk.cell 3⟩ : wr.cell? ⟨w.heap.size, 0, none⟩ = some (.slice A l.length c) ∧ wr.cell? ⟨w.heap.size, 1, none⟩ = some (.slice As ss.length cs) ∧ wr.cell? ⟨w.heap.size, 2, none⟩ = some (.slice Al kk.length ck) ∧ wr.cell? ⟨w.heap.size, 3, none⟩ = some (.int .i64 g))
                by_cases hlt : k < l.length
                · obtain ⟨⟨op, x, y, z, nd, ph⟩, hs⟩ : ∃ s, l[k]? = some s := ⟨l[k], List.getElem?_eq_getElem hlt⟩
                  have HNMF := hide (fun (h1 : 1 ≤ op) (h2 : op ≤ 19) => rnamed_any l As Al A c ss.length cs kk.length ck g k (wr.alloc (.cells #[.int .i64 op, .int .i64 x, .int .i64 y, .int .i64 z, .int .i64 nd, .int .i64 ph] 48)) ⟨op, x, y, z, nd, ph⟩ hs h1 h2 (by have := (unhide HL).1; omega) (unhide HP).hs (unhide HP).hk (((unhide HP).ins.below (below_al hbe hbe.size _)).more (by have := hbe.size; simp; omega)))
                  obtain ⟨b, off, rfl, hb, hc⟩ := (unhide HP).ins (by omega)
                  obtain ⟨c0, c1, c2, c3, c4, c5⟩ := hc k _ hs
                  dsimp only at c0 c1 c2 c3 c4 c5
                  replace c0 := (hbe.cell (p := ⟨b, _, none⟩) hb).trans c0
                  replace c1 := (hbe.cell (p := ⟨b, _, none⟩) hb).trans c1
                  replace c2 := (hbe.cell (p := ⟨b, _, none⟩) hb).trans c2
                  replace c3 := (hbe.cell (p := ⟨b, _, none⟩) hb).trans c3
                  replace c4 := (hbe.cell (p := ⟨b, _, none⟩) hb).trans c4
                  replace c5 := (hbe.cell (p := ⟨b, _, none⟩) hb).trans c5
                  have hltI : (k : Int) < (l.length : Int) := by omega
                  obtain ⟨n1, hn1⟩ : ∃ n1, l.length = n1 + 1 := ⟨l.length - 1, by omega⟩
                  have hwn : IntKind.i64.wrap ((l.length : Int) - 1) = (n1 : Int) := by rw [wrap_id _ (by omega) (by have := (unhide HL).1; omega)]; omega
                  have HN1 := hide hn1
                  have z0 := (hblk.alloc (.cells #[.int .i64 op, .int .i64 x, .int .i64 y, .int .i64 z, .int .i64 nd, .int .i64 ph] 48)).cell 0
                  have z1 := (hblk.alloc (.cells #[.int .i64 op, .int .i64 x, .int .i64 y, .int .i64 z, .int .i64 nd, .int .i64 ph] 48)).cell 1
                  have z2 := (hblk.alloc (.cells #[.int .i64 op, .int .i64 x, .int .i64 y, .int .i64 z, .int .i64 nd, .int .i64 ph] 48)).cell 2
                  have z3 := (hblk.alloc (.cells #[.int .i64 op, .int .i64 x, .int .i64 y, .int .i64 z, .int .i64 nd, .int .i64 ph] 48)).cell 3
                  have H1 := hide (And.intro hno (And.intro hbe (And.intro hs hblk)))
                  have HNO := hide (show formB l ss.length kk.length g k ⟨op, x, y, z, nd, ph⟩ = false → ¬ RightP l ss kk g from fun hf => formed_nn (formed_no hs hf))
                  have HEN := hide (show ¬ (op = 19 ↔ k + 1 = l.length) → ¬ RightP l ss kk g from fun hf => ended_nn (end_no hs hf))
                  clear hn1 hno hbe hs hblk hc
                  cases q1 : withinB op 1 19
                  · have HQ := hide ((unhide HNO) (by simp [formB, q1]))
                    have Q1 := hide q1
                    clear q1
                    go_wp2_with fail
                    refine (rin_any op 1 19 _).mono ?_
                    rintro e v1 ⟨rfl, rfl⟩
                    rw [unhide Q1]
                    go_wp2_with fail
                    go_ret
                    exact rpost_f (unhide HQ) (below_al (unhide H1).2.1 (unhide H1).2.1.size _)
                  have HNM := hide ((unhide HNMF) (by simp [withinB] at q1; omega) (by simp [withinB] at q1; omega))
                  have Q1 := hide q1
                  clear q1
                  by_cases hm : (op = 19 ↔ k + 1 = l.length)
                  · have HEND := hide (show formB l ss.length kk.length g k ⟨op, x, y, z, nd, ph⟩ = true → ∀ j < k + 1, ∀ i, l[j]? = some i → formB l ss.length kk.length g j i = true ∧ (i.op = 19 ↔ j + 1 = l.length) from fun hr j hj t ht => by
                      rcases Nat.lt_or_ge j k with h1 | h1
                      · exact (unhide H1).1 j h1 t ht
                      · obtain rfl : j = k := by omega
                        rw [(unhide H1).2.2.1] at ht
                        obtain rfl := Option.some.inj ht
                        exact ⟨hr, hm⟩)
                    have hbb : ((op == 19) = true ∧ ((k : Int) == (n1 : Int)) = true) ∨ ((op == 19) = false ∧ ((k : Int) == (n1 : Int)) = false) := by
                      have h1 := unhide HN1
                      by_cases e : op = 19
                      · exact .inl ⟨by simp [e], by have := hm.1 e; simp; omega⟩
                      · exact .inr ⟨by simp [e], by rw [beq_eq_false_iff_ne]; intro e2; exact e (hm.2 (by omega))⟩
                    clear hm
                    rcases hbb with ⟨e1, e2⟩ | ⟨e1, e2⟩
                    · skip
                      go_wp2_with fail
                      refine (rin_any op 1 19 _).mono ?_
                      rintro e v1 ⟨rfl, rfl⟩
                      rw [unhide Q1]
                      go_wp2_with fail
                      refine (rin_any nd 0 16384 _).mono ?_
                      rintro e v1 ⟨rfl, rfl⟩
                      cases q2 : withinB nd 0 16384
                      · have HQ := hide ((unhide HNO) (by simp [formB, q2]))
                        clear q2
                        go_wp2_with fail
                        go_ret
                        exact rpost_f (unhide HQ) (below_al (unhide H1).2.1 (unhide H1).2.1.size _)
                      · have Q2 := hide q2
                        clear q2
                        go_wp2_with fail
                        refine (rin_any ph 0 16384 _).mono ?_
                        rintro e v1 ⟨rfl, rfl⟩
                        cases q3 : withinB ph 0 16384
                        · have HQ := hide ((unhide HNO) (by simp [formB, q3]))
                          clear q3
                          go_wp2_with fail
                          go_ret
                          exact rpost_f (unhide HQ) (below_al (unhide H1).2.1 (unhide H1).2.1.size _)
                        · have Q3 := hide q3
                          clear q3
                          go_wp2_with fail
                          refine (unhide HNM).mono ?_
                          rintro e w5 ⟨rfl, hb5⟩
                          have HB5 := hide (And.intro ((below_al (unhide H1).2.1 (unhide H1).2.1.size _).trans (hb5.mono (by have := (unhide H1).2.1.size; simp; omega))) (((unhide H1).2.2.2.alloc _).below hb5 (by have := (unhide H1).2.2.2.lt; simp; omega)))
                          clear hb5
                          cases q4 : fitsB l ss.length kk.length g k ⟨op, x, y, z, nd, ph⟩
                          · have HQ := hide ((unhide HNO) (by simp [formB, q4]))
                            clear q4
                            go_wp2_with fail
                            go_ret
                            exact rpost_f (unhide HQ) (unhide HB5).1
                          · have Q4 := hide q4
                            clear q4
                            go_wp2_with fail
                            have hw := wrap64_id (j := k) (by have := (unhide HL).1; omega)
                            go_roundw
                            case rel => exact ⟨k + 1, by first | rfl | rw [hw] | go_num, hlt, (unhide HEND) (by simp [formB, unhide Q1, unhide Q2, unhide Q3, unhide Q4]), (unhide HB5).1, (unhide HB5).2⟩
                            case measure => first | exact mea_n hlt hw | (simp only [intOf]; omega)
                    · skip
                      go_wp2_with fail
                      refine (rin_any op 1 19 _).mono ?_
                      rintro e v1 ⟨rfl, rfl⟩
                      rw [unhide Q1]
                      go_wp2_with fail
                      refine (rin_any nd 0 16384 _).mono ?_
                      rintro e v1 ⟨rfl, rfl⟩
                      cases q2 : withinB nd 0 16384
                      · have HQ := hide ((unhide HNO) (by simp [formB, q2]))
                        clear q2
                        go_wp2_with fail
                        go_ret
                        exact rpost_f (unhide HQ) (below_al (unhide H1).2.1 (unhide H1).2.1.size _)
                      · have Q2 := hide q2
                        clear q2
                        go_wp2_with fail
                        refine (rin_any ph 0 16384 _).mono ?_
                        rintro e v1 ⟨rfl, rfl⟩
                        cases q3 : withinB ph 0 16384
                        · have HQ := hide ((unhide HNO) (by simp [formB, q3]))
                          clear q3
                          go_wp2_with fail
                          go_ret
                          exact rpost_f (unhide HQ) (below_al (unhide H1).2.1 (unhide H1).2.1.size _)
                        · have Q3 := hide q3
                          clear q3
                          go_wp2_with fail
                          refine (unhide HNM).mono ?_
                          rintro e w5 ⟨rfl, hb5⟩
                          have HB5 := hide (And.intro ((below_al (unhide H1).2.1 (unhide H1).2.1.size _).trans (hb5.mono (by have := (unhide H1).2.1.size; simp; omega))) (((unhide H1).2.2.2.alloc _).below hb5 (by have := (unhide H1).2.2.2.lt; simp; omega)))
                          clear hb5
                          cases q4 : fitsB l ss.length kk.length g k ⟨op, x, y, z, nd, ph⟩
                          · have HQ := hide ((unhide HNO) (by simp [formB, q4]))
                            clear q4
                            go_wp2_with fail
                            go_ret
                            exact rpost_f (unhide HQ) (unhide HB5).1
                          · have Q4 := hide q4
                            clear q4
                            go_wp2_with fail
                            have hw := wrap64_id (j := k) (by have := (unhide HL).1; omega)
                            go_roundw
                            case rel => exact ⟨k + 1, by first | rfl | rw [hw] | go_num, hlt, (unhide HEND) (by simp [formB, unhide Q1, unhide Q2, unhide Q3, unhide Q4]), (unhide HB5).1, (unhide HB5).2⟩
                            case measure => first | exact mea_n hlt hw | (simp only [intOf]; omega)
                  · have HQ := hide ((unhide HEN) hm)
                    have hbb : ((op == 19) = true ∧ ((k : Int) == (n1 : Int)) = false) ∨ ((op == 19) = false ∧ ((k : Int) == (n1 : Int)) = true) := by
                      have h1 := unhide HN1
                      by_cases e : op = 19
                      · exact .inl ⟨by simp [e], by rw [beq_eq_false_iff_ne]; intro e2; exact hm ⟨fun _ => by omega, fun _ => e⟩⟩
                      · refine .inr ⟨by simp [e], ?_⟩
                        have : ¬ ((k : Int) == (n1 : Int)) = false := fun h2 => by
                          rw [beq_eq_false_iff_ne] at h2
                          exact hm ⟨fun e3 => absurd e3 e, fun e3 => absurd (by omega) h2⟩
                        simpa using this
                    clear hm
                    rcases hbb with ⟨e1, e2⟩ | ⟨e1, e2⟩
                    all_goals
                      go_wp2_with fail
                      refine (rin_any op 1 19 _).mono ?_
                      rintro e v1 ⟨rfl, rfl⟩
                      rw [unhide Q1]
                      go_wp2_with fail
                      go_ret
                      exact rpost_f (unhide HQ) (below_al (unhide H1).2.1 (unhide H1).2.1.size _)
                · have hkn : (l.length : Int) ≤ (k : Int) := by omega
                  have HF := hide (formed_yes (l := l) (ns := ss.length) (nk := kk.length) (g := g) (fun j hj i hi => (hno j (by omega) i hi).1))
                  have HEE := hide (end_of (l := l) (unhide HPOS) (fun a i hi => (hno a (by have := (List.getElem?_eq_some_iff.1 hi).1; omega) i hi).2))
                  have HNN := hide (show namedB g ss kk = true by simp [namedB, unhide QG, unhide HALL, unhide HALC]; have := (unhide HL).2.2; omega)
                  have HBE := hide hbe
                  have HBR := hide (barred_any l As Al A c ss.length cs kk.length ck g wr (unhide HL).1 (unhide HPOS) (wf_of (unhide HEE) (unhide HF)) (fun a i hi => ⟨okX_of (unhide HF) hi, by have := form_at (unhide HF) hi; simp [formB, withinB] at this; omega⟩) (((unhide HP).ins.below hbe).more hbe.size))
                  clear hno hbe hblk hlt hk
                  go_wp2_with fail
                  refine (unhide HBR).mono ?_
                  rintro e w5 ⟨q, rfl, hq, hb5⟩
                  have HB5 := hide ((unhide HBE).trans (hb5.mono (unhide HBE).size))
                  have HQ := hide hq
                  clear hq hb5
                  go_wp2_with fail
                  go_ret
                  exact ⟨q, rfl, ⟨fun h => ⟨unhide HNN, unhide HEE, unhide HF, (unhide HQ).1 h⟩, fun h => (unhide HQ).2 h.2.2.2⟩, unhide HB5⟩
end Go.Proofs.YtiaelaepfhiabaaDoor.Co
