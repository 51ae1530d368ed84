/-
  The program's class, walked: a name's set; a letter's; a dot's; a word's; the names.
-/
import Derived.Test.YtdeaaidbmneplaaDoorMClFind
import Derived.Test.YtdeaaidbmneplaaDoorMClSeq
import Derived.Test.YtdeaaidbmneplaaDoorMRsHas
import Derived.Shelf.SlicesQ.Equal
import Derived.Ground.SlgqProg
import Derived.Laws.StructEq
set_option linter.unusedSimpArgs false
set_option linter.unusedVariables false
namespace Go.Proofs.YtdeaaidbmneplaaDoor.Cl
open Go.RowKit Go.Shelf Go.Proofs.YtdeaaidbmneplaaDoor.Mem Go.Proofs.YtdeaaidbmneplaaDoor.Rs
attribute [local go_sem] Oper.semAt_some
def hitL (l : List R) (x : Int) : Bool := l.any fun r => decide (r.1 ≤ x) && decide (x ≤ r.2)
def WInv (x : Int) (w2 : World) (pre : List R) (W : World) : Prop := Below w2.heap.size w2 W ∧ hitL pre x = false
def WEx (l : List R) (x : Int) (w : World) (c : Code) (pre : List R) (W : World) : Prop := (Boxed W (w.heap.size + 1) 4 (.bool true) ∧ Below w.heap.size w W) ∧ (c = .ret ∧ hitL pre x = true)
theorem winv_own (x : Int) (w : World) (C : Nat) (hC : w.heap.size ≤ C) : OwnFrom C (WInv x w) := OwnFrom.and (ownFrom_below (Nat.le_refl _) hC) (ownFrom_pure _ _)
theorem wex_own (l : List R) (x : Int) (w : World) (c : Code) (C : Nat) (hC : w.heap.size ≤ C) : OwnFrom C (WEx l x w c) :=
  OwnFrom.and (OwnFrom.and (Own.from (boxed_own _ _ _) _) (ownFrom_below (Nat.le_refl _) hC)) (ownFrom_pure _ _)
theorem hitL_app (a b : List R) (x : Int) : hitL (a ++ b) x = (hitL a x || hitL b x) := by simp [hitL]
theorem hitL_pre {l pre : List R} {x : Int} (h : pre <+: l) (hp : hitL pre x = true) : hitL l x = true := by
  obtain ⟨b, rfl⟩ := h
  rw [hitL_app, hp, Bool.true_or]
theorem hit_has (x : Int) : ∀ {l : List R}, Byt l → hitL l x = hasL l x
  | [], _ => rfl
  | r :: l, h => by
    have ih := hit_has x (l := l) fun r hr => h r (List.mem_cons_of_mem _ hr)
    have hr := h r (by simp)
    rw [hasL_cons, ← ih]
    show ((decide (r.1 ≤ x) && decide (x ≤ r.2)) || hitL l x) = _
    congr 1
    unfold inR
    rw [Bool.eq_iff_iff]
    simp
    omega
def WSlots (w w1 : World) (x : Int) (es : List UInt8) (q : Bool) (r : R) (p : Nat) : Act :=
  { tmps := #[.int .i64 x, .pointer (some ⟨w.heap.size, 0, none⟩), .pointer (some ⟨w.heap.size + 1, 0, none⟩), str es, .bool q, .pointer (some ⟨p, 0, none⟩), .tuple #[str es, .bool q], .tuple #[str es, .bool q], str es, .bool q, str es, .func (.func 57) #[] #[.pointer (some ⟨w1.heap.size, 0, none⟩)], .agg #[.int .i64 r.1, .int .i64 r.2], undef, undef, undef, undef, undef, undef, undef, undef, undef, undef], defers := [] }
def WAx (w w1 : World) (x : Int) (es : List UInt8) (q : Bool) (r : R) (a : Act) (W : World) : Prop := ∃ p, a = WSlots w w1 x es q r p ∧ Blk W p 44 #[.int .i64 r.1, .int .i64 r.2]
theorem wax_own (w w1 : World) (x : Int) (es : List UInt8) (q : Bool) (C : Nat) (r : R) (a : Act) : OwnFrom C (fun (_ : Unit) W => WAx w w1 x es q r a W) := fun s X Y row hs hg hr => by
  obtain ⟨p, e, hb⟩ := hs
  exact ⟨p, e, blk_own p _ _ C s X Y row hb hg hr⟩
set_option maxRecDepth 100000 in
set_option maxHeartbeats 2000000 in
theorem word_any (x : Int) (w : World) (hT : Tb w) : Calls Tryd.prog 36 #[.int .i64 x] w fun e w' => e = .returned (.bool (hasL (nameL [119, 111, 114, 100]) x)) ∧ Below w.heap.size w w' := by
  refine (callsIn_wide (n := 3)).1 ?_
  have hb0 : Below w.heap.size w ((w.alloc (.cells #[.int .i64 x] 3)).alloc (.cells #[.bool false] 4)) := ((Below.refl _ _).alloc (Nat.le_refl _) _).alloc (by simp) _
  have C := hide (find_word ((w.alloc (.cells #[.int .i64 x] 3)).alloc (.cells #[.bool false] 4)) (hT.below hb0))
  have HB0 := hide hb0
  clear hT hb0
  have h4 := (nameL_len [119, 111, 114, 100]).1
  have HE := hide (endsOf_ends (nameL [119, 111, 114, 100]) (nameL_byt _))
  unfold GivesF at C
  generalize nameL [119, 111, 114, 100] = l at C h4 HE ⊢
  generalize isName [119, 111, 114, 100] = q at C
  obtain ⟨es, hes⟩ : ∃ es, endsOf l = es := ⟨_, rfl⟩
  rw [hes] at C HE
  clear hes
  refine callsIn_of_wp_marks Tryd.func36 rfl trivial ?_ rfl
  simp only [Tryd.ntmps36, List.size_toArray, List.length_cons, List.length_nil, Nat.reduceAdd, Nat.reduceSub, Array.replicate_succ, Array.replicate_zero, List.push_toArray, List.append_toArray, List.nil_append, List.cons_append]
  gi_wp2_with fail
  refine ⟨trivial, ?_⟩
  refine (callsIn_wide.2 (unhide C)).mono ?_
  rintro e w1 ⟨rfl, hb⟩
  have b1 : Boxed w1 w.heap.size 3 (.int .i64 x) := (hb.block _ (by simp; omega)).trans ((Boxed.new w 3 (.int .i64 x)).alloc _)
  have b2 : Boxed w1 (w.heap.size + 1) 4 (.bool false) := (hb.block _ (by simp)).trans (by have := Boxed.new (w.alloc (.cells #[.int .i64 x] 3)) 4 (.bool false); rwa [World.size_alloc] at this)
  have HB1 := hide ((unhide HB0).trans (hb.mono (unhide HB0).size))
  have hz := hb.size
  simp only [World.size_alloc] at hz
  have B1 := hide b1
  have B2 := hide b2
  clear C hb b1 b2 HB0
  gi_wp2_with fail
  refine ⟨trivial, ?_⟩
  refine (callsIn_wide.2 (ranges_any _ w1)).mono ?_
  rintro e w2 ⟨rfl, rfl⟩
  gi_wp2_with fail
  have hbs := Boxed.new w1 9 (.string ⟨es.toArray⟩)
  have hB2 : Below w.heap.size w (w1.alloc (.cells #[.string ⟨es.toArray⟩] 9)) := (unhide HB1).alloc (unhide HB1).size _
  have hKlt : ∀ k, k < w1.heap.size + 1 → k < (w1.alloc (.cells #[.string ⟨es.toArray⟩] 9)).heap.size := fun k hk => by simp; omega
  have b1 := (unhide B1).alloc (.cells #[.string ⟨es.toArray⟩] 9)
  have b2 := (unhide B2).alloc (.cells #[.string ⟨es.toArray⟩] 9)
  have hz3 : (w1.alloc (.cells #[.string ⟨es.toArray⟩] 9)).heap.size = w1.heap.size + 1 := by simp
  have hz4 := (unhide HB1).size
  have HW := hide (show w1.alloc (.cells #[.string ⟨es.toArray⟩] 9) = w1.alloc (.cells #[.string ⟨es.toArray⟩] 9) from rfl)
  clear B1 B2
  generalize hw2 : w1.alloc (.cells #[.string ⟨es.toArray⟩] 9) = w2 at *
  refine wpIn_rangeFunc_ownH rfl (by omega) (gf := 57) (lb := #[.pointer (some ⟨w1.heap.size, 0, none⟩)]) rfl trivial (enters_of Tryd.func57 (by kernel_rfl) rfl)
    (ranges_stops (3 - 1) (by omega) w1.heap.size _ l (unhide HE) (by omega) (fun k => k < w1.heap.size + 1) (by omega) _ hKlt hbs) keeps_t (keeps_b hKlt) (Below.refl _ _) (fun _ => rfl)
    (WInv x w2)
    (WEx l x w)
    (winv_own x w2 _ (Nat.le_refl _))
    (fun c => wex_own l x w c _ (by omega))
    ⟨Below.refl _ _, rfl⟩
    (WAx w w1 x es q) (fun r a' => wax_own w w1 x es q _ r a') ?assign ?body ?done ?stop
  case assign =>
    intro lp pre r W K hI hK
    have hz2 := hI.1.size
    have hk := hide (hK (WSlots w w1 x es q r W.heap.size) (W.alloc (.cells #[.int .i64 r.1, .int .i64 r.2] 44)) ((KeepsOthers.alloc _ _).from _) ⟨fun k hk => Below.heap_alloc _ _ k (by omega), by simp⟩
      ((winv_own x w2 w2.heap.size (Nat.le_refl _)).alloc _ hI) ⟨_, rfl, Blk.new _ _ _⟩)
    clear hK hI
    gi_wp2
    exact unhide hk
  case body =>
    rintro lp pre r a' W _ _ ⟨hB, hno⟩ ⟨p, rfl, hblk⟩ hlt
    have c1 : Boxed W w.heap.size 3 (.int .i64 x) := (hB.block _ (by omega)).trans b1
    have c2 : Boxed W (w.heap.size + 1) 4 (.bool false) := (hB.block _ (by omega)).trans b2
    have hc1 := c1.cell
    have hc2 := c2.cell
    have hf2 := c2.frozen
    have d0 := hblk.cell 0
    have d1 := hblk.cell 1
    have hn1 := hide (show ∀ b, (decide (r.1 ≤ x) && decide (x ≤ r.2)) = b → hitL (pre ++ [r]) x = b from fun b hb => by rw [hitL_app, hno]; simpa [hitL] using hb)
    have hwB := hide ((hB2.trans (hB.mono (by omega))).setCell (p := ⟨w.heap.size + 1, 0, none⟩) (Nat.le_succ _) (.bool true))
    have hx2 := hide (c2.set (.bool true))
    have HBW := hide hB
    obtain ⟨lo, hi⟩ := r
    unfold WSlots
    clear hno hblk hB c1 c2
    by_cases h1 : lo ≤ x
    · by_cases h2 : x ≤ hi
      · have d2 : decide (lo ≤ x) = true := by simpa using h1
        have d3 : decide (x ≤ hi) = true := by simpa using h2
        have hN := hide ((unhide hn1) true (by simp [h1, h2]))
        clear h1 h2
        gi_wp2
        exact ⟨(KeepsOthers.setCell _ _ _).from _, ⟨unhide hx2, unhide hwB⟩, rfl, unhide hN⟩
      · have d2 : decide (lo ≤ x) = true := by simpa using h1
        have d3 : decide (x ≤ hi) = false := by simpa using h2
        have hN := hide ((unhide hn1) false (by simp; omega))
        clear h1 h2
        gi_wp2
        exact ⟨KeepsFrom.refl _ _, ⟨Stays.refl _ _, Nat.le_refl _⟩, unhide HBW, unhide hN⟩
    · have d2 : decide (lo ≤ x) = false := by simpa using h1
      have hN := hide ((unhide hn1) false (by simp; omega))
      clear h1
      gi_wp2
      exact ⟨KeepsFrom.refl _ _, ⟨Stays.refl _ _, Nat.le_refl _⟩, unhide HBW, unhide hN⟩
  case done =>
    rintro D ys W hD rfl ⟨hB, hno⟩ hK
    have c2 : Boxed W (w.heap.size + 1) 4 (.bool false) := (hB.block _ (by omega)).trans b2
    have hf2 := c2.frozen
    have hc2 := c2.cell
    have hB4 : Below w.heap.size w (W.setCell ⟨w.heap.size + 1, 0, none⟩ (.bool false)) := (hB2.trans (hB.mono (by omega))).setCell (p := ⟨w.heap.size + 1, 0, none⟩) (Nat.le_succ _) _
    have hK' := (KeepsOthers.setCell W ⟨w.heap.size + 1, 0, none⟩ (.bool false)).same D _ hK rfl
    have hc5 := cell_kept (World.cell?_setCell_same' W ⟨w.heap.size + 1, 0, none⟩ (.bool false) (by rw [hc2]; rfl)) (grownBy_putObj' _ D (.deferred none)) (fun r e => by cases e; exact ⟨_, hK', rfl⟩)
    have HD := hide hD
    have HB4 := hide hB4
    have HK' := hide hK'
    have HC5 := hide hc5
    have HNO := hide ((hit_has x (unhide HE).byt).symm.trans hno)
    clear hD hB4 hK' hc5 hK hB hno c2
    gi_wp2
    refine ⟨by simp, .inl ⟨_, _, rfl, run_takeDeferred (unhide HK'), ?_⟩⟩
    have hc5 := unhide HC5
    refine ⟨.bool false, ?_, by rw [unhide HNO], (unhide HB4).trans (belowK_b (w := w) (Nat.le_refl _) _ D _ _ (by have := unhide HD; omega) (unhide HK') rfl rfl)⟩
    simp [results, Tryd.f36, go_sem, hc5]
  case stop =>
    rintro D c pre W hD hpre ⟨⟨c2, hB4⟩, rfl, hyes⟩ hK
    have hc5 := cell_kept c2.cell (grownBy_putObj' W D (.deferred none)) (fun r e => by cases e; exact ⟨_, hK, rfl⟩)
    have HD := hide hD
    have HB4 := hide hB4
    have HK' := hide hK
    have HC5 := hide hc5
    have HNO := hide ((hit_has x (unhide HE).byt).symm.trans (hitL_pre hpre hyes))
    clear hD hB4 hc5 hK hyes c2
    gi_wp2
    refine ⟨by simp, .inl ⟨_, _, rfl, run_takeDeferred (unhide HK'), ?_⟩⟩
    have hc5 := unhide HC5
    refine ⟨.bool true, ?_, by rw [unhide HNO], (unhide HB4).trans (belowK_b (w := w) (Nat.le_refl _) _ D _ _ (by have := unhide HD; omega) (unhide HK') rfl rfl)⟩
    simp [results, Tryd.f36, go_sem, hc5]
end Go.Proofs.YtdeaaidbmneplaaDoor.Cl
