/-
  fold.Orbit, Fold, Same, walked: a number's orbit, rising; the least of it; whether two are one. Conditions: the table's variable holds the rows that the program's text lays.
-/
import Derived.Test.YtefjhdllcjjlpaaDoorFoProg
set_option linter.unusedVariables false
set_option linter.unusedSimpArgs false
namespace Go.Proofs.YtefjhdllcjjlpaaDoor.Fo
open Go.RowKit Go.Shelf Go.Proofs.YtefjhdllcjjlpaaDoor.Mem

attribute [local go_sem] Oper.semAt_some

theorem orb_of_perm (x : Int) (h0 : 0 ≤ x) (h1 : x ≤ 1114367) {l : List Int} (hp : l.Perm (withP x :: upsP (withP x) U)) (hs : l.Pairwise (· ≤ ·)) : l = orb x := orb_unique (orbit_low x h0 h1 hp hs)
theorem orb_three (x : Int) : (orb x).length ≤ 3 := by
  by_cases h : 0 ≤ x ∧ x ≤ 1114367
  · have e := orb_of_perm x h.1 h.2 (l := (withP x :: upsP (withP x) U).mergeSort (fun a b => decide (a ≤ b))) (List.mergeSort_perm _ _) (by
      have hs := List.pairwise_mergeSort (le := fun a b : Int => decide (a ≤ b)) (fun a b c h1 h2 => by simp at h1 h2 ⊢; omega) (fun a b => by simp; omega) (withP x :: upsP (withP x) U)
      exact hs.imp fun h => by simpa using h)
    rw [← e, List.length_mergeSort]
    have := (ups_two (withP x)).1
    simp only [List.length_cons]
    omega
  · rw [(foldZ_out h).1]; simp
theorem one_row (w : World) (z : Int) : (w.alloc (.cells #[.int .i64 z] 3)).ownsRow w.heap.size 3 1 (.slice (some ⟨w.heap.size, 0, none⟩) 1 1) 1 [.int .i64 z] :=
  ⟨rfl, .inr ⟨w.heap.size, 1, #[.int .i64 z], rfl, Nat.le_refl _, World.alloc_heap_new w _, Nat.le_refl _, by unfold maxLen; omega, rfl, rfl⟩⟩

set_option maxHeartbeats 2000000 in
theorem porbit_in (x : Int) (w : World) {b off cap : Nat} (hT : Tab b off cap w) (h0 : 0 ≤ x) (h1 : x ≤ 1114367) :
    Calls Tryd.prog 8 #[.int .i64 x] w fun e w' => ∃ v, e = .returned v ∧ CutI w (orb x) v w' := by
  have HT := hide hT
  clear hT
  go_enter Tryd.func8, Tryd.ntmps8
  go_wp2_with fail
  refine (lower_any x w (unhide HT)).mono ?_
  rintro e w1 ⟨rfl, hB1⟩
  have hbd := withP_bound x h0 h1
  have HO := hide (fun l hp hs => orb_of_perm x h0 h1 (l := l) hp hs)
  have HB1 := hide hB1
  have HT1 := hide ((unhide HT).below hB1 (Nat.le_refl _))
  clear hB1 HT
  generalize withP x = low at *
  go_wp2_with fail
  refine (uppers_any low _).mono ?_
  rintro e w2 ⟨rfl, rfl⟩
  have hr := (one_row w1 low).alloc (.cells #[.int .i64 low] 3)
  have hbx := Boxed.new (w1.alloc (.cells #[.int .i64 low] 3)) 3 (.int .i64 low)
  rw [World.size_alloc] at hbx
  have hB2 : Below w1.heap.size w1 ((w1.alloc (.cells #[.int .i64 low] 3)).alloc (.cells #[.int .i64 low] 3)) := ((Below.refl _ w1).alloc (Nat.le_refl _) _).alloc (by simp) _
  have hT2 := (unhide HT1).below hB2 (Nat.le_refl _)
  have hlt := (unhide HT1).lt
  have hap := append_ups w1.heap.size (w1.heap.size + 1) low (by omega) (by omega) (.slice (some ⟨w1.heap.size, 0, none⟩) 1 1) _ hT2 hlt.1 hlt.2 hB2.size (by simp) hr (by simp [Value.ownBlock]) hbx
  have HAP := hide hap
  have HB2 := hide hB2
  clear hr hbx hB2 hT2 hlt hap
  go_wp2_with fail
  refine (unhide HAP).mono ?_
  rintro e w3 ⟨v, rfl, hrow, hB3⟩
  have hups := ups_two low
  have hlen : (low :: upsP low U).length = 1 ∨ (low :: upsP low U).length = 2 ∨ (low :: upsP low U).length = 3 := by simp only [List.length_cons]; omega
  have hrow2 : w3.ownsRow w1.heap.size 3 1 v (low :: upsP low U).length ((low :: upsP low U).map i64) := by rw [List.length_cons, Nat.add_comm]; exact hrow
  have HROW := hide hrow2
  have HLEN := hide hlen
  have HB3 := hide ((unhide HB2).trans hB3)
  clear hrow hrow2 hlen hB3 hups HB2 HAP
  generalize hout : low :: upsP low U = out at *
  go_wp2_with fail
  refine (sort_any w1.heap.size out v w3 (unhide HLEN) (unhide HROW)).mono ?_
  rintro e w4 ⟨rfl, l, hp, hs, hrow, hg⟩
  have HP := hide hp
  have HS := hide hs
  have HR := hide hrow
  have HG := hide hg
  clear hp hs hrow hg
  go_wp2
  go_ret
  have e := (unhide HO) l (unhide HP) (unhide HS)
  subst e
  have hb := own_base (unhide HROW)
  have h4 : Below w1.heap.size w1 w4 := (unhide HB3).grown (unhide HG) (unhide HB3).size hb
  exact ⟨_, rfl, cut_up (unhide HB1) ⟨unhide HR, h4⟩⟩

set_option maxHeartbeats 1000000 in
theorem porbit_out (x : Int) (w : World) (h : ¬ (0 ≤ x ∧ x ≤ 1114367)) :
    Calls Tryd.prog 8 #[.int .i64 x] w fun e w' => ∃ v, e = .returned v ∧ CutI w (orb x) v w' := by
  have HO := hide (foldZ_out h).1
  by_cases hn : x < 0
  · clear h
    go_enter Tryd.func8, Tryd.ntmps8
    go_wp2
    go_ret
    refine ⟨_, rfl, ?_⟩
    rw [unhide HO]
    exact ⟨World.ownsRow_nil _ _ _ _, Below.refl _ _⟩
  · have hn2 : 1114367 < x := by omega
    clear h
    go_enter Tryd.func8, Tryd.ntmps8
    go_wp2
    go_ret
    refine ⟨_, rfl, ?_⟩
    rw [unhide HO]
    exact ⟨World.ownsRow_nil _ _ _ _, Below.refl _ _⟩

/-- **fold.Orbit** -/
theorem porbit_any (x : Int) (w : World) {b off cap : Nat} (hT : Tab b off cap w) :
    Calls Tryd.prog 8 #[.int .i64 x] w fun e w' => ∃ v, e = .returned v ∧ CutI w (orb x) v w' := by
  by_cases h : 0 ≤ x ∧ x ≤ 1114367
  · exact porbit_in x w hT h.1 h.2
  · exact porbit_out x w h

theorem with_in (x : Int) (hlo : -9223372036854775808 ≤ x) (hhi : x ≤ 9223372036854775807) : -9223372036854775808 ≤ withP x ∧ withP x ≤ 9223372036854775807 := by
  by_cases h : 0 ≤ x ∧ x ≤ 1114367
  · have := withP_bound x h.1 h.2; omega
  · rw [(out_with h).1]; exact ⟨hlo, hhi⟩

/-- BETWEEN TWO ROUNDS of Fold's loop. -/
def MInv (low : Int) (w1 : World) (pre : List Int) (W : World) : Prop := Boxed W w1.heap.size 3 (.int .i64 (leastOf low pre)) ∧ Below w1.heap.size w1 W ∧ Boxed W (w1.heap.size + 1) 3 (.int .i64 low)
theorem minv_own (low : Int) (w1 : World) (C : Nat) (hC : w1.heap.size ≤ C) : OwnFrom C (MInv low w1) :=
  OwnFrom.and (Own.from (boxed_own w1.heap.size 3 (fun pre => .int .i64 (leastOf low pre))) _) (OwnFrom.and (ownFrom_below (Nat.le_refl _) hC) (Own.from (boxed_own _ _ _) _))
theorem least_snoc (low : Int) (pre : List Int) (x : Int) : leastOf low (pre ++ [x]) = min (leastOf low pre) x := by simp [leastOf]

set_option maxRecDepth 100000 in
set_option maxHeartbeats 2000000 in
/-- **fold.Fold** -/
theorem pfold_any (x : Int) (w : World) {b off cap : Nat} (hT : Tab b off cap w) (hlo : -9223372036854775808 ≤ x) (hhi : x ≤ 9223372036854775807) :
    Calls Tryd.prog 10 #[.int .i64 x] w fun e w' => e = .returned (.int .i64 (foldZ x)) ∧ Below w.heap.size w w' := by
  refine (callsIn_wide (n := 3)).1 ?_
  have HT := hide hT
  clear hT
  refine callsIn_of_wp_marks Tryd.func10 rfl trivial ?_ rfl
  simp only [Tryd.ntmps10, List.size_toArray, List.length_cons, List.length_nil, Nat.reduceAdd, Nat.reduceSub, Array.replicate_succ, Array.replicate_zero, List.push_toArray, List.append_toArray, List.nil_append, List.cons_append]
  gi_wp2_with fail
  refine ⟨trivial, ?_⟩
  refine (callsIn_wide.2 (lower_any x w (unhide HT))).mono ?_
  rintro e w1 ⟨rfl, hB1⟩
  have hbd := with_in x hlo hhi
  have HF := hide (fold_least x)
  have HB1 := hide hB1
  have HT1 := hide ((unhide HT).below hB1 (Nat.le_refl _))
  clear hB1 HT
  generalize withP x = low at *
  gi_wp2_with fail
  refine ⟨trivial, ?_⟩
  refine (callsIn_wide.2 (uppers_any low _)).mono ?_
  rintro e w2 ⟨rfl, rfl⟩
  gi_wp2_with fail
  have bO := Boxed.new w1 3 (.int .i64 low)
  have bN := Boxed.new (w1.alloc (.cells #[.int .i64 low] 3)) 3 (.int .i64 low)
  rw [World.size_alloc] at bN
  have hB2 : Below w1.heap.size w1 ((w1.alloc (.cells #[.int .i64 low] 3)).alloc (.cells #[.int .i64 low] 3)) := ((Below.refl _ w1).alloc (Nat.le_refl _) _).alloc (by simp) _
  have hKlt : ∀ k, KB w1.heap.size (w1.heap.size + 1) k → k < ((w1.alloc (.cells #[.int .i64 low] 3)).alloc (.cells #[.int .i64 low] 3)).heap.size := fun k hk => by
    rcases hk with h | h <;> (simp; omega)
  have hlt := (unhide HT1).lt
  refine wpIn_rangeFunc_ownG rfl (by omega) (gf := 30) (lb := #[.pointer (some ⟨w1.heap.size + 1, 0, none⟩)]) rfl trivial (enters_of Tryd.func30 (by kernel_rfl) rfl)
    (ups_stops (3 - 1) (by omega) (w1.heap.size + 1) low hbd.1 hbd.2 (KB w1.heap.size (w1.heap.size + 1)) (.inr rfl) (.inl hlt.1) (.inl hlt.2) _ hKlt ((unhide HT1).below hB2 (Nat.le_refl _)) bN) keeps_t (keeps_b hKlt) (Below.refl _ _) (fun _ => rfl)
    (MInv low w1)
    (fun _ _ _ => False)
    (minv_own low w1 _ (by simp; omega))
    (fun _ _ _ _ _ hs _ _ => hs)
    ⟨bO.alloc _, hB2, bN⟩
    (fun y => { tmps := #[.int .i64 x, undef, .int .i64 0, .int .i64 low, .pointer (some ⟨w1.heap.size, 0, none⟩), .int .i64 y, .int .i64 x, .int .i64 low, .int .i64 low, .int .i64 low, .func (.func 30) #[] #[.pointer (some ⟨w1.heap.size + 1, 0, none⟩)], .int .i64 y, undef, undef, undef, undef], defers := [] }) ?assign ?body ?done ?stop
  case assign =>
    intro l x W K hK
    gi_wp2
    exact hK
  case body =>
    rintro l pre y W ⟨hv, hB, hbx⟩ hlt
    have hc := hv.cell
    have hf := hv.frozen
    have HS := hide (least_snoc low pre y)
    gi_wp2
    have hz := hB.size
    refine ⟨(KeepsOthers.setCell _ _ _).from _, ⟨fun k hk => Below.heap_setCell _ _ _ k ?_, by simp [World.setCell]⟩, by rw [unhide HS]; exact hv.set _, hB.setCell (Nat.le_refl _) _, hbx.other (by omega) _⟩
    rcases hk with h | h
    · simp; omega
    · simp; omega
  case done =>
    rintro D ys W hD rfl ⟨hv, hB, hbx⟩ hK
    have hc := hv.cell
    gi_wp2
    refine ⟨by simp, .inl ⟨_, _, rfl, run_takeDeferred hK, ?_⟩⟩
    exact ⟨_, results_tmp rfl _ _ _, by rw [unhide HF]; rfl, (unhide HB1).trans ((hB.trans (belowK_b (w := w1) (Nat.le_refl _) W D _ _ (by simp at hD; omega) hK rfl rfl)).mono (unhide HB1).size)⟩
  case stop =>
    rintro D c pre W _ _ h _
    exact h.elim

set_option maxHeartbeats 400000 in
/-- **fold.Same** -/
theorem psame_any (x y : Int) (w : World) {b off cap : Nat} (hT : Tab b off cap w) (hx : -9223372036854775808 ≤ x ∧ x ≤ 9223372036854775807) (hy : -9223372036854775808 ≤ y ∧ y ≤ 9223372036854775807) :
    Calls Tryd.prog 12 #[.int .i64 x, .int .i64 y] w fun e w' => e = .returned (.bool (foldZ x == foldZ y)) ∧ Below w.heap.size w w' := by
  have HT := hide hT
  clear hT
  have HX := hide hx
  have HY := hide hy
  clear hx hy
  go_enter Tryd.func12, Tryd.ntmps12
  go_wp2_with fail
  refine (pfold_any x w (unhide HT) (unhide HX).1 (unhide HX).2).mono ?_
  rintro e w1 ⟨rfl, hB1⟩
  have HB1 := hide hB1
  have HT1 := hide ((unhide HT).below hB1 (Nat.le_refl _))
  clear hB1
  obtain ⟨p, hp⟩ : ∃ p, foldZ x = p := ⟨_, rfl⟩
  rw [hp]
  have HP := hide hp
  clear hp
  go_wp2_with fail
  refine (pfold_any y w1 (unhide HT1) (unhide HY).1 (unhide HY).2).mono ?_
  rintro e w2 ⟨rfl, hB2⟩
  have HB2 := hide hB2
  clear hB2
  obtain ⟨q, hq⟩ : ∃ q, foldZ y = q := ⟨_, rfl⟩
  rw [hq]
  have HQ := hide hq
  clear hq
  go_wp2
  go_ret
  exact ⟨by rw [unhide HP, unhide HQ]; rfl, (unhide HB1).trans ((unhide HB2).mono (unhide HB1).size)⟩
end Go.Proofs.YtefjhdllcjjlpaaDoor.Fo
