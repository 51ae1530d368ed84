/-
  fold.Fold, Same, walked: the least of an orbit; whether two are one.
-/
import Derived.Test.YtdeaaidbmneplaaDoorMFoProg
set_option linter.unusedSimpArgs false
set_option linter.unusedVariables false
namespace Go.Proofs.YtdeaaidbmneplaaDoor.Fo
open Go.RowKit Go.Shelf Go.Proofs.YtdeaaidbmneplaaDoor.Mem
attribute [local go_sem] Oper.semAt_some
theorem with_in (x : Int) (hlo : -9223372036854775808 ≤ x) (hhi : x ≤ 9223372036854775807) : -9223372036854775808 ≤ withP x ∧ withP x ≤ 9223372036854775807 := by
  by_cases h : 0 ≤ x ∧ x ≤ 1114367
  · have := withP_bound x h.1 h.2; omega
  · rw [(out_with h).1]; exact ⟨hlo, hhi⟩
def MInv (low : Int) (w1 : World) (pre : List Int) (W : World) : Prop := Boxed W w1.heap.size 3 (.int .i64 (leastOf low pre)) ∧ Below w1.heap.size w1 W ∧ Boxed W (w1.heap.size + 1) 3 (.int .i64 low)
theorem minv_own (low : Int) (w1 : World) (C : Nat) (hC : w1.heap.size ≤ C) : OwnFrom C (MInv low w1) :=
  OwnFrom.and (Own.from (boxed_own w1.heap.size 3 (fun pre => .int .i64 (leastOf low pre))) _) (OwnFrom.and (ownFrom_below (Nat.le_refl _) hC) (Own.from (boxed_own _ _ _) _))
theorem least_snoc (low : Int) (pre : List Int) (x : Int) : leastOf low (pre ++ [x]) = min (leastOf low pre) x := by simp [leastOf]
set_option maxRecDepth 100000 in
set_option maxHeartbeats 2000000 in
theorem pfold_any (x : Int) (w : World) {b off cap : Nat} (hT : Tab b off cap w) (hlo : -9223372036854775808 ≤ x) (hhi : x ≤ 9223372036854775807) :
    Calls Tryd.prog 40 #[.int .i64 x] w fun e w' => e = .returned (.int .i64 (foldZ x)) ∧ Below w.heap.size w w' := by
  refine (callsIn_wide (n := 3)).1 ?_
  have HT := hide hT
  clear hT
  refine callsIn_of_wp_marks Tryd.func40 rfl trivial ?_ rfl
  simp only [Tryd.ntmps40, List.size_toArray, List.length_cons, List.length_nil, Nat.reduceAdd, Nat.reduceSub, Array.replicate_succ, Array.replicate_zero, List.push_toArray, List.append_toArray, List.nil_append, List.cons_append]
  gi_wp2_with fail
  refine ⟨trivial, ?_⟩
  refine (callsIn_wide.2 (lower_any x w (unhide HT))).mono ?_
  rintro e w1 ⟨rfl, hB1⟩
  have hbd := with_in x hlo hhi
  have HF := hide (fold_least x)
  have HB1 := hide hB1
  have HT1 := hide ((unhide HT).below hB1 (Nat.le_refl _))
  clear hB1 HT
  generalize withP x = low at *
  gi_wp2_with fail
  refine ⟨trivial, ?_⟩
  refine (callsIn_wide.2 (uppers_any low _)).mono ?_
  rintro e w2 ⟨rfl, rfl⟩
  gi_wp2_with fail
  have bO := Boxed.new w1 3 (.int .i64 low)
  have bN := Boxed.new (w1.alloc (.cells #[.int .i64 low] 3)) 3 (.int .i64 low)
  rw [World.size_alloc] at bN
  have hB2 : Below w1.heap.size w1 ((w1.alloc (.cells #[.int .i64 low] 3)).alloc (.cells #[.int .i64 low] 3)) := ((Below.refl _ w1).alloc (Nat.le_refl _) _).alloc (by simp) _
  have hKlt : ∀ k, KB w1.heap.size (w1.heap.size + 1) k → k < ((w1.alloc (.cells #[.int .i64 low] 3)).alloc (.cells #[.int .i64 low] 3)).heap.size := fun k hk => by
    rcases hk with h | h <;> (simp; omega)
  have hlt := (unhide HT1).lt
  refine wpIn_rangeFunc_ownG rfl (by omega) (gf := 59) (lb := #[.pointer (some ⟨w1.heap.size + 1, 0, none⟩)]) rfl trivial (enters_of Tryd.func59 (by kernel_rfl) rfl)
    (ups_stops (3 - 1) (by omega) (w1.heap.size + 1) low hbd.1 hbd.2 (KB w1.heap.size (w1.heap.size + 1)) (.inr rfl) (.inl hlt.1) (.inl hlt.2) _ hKlt ((unhide HT1).below hB2 (Nat.le_refl _)) bN) keeps_t (keeps_b hKlt) (Below.refl _ _) (fun _ => rfl)
    (MInv low w1)
    (fun _ _ _ => False)
    (minv_own low w1 _ (by simp; omega))
    (fun _ _ _ _ _ hs _ _ => hs)
    ⟨bO.alloc _, hB2, bN⟩
    (fun y => { tmps := #[.int .i64 x, undef, .int .i64 0, .int .i64 low, .pointer (some ⟨w1.heap.size, 0, none⟩), .int .i64 y, .int .i64 x, .int .i64 low, .int .i64 low, .int .i64 low, .func (.func 59) #[] #[.pointer (some ⟨w1.heap.size + 1, 0, none⟩)], .int .i64 y, undef, undef, undef, undef], defers := [] }) ?assign ?body ?done ?stop
  case assign =>
    intro l x W K hK
    gi_wp2
    exact hK
  case body =>
    rintro l pre y W ⟨hv, hB, hbx⟩ hlt
    have hc := hv.cell
    have hf := hv.frozen
    have HS := hide (least_snoc low pre y)
    gi_wp2
    have hz := hB.size
    refine ⟨(KeepsOthers.setCell _ _ _).from _, ⟨fun k hk => Below.heap_setCell _ _ _ k ?_, by simp [World.setCell]⟩, by rw [unhide HS]; exact hv.set _, hB.setCell (Nat.le_refl _) _, hbx.other (by omega) _⟩
    rcases hk with h | h
    · simp; omega
    · simp; omega
  case done =>
    rintro D ys W hD rfl ⟨hv, hB, hbx⟩ hK
    have hc := hv.cell
    gi_wp2
    refine ⟨by simp, .inl ⟨_, _, rfl, run_takeDeferred hK, ?_⟩⟩
    exact ⟨_, results_tmp rfl _ _ _, by rw [unhide HF]; rfl, (unhide HB1).trans ((hB.trans (belowK_b (w := w1) (Nat.le_refl _) W D _ _ (by simp at hD; omega) hK rfl rfl)).mono (unhide HB1).size)⟩
  case stop =>
    rintro D c pre W _ _ h _
    exact h.elim
set_option maxHeartbeats 400000 in
theorem psame_any (x y : Int) (w : World) {b off cap : Nat} (hT : Tab b off cap w) (hx : -9223372036854775808 ≤ x ∧ x ≤ 9223372036854775807) (hy : -9223372036854775808 ≤ y ∧ y ≤ 9223372036854775807) :
    Calls Tryd.prog 30 #[.int .i64 x, .int .i64 y] w fun e w' => e = .returned (.bool (foldZ x == foldZ y)) ∧ Below w.heap.size w w' := by
  have HT := hide hT
  clear hT
  have HX := hide hx
  have HY := hide hy
  clear hx hy
  go_enter Tryd.func30, Tryd.ntmps30
  go_wp2_with fail
  refine (pfold_any x w (unhide HT) (unhide HX).1 (unhide HX).2).mono ?_
  rintro e w1 ⟨rfl, hB1⟩
  have HB1 := hide hB1
  have HT1 := hide ((unhide HT).below hB1 (Nat.le_refl _))
  clear hB1
  obtain ⟨p, hp⟩ : ∃ p, foldZ x = p := ⟨_, rfl⟩
  rw [hp]
  have HP := hide hp
  clear hp
  go_wp2_with fail
  refine (pfold_any y w1 (unhide HT1) (unhide HY).1 (unhide HY).2).mono ?_
  rintro e w2 ⟨rfl, hB2⟩
  have HB2 := hide hB2
  clear hB2
  obtain ⟨q, hq⟩ : ∃ q, foldZ y = q := ⟨_, rfl⟩
  rw [hq]
  have HQ := hide hq
  clear hq
  go_wp2
  go_ret
  exact ⟨by rw [unhide HP, unhide HQ]; rfl, (unhide HB1).trans ((unhide HB2).mono (unhide HB1).size)⟩
end Go.Proofs.YtdeaaidbmneplaaDoor.Fo
