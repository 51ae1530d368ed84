/-
  fold.Orbit, Fold, Same, walked: a number's orbit, rising; the least of it. Conditions: the table's variable holds the rows that the program's text lays.
-/
import Derived.Deep.DeepMust
import Derived.Maps.AppendAt
import Derived.Test.YtefjhdllcjjlpaaDoorFoUps
import Derived.Test.YtefjhdllcjjlpaaDoorFoSort
set_option linter.unusedVariables false
set_option linter.unusedSimpArgs false
namespace Go.Proofs.YtefjhdllcjjlpaaDoor.Fo
open Go.RowKit Go.Shelf Go.Proofs.YtefjhdllcjjlpaaDoor.Mem

attribute [local go_sem] Oper.semAt_some

theorem wpListIn_append_at {F : Fence} {n : Nat} {P : Program} (w : World) {ops : Array Oper} {rest : List Oper} {o : Oper} {a : Act} {Q : Exit → Act → World → Prop}
    (hg : o.guard = none) (s x : Operand) (t : TypeId) (hop : o.op = Op.call { callee := Callee.builtin Builtin.append, args := #[s, x], argTypes := #[t, t] })
    (base : Nat) (e : TypeId) (i : TypeInfo) (z : Value) (size bytes : Nat) (h1 : P.underlying t = some (.slice e)) (h2 : P.info? e = some i) (h3 : i.zero = some z) (h4 : i.size = size) (h5 : i.bytes = bytes) (h6 : z.cells.size = size) (h7 : 0 < size)
    (v : Value) (k : Nat) (xs : List Value) (hs : a.eval s = v) (hown : w.ownsRow base e size v k xs) (ad : Addr) (m c : Nat) (news : List Value) (hx : a.eval x = .slice (some ad) m c) (hn : news.length = m * size)
    (hc : ∀ j u, news[j]? = some u → w.cell? (ad.add j) = some u) (h1c : ∀ u ∈ news, u.oneCell' = true) (b1 : k + m ≤ maxLen) (b2 : (k + m) * bytes ≤ 140737488355328) (b3 : base ≤ w.heap.size)
    (hK : ∀ v' w', w'.ownsRow base e size v' (k + m) (xs ++ news) → w.grownBy w' v.ownBlock → (v'.ownBlock = v.ownBlock ∨ v'.ownBlock = some w.heap.size) → wpListIn F n P ops Q rest (a.put o.dst v') w') :
    wpListIn F n P ops Q (o :: rest) a w := by
  refine wpListIn_plain hg fun K hK' => ?_
  obtain ⟨v', w', hrun, r1, r2, _, r3⟩ := run_append_own_at (P := P) w base t o.type e i z size bytes h1 h2 h3 h4 h5 h6 h7 v k xs hown ad m c news hn hc h1c b1 b2 b3
  unfold Oper.wpIn
  refine ⟨?_, ?_⟩
  · simp [Oper.about, hop, resolve, Target.leads, Sem.run_pure]
  · rw [Oper.semAt_plain F _ _ (by rw [hop]; intro c hc'; cases hc')]
    simp [execOp, hop, resolve, invoke, builtin, hs, hx, hrun, Result.andThen]
    exact hK' _ _ (hK v' w' r1 r2 r3)

/-- THE BLOCKS THAT MUST STAY: those below B, and the box. -/
def KB (B Bs : Nat) (k : Nat) : Prop := k < B ∨ k = Bs
/-- BETWEEN TWO ROUNDS of the appending loop. -/
def AInv (B Bs : Nat) (low : Int) (w : World) (pre : List Int) (W : World) : Prop :=
  ((∃ v, Boxed W w.heap.size 23 v ∧ W.ownsRow B 3 1 v (1 + pre.length) ((low :: pre).map i64) ∧ v.ownBlock ≠ some Bs) ∧ Boxed W Bs 3 (.int .i64 low)) ∧ Below B w W
theorem ainv_own (B Bs : Nat) (low : Int) (w : World) (C : Nat) (hC : w.heap.size ≤ C) (hB : B ≤ w.heap.size) : OwnFrom C (AInv B Bs low w) :=
  OwnFrom.and (OwnFrom.and (Own.from (holdsRow_own B w.heap.size 23 3 1 (fun pre : List Int => 1 + pre.length) (fun pre => (low :: pre).map i64) (fun _ v => v.ownBlock ≠ some Bs)) _) (Own.from (boxed_own _ _ _) _)) (ownFrom_below hB (Nat.le_trans hB hC))
theorem ainv_step {B Bs : Nat} {low : Int} {w W w1 : World} {pre : List Int} {x : Int} {v : Value} {tmp : Obj} {g cap : Nat} (hBw : B ≤ w.heap.size) (hBs : Bs < w.heap.size) (hv : Boxed W w.heap.size 23 v)
    (hrow : W.ownsRow B 3 1 v (1 + pre.length) ((low :: pre).map i64)) (hne : v.ownBlock ≠ some Bs) (hbx : Boxed W Bs 3 (.int .i64 low)) (hB : Below B w W)
    (hown' : w1.ownsRow B 3 1 (.slice (some ⟨g, 0, none⟩) (1 + pre.length + 1) cap) (1 + pre.length + 1) ((low :: pre).map i64 ++ [.int .i64 x])) (hgrow : (W.alloc tmp).grownBy w1 v.ownBlock)
    (hnew : (Value.slice (some ⟨g, 0, none⟩) (1 + pre.length + 1) cap).ownBlock = v.ownBlock ∨ (Value.slice (some ⟨g, 0, none⟩) (1 + pre.length + 1) cap).ownBlock = some (W.alloc tmp).heap.size) :
    KeepsOthers W (w1.setCell ⟨w.heap.size, 0, none⟩ (.slice (some ⟨g, 0, none⟩) (1 + pre.length + 1) cap)) ∧ Keeps (KB B Bs) W (w1.setCell ⟨w.heap.size, 0, none⟩ (.slice (some ⟨g, 0, none⟩) (1 + pre.length + 1) cap)) ∧
      AInv B Bs low w (pre ++ [x]) (w1.setCell ⟨w.heap.size, 0, none⟩ (.slice (some ⟨g, 0, none⟩) (1 + pre.length + 1) cap)) := by
  have hz := hB.size
  obtain ⟨hv1, hv2, hr2, hk2, hb2⟩ := hv.appended (by decide) hrow (by omega) hBw hown' hgrow
  have hbx2 : Boxed (w1.setCell ⟨w.heap.size, 0, none⟩ (.slice (some ⟨g, 0, none⟩) (1 + pre.length + 1) cap)) Bs 3 (.int .i64 low) :=
    ((hbx.alloc tmp).kept hgrow (fun e => hne e.symm)).other (by omega) _
  refine ⟨hk2, ⟨fun k hk => ?_, hb2.size⟩, ⟨⟨⟨_, hv2, ?_, ?_⟩, hbx2⟩, hB.trans hb2⟩⟩
  · rcases hk with h | rfl
    · exact hb2.block k h
    · exact (show _ = _ from hbx2).trans (show _ = _ from hbx).symm
  · have h := hr2
    simpa [i64, Nat.add_assoc] using h
  · rcases hnew with h | h
    · rw [h]; exact hne
    · rw [h, World.size_alloc]
      intro e
      injection e with e
      omega

set_option maxRecDepth 100000 in
set_option maxHeartbeats 2000000 in
/-- **slices.AppendSeq([]int{low}, uppers(low))** -/
theorem append_ups (B Bs : Nat) (low : Int) (hlo : -9223372036854775808 ≤ low) (hhi : low ≤ 9223372036854775807) (v0 : Value) (w : World) {b off cap : Nat} (hT : Tab b off cap w) (hb0 : 0 < B) (hb1 : b < B) (hBw : B ≤ w.heap.size) (hBs : Bs < w.heap.size)
    (hrow0 : w.ownsRow B 3 1 v0 1 [.int .i64 low]) (hne0 : v0.ownBlock ≠ some Bs) (hbx0 : Boxed w Bs 3 (.int .i64 low)) :
    Calls Tryd.prog 18 #[v0, .func (.func 30) #[] #[.pointer (some ⟨Bs, 0, none⟩)]] w fun e W' => ∃ v, e = .returned v ∧ W'.ownsRow B 3 1 v (1 + (upsP low U).length) ((low :: upsP low U).map i64) ∧ Below B w W' := by
  refine (callsIn_wide (n := 3)).1 ?_
  obtain ⟨i0, hi, hz0, hz1, hz2⟩ := info_parts info_int
  refine callsIn_of_wp_marks Tryd.func18 rfl trivial ?_ rfl
  simp only [Tryd.ntmps18, List.size_toArray, List.length_cons, List.length_nil, Nat.reduceAdd, Nat.reduceSub, Array.replicate_succ, Array.replicate_zero, List.push_toArray, List.append_toArray, List.nil_append, List.cons_append]
  obtain ⟨g0, c0, rfl⟩ := ownsRow_succ (k := 0) hrow0
  gi_wp2_with fail
  have bO := Boxed.new w 23 (.slice (some ⟨g0, 0, none⟩) (0 + 1) c0)
  have hB0 : Below B w (w.alloc (.cells #[.slice (some ⟨g0, 0, none⟩) (0 + 1) c0] 23)) := (Below.refl _ w).alloc hBw _
  have hBA : Below w.heap.size w (w.alloc (.cells #[.slice (some ⟨g0, 0, none⟩) (0 + 1) c0] 23)) := (Below.refl _ w).alloc (Nat.le_refl _) _
  have hKlt : ∀ k, KB B Bs k → k < (w.alloc (.cells #[.slice (some ⟨g0, 0, none⟩) (0 + 1) c0] 23)).heap.size := fun k hk => by
    rcases hk with h | h <;> (simp; omega)
  have hups := ups_two low
  refine wpIn_rangeFunc_ownG rfl (by omega) (gf := 30) (lb := #[.pointer (some ⟨Bs, 0, none⟩)]) rfl trivial (enters_of Tryd.func30 (by kernel_rfl) rfl)
    (ups_stops (3 - 1) (by omega) Bs low hlo hhi (KB B Bs) (.inr rfl) (.inl hb0) (.inl hb1) _ hKlt (hT.below hBA (Nat.le_refl _)) (hbx0.alloc _)) keeps_t (keeps_b hKlt) (Below.refl _ _) (fun _ => rfl)
    (AInv B Bs low w)
    (fun _ _ _ => False)
    (ainv_own B Bs low w _ (by simp) hBw)
    (fun _ _ _ _ _ hs _ _ => hs)
    ⟨⟨⟨_, bO, hrow0.alloc _, hne0⟩, hbx0.alloc _⟩, hB0⟩
    (fun x => { tmps := #[.slice (some ⟨g0, 0, none⟩) (0 + 1) c0, .func (.func 30) #[] #[.pointer (some ⟨Bs, 0, none⟩)], .pointer (some ⟨w.heap.size, 0, none⟩), undef, .slice none 0 0, .int .i64 x, .func (.func 30) #[] #[.pointer (some ⟨Bs, 0, none⟩)], .int .i64 x, undef, undef, undef, undef, undef], defers := [] }) ?assign ?body ?done ?stop
  case assign =>
    intro l x W K hK
    gi_wp2
    exact hK
  case body =>
    rintro l pre x W ⟨⟨⟨v, hv, hrow, hne⟩, hbx⟩, hB⟩ hlt
    have hc := hv.cell
    have hpl : pre.length + 1 ≤ 2 := by omega
    have hmx : 1 + pre.length + 1 ≤ maxLen := by unfold maxLen; omega
    gi_wp2_with (gi_at_builtin; refine wpListIn_append_at _ rfl _ _ 23 rfl B 3 i0 (.int .i64 0) 1 8 Tryd.underlying23 hi hz0 hz1 hz2 rfl (by decide) _ _ _ rfl (hrow.alloc _) ⟨W.heap.size, 0, none⟩ 1 1 [.int .i64 x] rfl rfl (cell_one_new _ _ _) (by simp [Value.oneCell']) (by omega) (by omega) (by have := hB.size; simp; omega) ?_; intro v' w1 hown' hgrow hnew; obtain ⟨g', cap', rfl⟩ := ownsRow_succ hown'; obtain ⟨hv1, -, -, -, -⟩ := hv.appended (by decide) hrow (by have := hB.size; omega) hBw hown' hgrow; have hc1 := hv1.cell; have hf1 := hv1.frozen; have HS := hide (ainv_step (x := x) hBw hBs hv hrow hne hbx hB hown' hgrow hnew))
    have h := unhide HS
    exact ⟨h.1.from _, h.2⟩
  case done =>
    rintro D ys W hD rfl ⟨⟨⟨v, hv, hrow, hne⟩, hbx⟩, hB⟩ hK
    have hc := hv.cell
    gi_wp2
    refine ⟨by simp, .inl ⟨_, _, rfl, run_takeDeferred hK, ?_⟩⟩
    exact ⟨_, results_tmp rfl _ _ _, v, rfl, ownsRow_putObj hrow _ hK rfl, hB.trans (belowK_b (w := w) hBw W D _ _ (by simp at hD; omega) hK rfl rfl)⟩
  case stop =>
    rintro D c pre W _ _ h _
    exact h.elim
end Go.Proofs.YtefjhdllcjjlpaaDoor.Fo
