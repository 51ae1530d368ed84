/-
  How the reference's lists lie (RV), and its Now, walked. No conditions.
-/
import Derived.Test.YtjnljhigaapalaaUnOps
import Derived.Test.YtjnljhigaapalaaUnHist
import Derived.OwnWalk
set_option linter.unusedVariables false
set_option linter.unusedSimpArgs false
namespace Go.Proofs.Ytjnljhigaapalaa.Un
open Go.RowKit Go.Proofs.Ytjnljhigaapalaa.Mem
open Go.Proofs.Ytjnljhigaapalaa.Ev (CV intA below_box ret_b run_not_true run_not_false own_reads own_below)
structure LV (l : List Int) (A : Option Addr) (c : Nat) (P : Nat → Prop) (w : World) : Prop where
  room : l.length ≤ c
  top : c ≤ 9223372036854775807
  lies : 0 < l.length → ∃ b, A = some ⟨b, 0, none⟩ ∧ P b ∧ b < w.heap.size ∧ ∀ j x, l[j]? = some x → w.cell? ⟨b, j, none⟩ = some (.int .i64 x)
structure RX (L : List (List Int)) (vs : List Value) (A : Option Addr) (c : Nat) (P : Nat → Prop) (w : World) : Prop where
  room : L.length ≤ c
  top : c ≤ 9223372036854775807
  len : vs.length = L.length
  lies : 0 < L.length → ∃ b, A = some ⟨b, 0, none⟩ ∧ P b ∧ b < w.heap.size ∧ ∀ j v, vs[j]? = some v → w.cell? ⟨b, j, none⟩ = some v
  each : ∀ (k : Nat) (l : List Int), L[k]? = some l → ∃ A' c', vs[k]? = some (Value.slice A' l.length c') ∧ LV l A' c' P w
def RV (L : List (List Int)) (A : Option Addr) (c : Nat) (P : Nat → Prop) (w : World) : Prop := ∃ vs, RX L vs A c P w
section
variable {l : List Int} {L : List (List Int)} {vs : List Value} {A : Option Addr} {c : Nat} {P P' : Nat → Prop} {w w' : World}
theorem LV.keep (h : LV l A c P w) (hs : w.heap.size ≤ w'.heap.size) (hk : ∀ k, P k → k < w.heap.size → w'.heap[k]? = w.heap[k]?) : LV l A c P w' :=
  ⟨h.room, h.top, fun hn => by
    obtain ⟨b, e, hp, hb, hc⟩ := h.lies hn
    exact ⟨b, e, hp, Nat.lt_of_lt_of_le hb hs, fun j x hx => (World.cell?_of_block (w := w) (hk b hp hb)).trans (hc j x hx)⟩⟩
theorem LV.mono (h : LV l A c P w) (hp : ∀ k, P k → P' k) : LV l A c P' w :=
  ⟨h.room, h.top, fun hn => by
    obtain ⟨b, e, h1, hb, hc⟩ := h.lies hn
    exact ⟨b, e, hp _ h1, hb, hc⟩⟩
theorem LV.cv (h : LV l A c P w) : CV l A c w :=
  ⟨h.room, h.top, by rw [List.length_map, Nat.mul_one], fun hn => by
    obtain ⟨b, rfl, -, hb, hc⟩ := h.lies hn
    refine ⟨_, rfl, hb, fun j u hj => ?_⟩
    rw [add_flat, Nat.zero_add]
    rw [List.getElem?_map] at hj
    cases hx : l[j]? with
    | none => rw [hx] at hj; cases hj
    | some x => rw [hx] at hj; cases hj; exact hc j x hx⟩
theorem RX.keep (h : RX L vs A c P w) (hs : w.heap.size ≤ w'.heap.size) (hk : ∀ k, P k → k < w.heap.size → w'.heap[k]? = w.heap[k]?) : RX L vs A c P w' :=
  ⟨h.room, h.top, h.len, fun hn => by
    obtain ⟨b, e, hp, hb, hc⟩ := h.lies hn
    exact ⟨b, e, hp, Nat.lt_of_lt_of_le hb hs, fun j v hv => (World.cell?_of_block (w := w) (hk b hp hb)).trans (hc j v hv)⟩, fun k l hl => by
    obtain ⟨A', c', e, h1⟩ := h.each k l hl
    exact ⟨A', c', e, h1.keep hs hk⟩⟩
theorem RX.mono (h : RX L vs A c P w) (hp : ∀ k, P k → P' k) : RX L vs A c P' w :=
  ⟨h.room, h.top, h.len, fun hn => by
    obtain ⟨b, e, h1, hb, hc⟩ := h.lies hn
    exact ⟨b, e, hp _ h1, hb, hc⟩, fun k l hl => by
    obtain ⟨A', c', e, h1⟩ := h.each k l hl
    exact ⟨A', c', e, h1.mono hp⟩⟩
theorem RV.keep (h : RV L A c P w) (hs : w.heap.size ≤ w'.heap.size) (hk : ∀ k, P k → k < w.heap.size → w'.heap[k]? = w.heap[k]?) : RV L A c P w' := by
  obtain ⟨vs, h⟩ := h
  exact ⟨vs, h.keep hs hk⟩
theorem RV.below (h : RV L A c P w) (hb : Below w.heap.size w w') : RV L A c P w' := h.keep hb.size fun k _ hk => hb.block k hk
theorem RX.below (h : RX L vs A c P w) (hb : Below w.heap.size w w') : RX L vs A c P w' := h.keep hb.size fun k _ hk => hb.block k hk
theorem LV.below (h : LV l A c P w) (hb : Below w.heap.size w w') : LV l A c P w' := h.keep hb.size fun k _ hk => hb.block k hk
theorem RV.mono (h : RV L A c P w) (hp : ∀ k, P k → P' k) : RV L A c P' w := by
  obtain ⟨vs, h⟩ := h
  exact ⟨vs, h.mono hp⟩
theorem RX.take (h : RX L vs A c P w) {m : Nat} (h1 : m ≤ L.length) : RX (L.take m) (vs.take m) A c P w := by
  have e : (L.take m).length = m := by rw [List.length_take]; omega
  refine ⟨by rw [e]; have := h.room; omega, h.top, by rw [e, List.length_take, h.len]; omega, fun hn => ?_, fun k l hl => ?_⟩
  · obtain ⟨b, e1, hp, hb, hc⟩ := h.lies (by rw [e] at hn; omega)
    refine ⟨b, e1, hp, hb, fun j v hv => ?_⟩
    rw [List.getElem?_take] at hv
    split at hv
    · exact hc j v hv
    · cases hv
  · rw [List.getElem?_take] at hl
    split at hl
    · rename_i hk
      obtain ⟨A', c', e1, h2⟩ := h.each k l hl
      exact ⟨A', c', by rw [List.getElem?_take_of_lt hk]; exact e1, h2⟩
    · cases hl
end
theorem own_set1 {W : World} {base e n b c : Nat} {xs : List Value} (ho : W.ownsRow base e 1 (.slice (some ⟨b, 0, none⟩) n c) n xs) {i : Nat} (hi : i < n) (u : Value) : (W.setCell ⟨b, i, none⟩ u).ownsRow base e 1 (.slice (some ⟨b, 0, none⟩) n c) n (xs.set i u) ∧ (∃ old, W.cell? ⟨b, i, none⟩ = some old ∧ xs[i]? = some old) ∧ W.frozen? ⟨b, i, none⟩ = false := by
  rcases ho.2 with ⟨h1, -⟩ | ⟨g, cap, cur, e1, h1, h2, h3, h4, h5, h6⟩
  · cases h1
  · cases e1
    have hb : Blk W b e cur := h2
    have hs : i < cur.size := by omega
    have hx : xs[i]? = some cur[i] := by rw [← h6, List.getElem?_take_of_lt (by omega)]; simp [hs]
    refine ⟨⟨by rw [List.length_set]; exact ho.1, .inr ⟨b, c, cur.setIfInBounds i u, rfl, h1, hb.set_ i u, h3, h4, by simpa using h5, ?_⟩⟩, ⟨cur[i], ?_, hx⟩, hb.frozen i⟩
    · rw [Array.toList_setIfInBounds, List.take_set, h6]
    · rw [hb.cell i, Array.getElem?_eq_getElem hs]
set_option maxHeartbeats 1000000 in
theorem now_any {L : List (List Int)} {A : Option Addr} {c : Nat} {P : Nat → Prop} {w : World} (h : RV L A c P w) (q : Nat) (l : List Int) (hq : L.length = q + 1) (hl : L[q]? = some l) : Calls Try.prog 17 #[.agg #[.slice A L.length c]] w fun e w' => (∃ A' c', e = .returned (.slice A' l.length c') ∧ LV l A' c' P w') ∧ Below w.heap.size w w' := by
  obtain ⟨vs, h⟩ := h
  obtain ⟨A', c', e1, h1⟩ := h.each q l hl
  have hb := below_box w (.cells #[.slice A L.length c] 30)
  have h2 := h.below hb
  obtain ⟨b, rfl, hp, hbl, hc⟩ := h2.lies (by omega)
  have c1 := hc q _ e1
  have c0 := (Blk.new w 30 #[.slice (some ⟨b, 0, none⟩) L.length c]).cell 0
  have H1 := hide (h1.below hb)
  have HB := hide hb
  have hr := h.room
  have ht := h.top
  obtain ⟨n, hn⟩ : ∃ n, L.length = n := ⟨_, rfl⟩
  rw [hn] at c0 c1 hq hr H1 HB ⊢
  have hqn : q < n := by omega
  have hqn2 : (q : Int) < (n : Int) := by omega
  have ws : IntKind.i64.wrap ((n : Int) - 1) = (q : Int) := by rw [IntKind.wrap_i64]; omega
  clear h h1 hb h2 hc hl hn hq e1 hbl hp
  go_enter Try.func17, Try.ntmps17
  go_wp2
  go_ret
  exact ⟨⟨A', c', rfl, unhide H1⟩, unhide HB⟩
end Go.Proofs.Ytjnljhigaapalaa.Un
