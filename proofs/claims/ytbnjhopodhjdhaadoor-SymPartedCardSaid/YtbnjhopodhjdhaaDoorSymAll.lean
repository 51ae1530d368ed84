/-
  sym.All and sym.Starts, walked: a new slice of all symbols; a new slice of where they begin, and the end. Conditions: the library's two tables hold what the program's text lays; fewer than 2^40 bytes.
-/
import Derived.Deep.DeepMust
import Derived.Maps.AppendAt
import Derived.Test.YtbnjhopodhjdhaaDoorSymEach
set_option linter.unusedVariables false
set_option linter.unusedSimpArgs false
namespace Go.Proofs.YtbnjhopodhjdhaaDoor.All
open Go.RowKit Go.Shelf Go.Proofs.YtbnjhopodhjdhaaDoor.Sy Go.Proofs.YtbnjhopodhjdhaaDoor.Mem Go.Proofs.YtbnjhopodhjdhaaDoor.Utf Go.Proofs.YtbnjhopodhjdhaaDoor.Each

attribute [local go_sem] Oper.semAt_some

theorem info_int : (Tryd.prog.info? 3).map (fun i => (i.zero, i.size, i.bytes)) = some (some (.int .i64 0), 1, 8) := by kernel_rfl

/-- THE BLOCKS THAT MUST STAY: all that lay, and the box. -/
def KK (w : World) (k : Nat) : Prop := k < w.heap.size ∨ k = w.heap.size + 1
theorem KK.lies {w w' : World} {A : Option Addr} {bs : List UInt8} (hr : Reads w w.heap.size 1 A bs.length (bs.map u8)) (hb : Below w.heap.size w w') : Lies w' (KK w) A bs := fun hn => by
  obtain ⟨b, off, e, hlt, hc⟩ := hr.flat hn
  exact ⟨b, off, e, .inl hlt, fun j u hu => (hb.cell (p := ⟨b, off + j, none⟩) hlt).trans (hc j (u8 u) (by simp [hu]))⟩

/-- BETWEEN TWO ROUNDS: the box holds a slice that owns f of what has come; the other box holds the bytes; all that lay lies. -/
def Inv (w : World) (sv : Value) (f : Nat × Nat → Nat) (pre : List (Nat × Nat)) (W : World) : Prop :=
  ((∃ v, Boxed W w.heap.size 27 v ∧ W.ownsRow w.heap.size 3 1 v pre.length ((pre.map f).map n64) ∧ True) ∧ Boxed W (w.heap.size + 1) 22 sv) ∧ Below w.heap.size w W
theorem inv_own (w : World) (sv : Value) (f : Nat × Nat → Nat) (B : Nat) (hB : w.heap.size ≤ B) : OwnFrom B (Inv w sv f) :=
  OwnFrom.and (OwnFrom.and (Own.from (holdsRow_own w.heap.size w.heap.size 27 3 1 (fun pre : List (Nat × Nat) => pre.length) (fun pre => (pre.map f).map n64) (fun _ _ => True)) _) (Own.from (boxed_own _ _ _) _)) (ownFrom_below (Nat.le_refl _) hB)
/-- WHAT THE BODY'S APPEND DOES TO IT. -/
theorem inv_step {w W w1 : World} {sv : Value} {f : Nat × Nat → Nat} {pre : List (Nat × Nat)} {x : Nat × Nat} {v : Value} {tmp : Obj} {g cap : Nat} (hv : Boxed W w.heap.size 27 v)
    (hrow : W.ownsRow w.heap.size 3 1 v pre.length ((pre.map f).map n64)) (hbx : Boxed W (w.heap.size + 1) 22 sv) (hB : Below w.heap.size w W)
    (hown' : w1.ownsRow w.heap.size 3 1 (.slice (some ⟨g, 0, none⟩) (pre.length + 1) cap) (pre.length + 1) ((pre.map f).map n64 ++ [.int .i64 (f x : Int)])) (hgrow : (W.alloc tmp).grownBy w1 v.ownBlock) :
    KeepsOthers W (w1.setCell ⟨w.heap.size, 0, none⟩ (.slice (some ⟨g, 0, none⟩) (pre.length + 1) cap)) ∧ Keeps (KK w) W (w1.setCell ⟨w.heap.size, 0, none⟩ (.slice (some ⟨g, 0, none⟩) (pre.length + 1) cap)) ∧
      Inv w sv f (pre ++ [x]) (w1.setCell ⟨w.heap.size, 0, none⟩ (.slice (some ⟨g, 0, none⟩) (pre.length + 1) cap)) := by
  obtain ⟨hv1, hv2, hr2, hk2, hb2⟩ := hv.appended (by decide) hrow hB.size (Nat.le_refl _) hown' hgrow
  have hbx2 : Boxed (w1.setCell ⟨w.heap.size, 0, none⟩ (.slice (some ⟨g, 0, none⟩) (pre.length + 1) cap)) (w.heap.size + 1) 22 sv :=
    ((hbx.alloc tmp).kept hgrow (hbx.not_row (by decide) hrow)).other (by omega) _
  refine ⟨hk2, ⟨fun k hk => ?_, hb2.size⟩, ⟨⟨⟨_, hv2, ?_, trivial⟩, hbx2⟩, hB.trans hb2⟩⟩
  · rcases hk with h | rfl
    · exact hb2.block k h
    · exact (show _ = _ from hbx2).trans (show _ = _ from hbx).symm
  · simpa using hr2

set_option maxRecDepth 100000 in
set_option maxHeartbeats 2000000 in
theorem all_any (bs : List UInt8) (A : Option Addr) (cap : Nat) (w : World) (hT : Tabs w) (hlen : bs.length ≤ 1099511627776) (hcap : bs.length ≤ cap) (hm : cap ≤ 9223372036854775807)
    (hr : Reads w w.heap.size 1 A bs.length (bs.map u8)) :
    Calls Tryd.prog 15 #[.slice A bs.length cap] w fun e W' => ∃ v, e = .returned v ∧ W'.ownsRow w.heap.size 3 1 v (syms bs).length ((syms bs).map n64) ∧ Below w.heap.size w W' := by
  refine (callsIn_wide (n := 3)).1 ?_
  obtain ⟨i0, hi, hz0, hz1, hz2⟩ := info_parts info_int
  have hroom := hT.room
  refine callsIn_of_wp_marks Tryd.func15 rfl trivial ?_ rfl
  simp only [Tryd.ntmps15, List.size_toArray, List.length_cons, List.length_nil, Nat.reduceAdd, Nat.reduceSub, Array.replicate_succ, Array.replicate_zero, List.push_toArray, List.append_toArray, List.nil_append, List.cons_append]
  gi_wp2_with (refine ⟨trivial, ?_⟩; gi_at_call 24; refine (callsIn_wide.2 (each_any _ _ _ _)).mono ?_; rintro e w' ⟨rfl, rfl⟩)
  have bO := Boxed.new w 27 (.slice none 0 0)
  have bN := Boxed.new (w.alloc (.cells #[.slice none 0 0] 27)) 22 (.slice A bs.length cap)
  rw [World.size_alloc] at bN
  have hB0 : Below w.heap.size w ((w.alloc (.cells #[.slice none 0 0] 27)).alloc (.cells #[.slice A bs.length cap] 22)) := ((Below.refl _ w).alloc (Nat.le_refl _) _).alloc (by simp) _
  have hKlt : ∀ k, KK w k → k < ((w.alloc (.cells #[.slice none 0 0] 27)).alloc (.cells #[.slice A bs.length cap] 22)).heap.size := fun k hk => by
    rcases hk with h | h <;> (simp; omega)
  refine wpIn_rangeFunc_ownG rfl (by omega) (gf := 30) (lb := #[.pointer (some ⟨w.heap.size + 1, 0, none⟩)]) rfl trivial (enters_of Tryd.func30 (by kernel_rfl) rfl)
    (each_stops (3 - 1) (by omega) (w.heap.size + 1) cap A bs (KK w) (.inr rfl) (.inl hroom.1) (.inl hroom.2) hcap hm _ hKlt (hT.below hB0 (Nat.le_refl _)) bN.cell (KK.lies hr hB0)) keeps_t (keeps_b hKlt) (Below.refl _ _) (fun _ => rfl)
    (Inv w (.slice A bs.length cap) (·.2))
    (fun _ _ _ => False)
    (inv_own w _ _ _ (by simp; omega))
    (fun _ _ _ _ _ hs _ _ => hs)
    ⟨⟨⟨_, bO.alloc _, World.ownsRow_nil _ _ _ _, trivial⟩, bN⟩, hB0⟩
    (fun x => { tmps := #[.slice A bs.length cap, undef, .slice none 0 0, .pointer (some ⟨w.heap.size, 0, none⟩), undef, .int .i64 (x.2 : Int), .slice A bs.length cap, .func (.func 30) #[] #[.pointer (some ⟨w.heap.size + 1, 0, none⟩)], .int .i64 (x.1 : Int), .int .i64 (x.2 : Int), undef, undef, undef, undef, undef], defers := [] }) ?assign ?body ?done ?stop
  case assign =>
    intro l x W K hK
    gi_wp2
    exact hK
  case body =>
    rintro l pre x W ⟨⟨⟨v, hv, hrow, -⟩, hbx⟩, hB⟩ hlt
    have hc := hv.cell
    have hpl : pre.length + 1 ≤ bs.length := by have := len_le bs; omega
    have hmx : pre.length + 1 ≤ maxLen := by unfold maxLen; omega
    gi_wp2_with (gi_at_builtin; refine wpListIn_append_own _ rfl _ _ 27 rfl w.heap.size 3 i0 (.int .i64 0) 1 8 Tryd.underlying27 hi hz0 hz1 hz2 rfl (by decide) _ _ _ rfl (hrow.alloc _) ⟨W.heap.size, 0, none⟩ 1 1 [.int .i64 (x.2 : Int)] rfl rfl (cell_one_new _ _ _) (by simp [Value.oneCell']) (by omega) (by omega) (by have := hB.size; simp; omega) ?_; intro v' w1 hown' hgrow _; obtain ⟨g', cap', rfl⟩ := ownsRow_succ hown'; obtain ⟨hv1, -, -, -, -⟩ := hv.appended (by decide) hrow hB.size (Nat.le_refl _) hown' hgrow; have hc1 := hv1.cell; have hf1 := hv1.frozen; have HS := hide (inv_step (x := x) hv hrow hbx hB hown' hgrow))
    have h := unhide HS
    exact ⟨h.1.from _, h.2⟩
  case done =>
    rintro D ys W hD rfl ⟨⟨⟨v, hv, hrow, -⟩, hbx⟩, hB⟩ hK
    have hc := hv.cell
    gi_wp2
    refine ⟨by simp, .inl ⟨_, _, rfl, run_takeDeferred hK, ?_⟩⟩
    exact ⟨_, results_tmp rfl _ _ _, v, rfl, by simpa [syms] using ownsRow_putObj hrow _ hK rfl, hB.trans (belowK_b (w := w) (Nat.le_refl _) W D _ _ (by simp at hD; omega) hK rfl rfl)⟩
  case stop =>
    rintro D c pre W _ _ h _
    exact h.elim

/-- A slice's own row is not a block that holds no cells. -/
theorem own_not {W : World} {base e size n D : Nat} {v : Value} {xs : List Value} (h : W.ownsRow base e size v n xs) {o : Obj} (hD : W.heap[D]? = some o) (ho : o.isCells = false) : some D ≠ v.ownBlock := by
  rcases h.2 with ⟨rfl, _⟩ | ⟨g, cap, cur, rfl, _, hgb, _⟩
  · simp [Value.ownBlock]
  · intro e'
    obtain rfl : D = g := by simpa [Value.ownBlock] using e'
    rw [hgb] at hD
    cases hD
    cases ho
theorem own_base {W : World} {base e size n : Nat} {v : Value} {xs : List Value} (h : W.ownsRow base e size v n xs) : ∀ k, v.ownBlock = some k → base ≤ k := by
  intro k hk
  rcases h.2 with ⟨rfl, _⟩ | ⟨g, cap, cur, rfl, hb, _, _⟩
  · simp [Value.ownBlock] at hk
  · obtain rfl : g = k := by simpa [Value.ownBlock] using hk
    exact hb

set_option maxRecDepth 100000 in
set_option maxHeartbeats 2000000 in
theorem starts_any (bs : List UInt8) (A : Option Addr) (cap : Nat) (w : World) (hT : Tabs w) (hlen : bs.length ≤ 1099511627776) (hcap : bs.length ≤ cap) (hm : cap ≤ 9223372036854775807)
    (hr : Reads w w.heap.size 1 A bs.length (bs.map u8)) :
    Calls Tryd.prog 16 #[.slice A bs.length cap] w fun e W' => ∃ v, e = .returned v ∧ W'.ownsRow w.heap.size 3 1 v (starts bs).length ((starts bs).map n64) ∧ Below w.heap.size w W' := by
  refine (callsIn_wide (n := 3)).1 ?_
  obtain ⟨i0, hi, hz0, hz1, hz2⟩ := info_parts info_int
  have hroom := hT.room
  refine callsIn_of_wp_marks Tryd.func16 rfl trivial ?_ rfl
  simp only [Tryd.ntmps16, List.size_toArray, List.length_cons, List.length_nil, Nat.reduceAdd, Nat.reduceSub, Array.replicate_succ, Array.replicate_zero, List.push_toArray, List.append_toArray, List.nil_append, List.cons_append]
  gi_wp2_with (refine ⟨trivial, ?_⟩; gi_at_call 24; refine (callsIn_wide.2 (each_any _ _ _ _)).mono ?_; rintro e w' ⟨rfl, rfl⟩)
  have bO := Boxed.new w 27 (.slice none 0 0)
  have bN := Boxed.new (w.alloc (.cells #[.slice none 0 0] 27)) 22 (.slice A bs.length cap)
  rw [World.size_alloc] at bN
  have hB0 : Below w.heap.size w ((w.alloc (.cells #[.slice none 0 0] 27)).alloc (.cells #[.slice A bs.length cap] 22)) := ((Below.refl _ w).alloc (Nat.le_refl _) _).alloc (by simp) _
  have hKlt : ∀ k, KK w k → k < ((w.alloc (.cells #[.slice none 0 0] 27)).alloc (.cells #[.slice A bs.length cap] 22)).heap.size := fun k hk => by
    rcases hk with h | h <;> (simp; omega)
  refine wpIn_rangeFunc_ownG rfl (by omega) (gf := 30) (lb := #[.pointer (some ⟨w.heap.size + 1, 0, none⟩)]) rfl trivial (enters_of Tryd.func30 (by kernel_rfl) rfl)
    (each_stops (3 - 1) (by omega) (w.heap.size + 1) cap A bs (KK w) (.inr rfl) (.inl hroom.1) (.inl hroom.2) hcap hm _ hKlt (hT.below hB0 (Nat.le_refl _)) bN.cell (KK.lies hr hB0)) keeps_t (keeps_b hKlt) (Below.refl _ _) (fun _ => rfl)
    (Inv w (.slice A bs.length cap) (·.1))
    (fun _ _ _ => False)
    (inv_own w _ _ _ (by simp; omega))
    (fun _ _ _ _ _ hs _ _ => hs)
    ⟨⟨⟨_, bO.alloc _, World.ownsRow_nil _ _ _ _, trivial⟩, bN⟩, hB0⟩
    (fun x => { tmps := #[.slice A bs.length cap, undef, .slice none 0 0, .pointer (some ⟨w.heap.size, 0, none⟩), .int .i64 (x.1 : Int), .slice A bs.length cap, .func (.func 30) #[] #[.pointer (some ⟨w.heap.size + 1, 0, none⟩)], .int .i64 (x.1 : Int), .int .i64 (x.2 : Int), undef, undef, undef, undef, undef, undef, undef, undef, undef], defers := [] }) ?assign ?body ?done ?stop
  case assign =>
    intro l x W K hK
    gi_wp2
    exact hK
  case body =>
    rintro l pre x W ⟨⟨⟨v, hv, hrow, -⟩, hbx⟩, hB⟩ hlt
    have hc := hv.cell
    have hpl : pre.length + 1 ≤ bs.length := by have := len_le bs; omega
    have hmx : pre.length + 1 ≤ maxLen := by unfold maxLen; omega
    gi_wp2_with (gi_at_builtin; refine wpListIn_append_own _ rfl _ _ 27 rfl w.heap.size 3 i0 (.int .i64 0) 1 8 Tryd.underlying27 hi hz0 hz1 hz2 rfl (by decide) _ _ _ rfl (hrow.alloc _) ⟨W.heap.size, 0, none⟩ 1 1 [.int .i64 (x.1 : Int)] rfl rfl (cell_one_new _ _ _) (by simp [Value.oneCell']) (by omega) (by omega) (by have := hB.size; simp; omega) ?_; intro v' w1 hown' hgrow _; obtain ⟨g', cap', rfl⟩ := ownsRow_succ hown'; obtain ⟨hv1, -, -, -, -⟩ := hv.appended (by decide) hrow hB.size (Nat.le_refl _) hown' hgrow; have hc1 := hv1.cell; have hf1 := hv1.frozen; have HS := hide (inv_step (x := x) hv hrow hbx hB hown' hgrow))
    have h := unhide HS
    exact ⟨h.1.from _, h.2⟩
  case done =>
    rintro D ys W hD rfl ⟨⟨⟨v, hv, hrow, -⟩, hbx⟩, hB⟩ hK
    have hc := hv.cell
    have hpl : (from_ bs 0).length ≤ bs.length := len_le bs
    have hmx : (from_ bs 0).length + 1 ≤ maxLen := by unfold maxLen; omega
    have hDlt : D < W.heap.size := (Array.getElem?_eq_some_iff.1 hK).1
    have HD := hide hD
    have HK := hide hK
    clear hD hK
    gi_wp2_with (gi_at_builtin; refine wpListIn_append_own _ rfl _ _ 27 rfl w.heap.size 3 i0 (.int .i64 0) 1 8 Tryd.underlying27 hi hz0 hz1 hz2 rfl (by decide) _ _ _ rfl (hrow.alloc _) ⟨W.heap.size, 0, none⟩ 1 1 [.int .i64 (bs.length : Int)] rfl rfl (cell_one_new _ _ _) (by simp [Value.oneCell']) (by omega) (by omega) (by have := hB.size; simp; omega) ?_; intro v' w1 hown' hgrow _)
    have hK := unhide HK
    have hD := unhide HD
    have hK1 := (hgrow.block D (by rw [World.size_alloc]; omega) (own_not hrow hK rfl)).trans ((Below.heap_alloc W _ D hDlt).trans hK)
    refine ⟨by simp, .inl ⟨_, _, rfl, run_takeDeferred hK1, ?_⟩⟩
    have hB1 : Below w.heap.size w w1 := (hB.alloc hB.size _).grown hgrow (by rw [World.size_alloc]; have := hB.size; omega) (own_base hrow)
    exact ⟨_, results_tmp rfl _ _ _, v', rfl, by simpa [starts, begins] using ownsRow_putObj hown' _ hK1 rfl, hB1.trans (belowK_b (w := w) (Nat.le_refl _) w1 D _ _ (by simp at hD; omega) hK1 rfl rfl)⟩
  case stop =>
    rintro D c pre W _ _ h _
    exact h.elim
end Go.Proofs.YtbnjhopodhjdhaaDoor.All
