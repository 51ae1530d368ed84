/-
  The law AstSame, walked: true at any two trees, any number. Conditions: the trees lie in memory, and are not too great to be read; the number is an int.
-/
import Derived.Test.YtckgbalmpddblaaDoorAsAnchor
import Derived.Test.YtckgbalmpddblaaDoorAsAlike
import Derived.Deep.RegionHeld3
import Derived.StillTailTactics
import Derived.RegionTactic
import Derived.ChangeAlike
import Derived.Deep.CutRange
set_option linter.unusedVariables false
set_option linter.unusedSimpArgs false
namespace Go.Proofs.YtckgbalmpddblaaDoor.As
open Go.RowKit Go.Proofs.YtckgbalmpddblaaDoor.Mem Go.Proofs.YtckgbalmpddblaaDoor.Rs

/-- what is known of two trees that a law is given: both boxes, both trees -/
structure Two (a b : Tr) (Aa Na Ab Nb : Option Addr) (capa cna capb cnb : Nat) (w wx : World) : Prop where
  boa : Blk wx w.heap.size 25 #[.slice Aa a.nodes.length capa, .int .i64 a.groups, .slice Na a.names.length cna]
  bob : Blk wx (w.heap.size + 1) 25 #[.slice Ab b.nodes.length capb, .int .i64 b.groups, .slice Nb b.names.length cnb]
  ta : TreeV wx w.heap.size a (.agg #[.slice Aa a.nodes.length capa, .int .i64 a.groups, .slice Na a.names.length cna])
  tb : TreeV wx w.heap.size b (.agg #[.slice Ab b.nodes.length capb, .int .i64 b.groups, .slice Nb b.names.length cnb])
  bel : Below w.heap.size w wx
theorem Two.below {a b : Tr} {Aa Na Ab Nb : Option Addr} {capa cna capb cnb : Nat} {w wx wy : World} (h : Two a b Aa Na Ab Nb capa cna capb cnb w wx) (hb : Below wx.heap.size wx wy) : Two a b Aa Na Ab Nb capa cna capb cnb w wy :=
  ⟨h.boa.below hb h.boa.lt, h.bob.below hb h.bob.lt, h.ta.keep fun p hp => hb.cell (by have := h.boa.lt; omega), h.tb.keep fun p hp => hb.cell (by have := h.boa.lt; omega), h.bel.trans (hb.mono h.bel.size)⟩
def q0 (a b : Tr) : Bool := decide (a.groups = b.groups) && decide (a.names.length = b.names.length) && decide (a.nodes.length = b.nodes.length)
theorem tree_names {wx : World} {B n cap m cn : Nat} {A N : Option Addr} {t : Tr} {g : Value} (h : TreeV wx B t (.agg #[.slice A n cap, g, .slice N m cn])) : ∀ k s, t.names[k]? = some s → ∃ b o, N = some ⟨b, o, none⟩ ∧ wx.cell? ⟨b, o + k, none⟩ = some (str s) := by
  intro k s hs
  obtain ⟨x, c, e, -, A', cap', rfl, -, -, hn⟩ := h
  simp only [Value.agg.injEq, Array.mk.injEq, List.cons.injEq, Value.slice.injEq, and_true] at e
  obtain ⟨-, -, rfl, -, -⟩ := e
  obtain ⟨b, o, e, -, hc⟩ := hn (by have := (List.getElem?_eq_some_iff.1 hs).1; omega)
  exact ⟨b, o, e, hc k s hs⟩
theorem tree_nodes {wx : World} {B n cap m cn : Nat} {A N : Option Addr} {t : Tr} {g : Value} (h : TreeV wx B t (.agg #[.slice A n cap, g, .slice N m cn])) : ∀ k nd, t.nodes[k]? = some nd → ∃ b o, A = some ⟨b, o, none⟩ ∧ b < B ∧ NodeV wx B nd (fun j => wx.cell? ⟨b, o + k * 10 + j, none⟩) := by
  intro k s hs
  obtain ⟨x, c, e, ⟨A', cap', rfl, -, -, hn⟩, -⟩ := h
  simp only [Value.agg.injEq, Array.mk.injEq, List.cons.injEq, Value.slice.injEq, and_true] at e
  obtain ⟨⟨rfl, -, -⟩, -, -⟩ := e
  obtain ⟨b, o, e, hb, hc⟩ := hn (by have := (List.getElem?_eq_some_iff.1 hs).1; omega)
  exact ⟨b, o, e, hb, hc k s hs⟩
theorem take_step {α : Type} [DecidableEq α] {l m : List α} {k : Nat} {x y : α} (hx : l[k]? = some x) (hy : m[k]? = some y) : decide (l.take (k + 1) = m.take (k + 1)) = (decide (l.take k = m.take k) && decide (x = y)) := by
  obtain ⟨h1, e1⟩ := List.getElem?_eq_some_iff.1 hx
  obtain ⟨h2, e2⟩ := List.getElem?_eq_some_iff.1 hy
  rw [List.take_succ_eq_append_getElem h1, List.take_succ_eq_append_getElem h2, e1, e2, Bool.eq_iff_iff]
  simp only [decide_eq_true_eq, Bool.and_eq_true]
  constructor
  · intro h
    have := List.append_inj h (by simp; omega)
    simpa using this
  · rintro ⟨h, rfl⟩
    rw [h]
theorem names_step {a b : Tr} {k : Nat} {s r : List UInt8} (hs : a.names[k]? = some s) (hr : b.names[k]? = some r) : (q0 a b && decide (a.names.take (k + 1) = b.names.take (k + 1))) = (q0 a b && decide (a.names.take k = b.names.take k) && decide (s = r)) := by
  rw [take_step hs hr, Bool.and_assoc]
theorem alikeL_step : ∀ (l m : List Nd) (k : Nat) (x y : Nd), l[k]? = some x → m[k]? = some y → alikeL (l.take (k + 1)) (m.take (k + 1)) = (alikeL (l.take k) (m.take k) && alikeN x y)
  | [], _, k, x, y, h, _ => by simp at h
  | _ :: _, [], k, x, y, _, h => by simp at h
  | a :: l, b :: m, 0, x, y, h1, h2 => by
    obtain rfl : a = x := by simpa using h1
    obtain rfl : b = y := by simpa using h2
    simp [alikeL]
  | a :: l, b :: m, k + 1, x, y, h1, h2 => by
    have := alikeL_step l m k x y (by simpa using h1) (by simpa using h2)
    simp only [List.take_succ_cons, alikeL]
    rw [this, Bool.and_assoc]
theorem nodes_step {a b : Tr} {k : Nat} {x y : Nd} {q1 : Bool} (hs : a.nodes[k]? = some x) (hr : b.nodes[k]? = some y) : (q1 && alikeL (a.nodes.take (k + 1)) (b.nodes.take (k + 1))) = (q1 && alikeL (a.nodes.take k) (b.nodes.take k) && alikeN x y) := by
  rw [alikeL_step _ _ k x y hs hr, Bool.and_assoc]
def NdR (a b : Tr) (q1 : Bool) (P : Nat) (q i : Value) (wr : World) : Prop := ∃ k : Nat, i = .int .i64 k ∧ k ≤ P ∧ q = .bool (q1 && alikeL (a.nodes.take k) (b.nodes.take k))
theorem alikeL_len : ∀ (l m : List Nd), l.length ≠ m.length → alikeL l m = false
  | [], [], h => absurd rfl h
  | [], _ :: _, _ => rfl
  | _ :: _, [], _ => rfl
  | a :: l, b :: m, h => by
    have := alikeL_len l m (by simp at h; exact h)
    simp [alikeL, this]
theorem same_end {a b : Tr} {q1 : Bool} {M P : Nat} (h1 : (q0 a b && decide (a.names.take M = b.names.take M)) = q1) (hM : M = min a.names.length b.names.length) (hP : P = min a.nodes.length b.nodes.length) : (q1 && alikeL (a.nodes.take P) (b.nodes.take P)) = sameT a b := by
  subst h1
  unfold sameT q0
  by_cases hg : a.groups = b.groups
  · by_cases hn : a.names.length = b.names.length
    · by_cases hl : a.nodes.length = b.nodes.length
      · have e1 : a.names.take M = a.names := List.take_of_length_le (by omega)
        have e2 : b.names.take M = b.names := List.take_of_length_le (by omega)
        have e3 : a.nodes.take P = a.nodes := List.take_of_length_le (by omega)
        have e4 : b.nodes.take P = b.nodes := List.take_of_length_le (by omega)
        rw [e1, e2, e3, e4]
        simp [hg, hn, hl]
      · rw [alikeL_len a.nodes b.nodes hl]
        simp [hl]
    · have : ¬ a.names = b.names := fun e => hn (by rw [e])
      simp [hn, this]
  · simp [hg]
theorem Two.set {a b : Tr} {Aa Na Ab Nb : Option Addr} {capa cna capb cnb : Nat} {w wx : World} (h : Two a b Aa Na Ab Nb capa cna capb cnb w wx) {p : Addr} (hp : w.heap.size + 1 < p.block) (u : Value) : Two a b Aa Na Ab Nb capa cna capb cnb w (wx.setCell p u) :=
  ⟨h.boa.far (by omega) u, h.bob.far (by omega) u, h.ta.keep fun q hq => World.cell?_setCell_other wx p q u (fun e => by subst e; omega), h.tb.keep fun q hq => World.cell?_setCell_other wx p q u (fun e => by subst e; omega), h.bel.setCell (by omega) u⟩
/-- a node, moved along its pattern -/
def mv (y : Int) (nd : Nd) : Nd := ⟨nd.kind, y, y, nd.num, nd.mn, nd.mx, nd.mode, nd.name, nd.set, nd.kids⟩
def MvR (a : Tr) (y : Int) (mb B : Nat) (Na : Option Addr) (cna : Nat) (i : Value) (wr : World) : Prop := ∃ (k : Nat) (D : List Cel) (v : Value), i = .int .i64 k ∧ k ≤ a.nodes.length ∧ D.length = k ∧ D.map (·.1) = (a.nodes.take k).map (mv y) ∧
  Blk wr mb 25 #[v, .int .i64 a.groups, .slice Na a.names.length cna] ∧ wr.ownsRow (mb + 1) 42 10 v k (celsL D) ∧ ∀ d ∈ D, SetV wr B d.1.set d.2.1 ∧ KidsV wr B d.1.kids d.2.2
theorem info_nd : (Tryd.prog.info? 42).map (fun i => (i.zero, i.size, i.bytes)) = some (some (.agg #[.int .i64 0, .int .i64 0, .int .i64 0, .int .i64 0, .int .i64 0, .int .i64 0, .int .i64 0, .string ⟨#[]⟩, .slice none 0 0, .slice none 0 0]), 10, 120) := by kernel_rfl
theorem alikeN_mv (y : Int) (nd : Nd) : alikeN nd (mv y nd) = true := by simp [alikeN, mv]
theorem alikeL_mv (y : Int) : ∀ l : List Nd, alikeL l (l.map (mv y)) = true
  | [] => rfl
  | a :: l => by simp [alikeL, alikeN_mv, alikeL_mv y l]
theorem same_mv (a : Tr) (y : Int) : sameT a ⟨a.nodes.map (mv y), a.groups, a.names⟩ = true := by simp [sameT, alikeL_mv]
theorem Two.grown {a b : Tr} {Aa Na Ab Nb : Option Addr} {capa cna capb cnb : Nat} {w wx wy : World} (h : Two a b Aa Na Ab Nb capa cna capb cnb w wx) {row : Option Nat} (hg : wx.grownBy wy row) (hr : ∀ g, row = some g → w.heap.size + 1 < g) : Two a b Aa Na Ab Nb capa cna capb cnb w wy := by
  have hk : ∀ p : Addr, p.block < w.heap.size → wy.cell? p = wx.cell? p := fun p hp => World.cell?_of_block (hg.block p.block (by have := h.bel.size; omega) (fun e => by have := hr _ e.symm; omega))
  exact ⟨h.boa.grown hg (fun e => by have := hr _ e.symm; omega), h.bob.grown hg (fun e => by have := hr _ e.symm; omega), h.ta.keep hk, h.tb.keep hk, h.bel.grown hg h.bel.size (fun g e => by have := hr g e; omega)⟩
theorem moved_tree {a b : Tr} {Aa Na Ab Nb : Option Addr} {capa cna capb cnb mb c5 : Nat} {w wr : World} {y : Int} {D : List Cel} {A5 : Option Addr} (hT : Two a b Aa Na Ab Nb capa cna capb cnb w wr)
    (hm : D.map (·.1) = (a.nodes.take a.nodes.length).map (mv y)) (hl : D.length = a.nodes.length) (ho : wr.ownsRow (mb + 1) 42 10 (.slice A5 a.nodes.length c5) a.nodes.length (celsL D)) (hD : ∀ d ∈ D, SetV wr w.heap.size d.1.set d.2.1 ∧ KidsV wr w.heap.size d.1.kids d.2.2) :
    TreeV wr wr.heap.size ⟨a.nodes.map (mv y), a.groups, a.names⟩ (.agg #[.slice A5 a.nodes.length c5, .int .i64 a.groups, .slice Na a.names.length cna]) := by
  rw [List.take_length] at hm
  have hN : NodesV wr wr.heap.size (a.nodes.map (mv y)) (.slice A5 a.nodes.length c5) := by
    rw [← hm]
    rcases ho.2 with ⟨hv, hn⟩ | ⟨g, cap, cur, hv, hb, hh, hnc, hcm, hcs, ht⟩
    · have hd : D = [] := List.eq_nil_of_length_eq_zero (by omega)
      subst hd
      exact ⟨A5, c5, by simp [hn], by simp, by simp at hv; omega, fun hl => by simp at hl⟩
    · simp only [Value.slice.injEq, true_and] at hv
      obtain ⟨rfl, rfl⟩ := hv
      rw [← hl]
      exact cells_nodes (own_lt ho g rfl) (by omega) (by unfold maxLen at hcm; omega) (ho.cells (g := g) rfl) fun d hd => ⟨(hD d hd).1.more hT.bel.size, (hD d hd).2.more hT.bel.size⟩
  obtain ⟨x, c, e, -, hn⟩ := hT.ta
  simp only [Value.agg.injEq, Array.mk.injEq, List.cons.injEq, and_true] at e
  obtain ⟨-, -, rfl⟩ := e
  exact ⟨_, _, rfl, hN, hn.more hT.bel.size⟩
def NmR (a b : Tr) (M : Nat) (q i : Value) (wr : World) : Prop := ∃ k : Nat, i = .int .i64 k ∧ k ≤ M ∧ q = .bool (q0 a b && decide (a.names.take k = b.names.take k))

set_option maxRecDepth 100000 in
set_option maxHeartbeats 4000000 in
theorem same_many (a b : Tr) (Aa Na Ab Nb : Option Addr) (capa cna capb cnb : Nat) (y : Int) (w : World)
    (ha : TreeV w w.heap.size a (.agg #[.slice Aa a.nodes.length capa, .int .i64 a.groups, .slice Na a.names.length cna])) (hb : TreeV w w.heap.size b (.agg #[.slice Ab b.nodes.length capb, .int .i64 b.groups, .slice Nb b.names.length cnb])) (hca : a.nodes.length ≤ capa ∧ capa ≤ 9223372036854775807 ∧ a.names.length ≤ cna ∧ cna ≤ 9223372036854775807) (hcb : b.nodes.length ≤ capb ∧ capb ≤ 9223372036854775807 ∧ b.names.length ≤ cnb ∧ cnb ≤ 9223372036854775807) (hFm : Fm w) (hn : 100 < (a.nodes.length : Int) ∨ ((a.nodes.length : Int) ≤ 100 ∧ 100 < (b.nodes.length : Int))) :
    Calls Tryd.prog 5 #[.agg #[.slice Aa a.nodes.length capa, .int .i64 a.groups, .slice Na a.names.length cna], .agg #[.slice Ab b.nodes.length capb, .int .i64 b.groups, .slice Nb b.names.length cnb], .int .i64 y] w fun e w' => e = .returned (.bool true) ∧ Below w.heap.size w w' := by
  obtain ⟨hca1, hca2, hca3, hca4⟩ := hca
  obtain ⟨hcb1, hcb2, hcb3, hcb4⟩ := hcb
  have h0 : Two a b Aa Na Ab Nb capa cna capb cnb w ((w.alloc (.cells #[.slice Aa a.nodes.length capa, .int .i64 a.groups, .slice Na a.names.length cna] 25)).alloc (.cells #[.slice Ab b.nodes.length capb, .int .i64 b.groups, .slice Nb b.names.length cnb] 25)) := by
    have hb0 : Below w.heap.size w ((w.alloc (.cells #[.slice Aa a.nodes.length capa, .int .i64 a.groups, .slice Na a.names.length cna] 25)).alloc (.cells #[.slice Ab b.nodes.length capb, .int .i64 b.groups, .slice Nb b.names.length cnb] 25)) := ((Below.refl _ _).alloc (Nat.le_refl _) _).alloc (by simp) _
    have h := Blk.new (w.alloc (.cells #[.slice Aa a.nodes.length capa, .int .i64 a.groups, .slice Na a.names.length cna] 25)) 25 #[.slice Ab b.nodes.length capb, .int .i64 b.groups, .slice Nb b.names.length cnb]
    rw [World.size_alloc] at h
    exact ⟨(Blk.new w 25 #[.slice Aa a.nodes.length capa, .int .i64 a.groups, .slice Na a.names.length cna]).alloc _, h, ha.below hb0, hb.below hb0, hb0⟩
  have HFM := hide (hFm.below h0.bel (Nat.le_refl _))
  have H0 := hide h0
  clear h0 ha hb hFm
  go_enter Tryd.func5, Tryd.ntmps5
  go_wp2_with fail
  refine (anchor_any _ (unhide HFM)).mono ?_
  rintro e w1 ⟨rfl, hb⟩
  have H1 := hide ((unhide H0).below hb)
  clear hb H0 HFM
  have k0 := (unhide H1).boa.cell 0
  have k1 := (unhide H1).boa.cell 1
  have k2 := (unhide H1).boa.cell 2
  have e0 := (unhide H1).bob.cell 0
  have e1 := (unhide H1).bob.cell 1
  have e2 := (unhide H1).bob.cell 2
  rcases hn with hn | ⟨hn, hn2⟩
  all_goals
    go_wp2_with fail
    go_ret
    exact ⟨rfl, (unhide H1).bel⟩

set_option maxRecDepth 100000 in
set_option maxHeartbeats 4000000 in
theorem same_few (a b : Tr) (Aa Na Ab Nb : Option Addr) (capa cna capb cnb : Nat) (y : Int) (w : World)
    (ha : TreeV w w.heap.size a (.agg #[.slice Aa a.nodes.length capa, .int .i64 a.groups, .slice Na a.names.length cna])) (hb : TreeV w w.heap.size b (.agg #[.slice Ab b.nodes.length capb, .int .i64 b.groups, .slice Nb b.names.length cnb])) (hca : a.nodes.length ≤ capa ∧ capa ≤ 9223372036854775807 ∧ a.names.length ≤ cna ∧ cna ≤ 9223372036854775807) (hcb : b.nodes.length ≤ capb ∧ capb ≤ 9223372036854775807 ∧ b.names.length ≤ cnb ∧ cnb ≤ 9223372036854775807) (hFm : Fm w) (hn : (a.nodes.length : Int) ≤ 100) (hn2 : (b.nodes.length : Int) ≤ 100) :
    Calls Tryd.prog 5 #[.agg #[.slice Aa a.nodes.length capa, .int .i64 a.groups, .slice Na a.names.length cna], .agg #[.slice Ab b.nodes.length capb, .int .i64 b.groups, .slice Nb b.names.length cnb], .int .i64 y] w fun e w' => e = .returned (.bool true) ∧ Below w.heap.size w w' := by
  obtain ⟨hca1, hca2, hca3, hca4⟩ := hca
  obtain ⟨hcb1, hcb2, hcb3, hcb4⟩ := hcb
  have h0 : Two a b Aa Na Ab Nb capa cna capb cnb w ((w.alloc (.cells #[.slice Aa a.nodes.length capa, .int .i64 a.groups, .slice Na a.names.length cna] 25)).alloc (.cells #[.slice Ab b.nodes.length capb, .int .i64 b.groups, .slice Nb b.names.length cnb] 25)) := by
    have hb0 : Below w.heap.size w ((w.alloc (.cells #[.slice Aa a.nodes.length capa, .int .i64 a.groups, .slice Na a.names.length cna] 25)).alloc (.cells #[.slice Ab b.nodes.length capb, .int .i64 b.groups, .slice Nb b.names.length cnb] 25)) := ((Below.refl _ _).alloc (Nat.le_refl _) _).alloc (by simp) _
    have h := Blk.new (w.alloc (.cells #[.slice Aa a.nodes.length capa, .int .i64 a.groups, .slice Na a.names.length cna] 25)) 25 #[.slice Ab b.nodes.length capb, .int .i64 b.groups, .slice Nb b.names.length cnb]
    rw [World.size_alloc] at h
    exact ⟨(Blk.new w 25 #[.slice Aa a.nodes.length capa, .int .i64 a.groups, .slice Na a.names.length cna]).alloc _, h, ha.below hb0, hb.below hb0, hb0⟩
  have HFM := hide (hFm.below h0.bel (Nat.le_refl _))
  have H0 := hide h0
  clear h0 ha hb hFm
  go_enter Tryd.func5, Tryd.ntmps5
  go_wp2_with fail
  refine (anchor_any _ (unhide HFM)).mono ?_
  rintro e w1 ⟨rfl, hb⟩
  have H1 := hide ((unhide H0).below hb)
  clear hb H0 HFM
  have k0 := (unhide H1).boa.cell 0
  have k1 := (unhide H1).boa.cell 1
  have k2 := (unhide H1).boa.cell 2
  have e0 := (unhide H1).bob.cell 0
  have e1 := (unhide H1).bob.cell 1
  have e2 := (unhide H1).bob.cell 2
  go_upto_region 5 with (fail)
  go_cut [7] from 25 to 47 (fun q wx => q = .bool (q0 a b) ∧ wx = w1)
  case first =>
    by_cases h1 : a.groups = b.groups
    · have d1 : (a.groups == b.groups) = true := by simp [h1]
      by_cases h2 : a.names.length = b.names.length
      · have d2 : ((a.names.length : Int) == (b.names.length : Int)) = true := by simp [h2]
        by_cases h3 : a.nodes.length = b.nodes.length
        · have d3 : ((a.nodes.length : Int) == (b.nodes.length : Int)) = true := by simp [h3]
          have HQ := hide (show q0 a b = true by simp [q0, h1, h2, h3])
          clear h1 h2 h3
          go_wp2_with fail
          go_meet
          exact ⟨by rw [unhide HQ], rfl⟩
        · have d3 : ((a.nodes.length : Int) == (b.nodes.length : Int)) = false := by simp; omega
          have HQ := hide (show q0 a b = false by simp [q0, h1, h2, h3])
          clear h1 h2 h3
          go_wp2_with fail
          go_meet
          exact ⟨by rw [unhide HQ], rfl⟩
      · have d2 : ((a.names.length : Int) == (b.names.length : Int)) = false := by simp; omega
        have HQ := hide (show q0 a b = false by simp [q0, h2])
        clear h1 h2
        go_wp2_with fail
        go_meet
        exact ⟨by rw [unhide HQ], rfl⟩
    · have d1 : (a.groups == b.groups) = false := by simp [h1]
      have HQ := hide (show q0 a b = false by simp [q0, h1])
      clear h1
      go_wp2_with fail
      go_meet
      exact ⟨by rw [unhide HQ], rfl⟩
  case rest =>
    obtain ⟨rfl, rfl⟩ := hcut
    obtain ⟨M, hM⟩ : ∃ M : Nat, (min (a.names.length : Int) (b.names.length : Int)) = (M : Int) := ⟨min a.names.length b.names.length, by omega⟩
    have hMa : M ≤ a.names.length := by omega
    have hMb : M ≤ b.names.length := by omega
    have HM := hide (show M = min a.names.length b.names.length by omega)
    go_upto_region 7 with (fail)
    clear hM k0 k1 k2 e0 e1 e2
    go_loopw [7, 55] (fun q i wr => NmR a b M q i wr ∧ Two a b Aa Na Ab Nb capa cna capb cnb w wr) (fun _ i _ => M - (intOf i).toNat)
    case atStart => exact ⟨⟨0, rfl, by omega, by simp⟩, unhide H1⟩
    case round =>
      obtain ⟨⟨k, rfl, hk, rfl⟩, hT⟩ := hrel
      go_hideQ
      have HT := hide hT
      clear hT
      have k2 := (unhide HT).boa.cell 2
      have e2 := (unhide HT).bob.cell 2
      by_cases hlt : k < M
      · have hki : (k : Int) < (M : Int) := by omega
        obtain ⟨s, hs⟩ : ∃ s, a.names[k]? = some s := ⟨_, List.getElem?_eq_getElem (by omega)⟩
        obtain ⟨r, hr⟩ : ∃ r, b.names[k]? = some r := ⟨_, List.getElem?_eq_getElem (by omega)⟩
        obtain ⟨bs, os, rfl, cs⟩ := tree_names (unhide HT).ta k s hs
        obtain ⟨br, or_, rfl, cr⟩ := tree_names (unhide HT).tb k r hr
        have ia : (k : Int) < (a.names.length : Int) := by omega
        have ib : (k : Int) < (b.names.length : Int) := by omega
        have HSTEP := hide (names_step hs hr)
        clear hs hr
        obtain ⟨q, hq⟩ : ∃ q, (q0 a b && decide (a.names.take k = b.names.take k)) = q := ⟨_, rfl⟩
        rw [hq]
        have HQ := hide hq
        clear hq
        cases q with
        | false =>
          go_wp2_with fail
          go_quiet (fail)
          go_wp2_with fail
          exact ⟨⟨⟨k + 1, by go_num, by omega, by rw [unhide HSTEP, unhide HQ]; rfl⟩, (unhide HT).below (below_drewN (Below.refl _ _) _)⟩, by simp [intOf]; omega⟩
        | true =>
          by_cases hsr : s = r
          · have hd : (s == r) = true := by simp [hsr]
            have HD := hide (show decide (s = r) = true by simp [hsr])
            clear hsr
            go_wp2_with fail
            go_quiet (fail)
            go_wp2_with fail
            exact ⟨⟨⟨k + 1, by go_num, by omega, by rw [unhide HSTEP, unhide HQ, unhide HD]; rfl⟩, (unhide HT).below (below_drewN (Below.refl _ _) _)⟩, by simp [intOf]; omega⟩
          · have hd : (s == r) = false := by simp [hsr]
            have HD := hide (show decide (s = r) = false by simp [hsr])
            clear hsr
            go_wp2_with fail
            go_quiet (fail)
            go_wp2_with fail
            exact ⟨⟨⟨k + 1, by go_num, by omega, by rw [unhide HSTEP, unhide HQ, unhide HD]; rfl⟩, (unhide HT).below (below_drewN (Below.refl _ _) _)⟩, by simp [intOf]; omega⟩
      · have hki : (M : Int) ≤ (k : Int) := by omega
        obtain rfl : k = M := by omega
        obtain ⟨q1, hq1⟩ : ∃ q1, (q0 a b && decide (a.names.take k = b.names.take k)) = q1 := ⟨_, rfl⟩
        rw [hq1]
        have HQ1 := hide hq1
        clear hq1
        have k0 := (unhide HT).boa.cell 0
        have e0 := (unhide HT).bob.cell 0
        obtain ⟨P, hP⟩ : ∃ P : Nat, (min (a.nodes.length : Int) (b.nodes.length : Int)) = (P : Int) := ⟨min a.nodes.length b.nodes.length, by omega⟩
        have hPa : P ≤ a.nodes.length := by omega
        have hPb : P ≤ b.nodes.length := by omega
        have HP := hide (show P = min a.nodes.length b.nodes.length by omega)
        obtain ⟨wo, rfl⟩ : ∃ wo : World, wo = wr := ⟨_, rfl⟩
        go_upto_region 12 with (fail)
        clear hP k0 e0 k2 e2
        go_loopw [7, 80] (fun q i wr => NdR a b q1 P q i wr ∧ Two a b Aa Na Ab Nb capa cna capb cnb w wr) (fun _ i _ => P - (intOf i).toNat)
        case atStart => exact ⟨⟨0, rfl, by omega, by simp [alikeL]⟩, unhide HT⟩
        case round =>
          obtain ⟨⟨k, rfl, hk, rfl⟩, hT⟩ := hrel
          go_hideQ
          have HT := hide hT
          clear hT
          have k0 := (unhide HT).boa.cell 0
          have e0 := (unhide HT).bob.cell 0
          by_cases hlt : k < P
          · have hki : (k : Int) < (P : Int) := by omega
            obtain ⟨nd, hnd⟩ : ∃ nd, a.nodes[k]? = some nd := ⟨_, List.getElem?_eq_getElem (by omega)⟩
            obtain ⟨md, hmd⟩ : ∃ md, b.nodes[k]? = some md := ⟨_, List.getElem?_eq_getElem (by omega)⟩
            obtain ⟨bs, os, rfl, hbs, s0, s1, s2, s3, s4, s5, s6, s7, ⟨_, s8, S8, cs8, rfl, s81, s82, hs8⟩, _, s9, S9, cs9, rfl, s91, s92, hs9⟩ := tree_nodes (unhide HT).ta k nd hnd
            obtain ⟨br, or_, rfl, hbr, r0, r1, r2, r3, r4, r5, r6, r7, ⟨_, r8, R8, cr8, rfl, r81, r82, hr8⟩, _, r9, R9, cr9, rfl, r91, r92, hr9⟩ := tree_nodes (unhide HT).tb k md hmd
            simp only [Nat.add_zero] at s0 r0
            have ia : (k : Int) < (a.nodes.length : Int) := by omega
            have ib : (k : Int) < (b.nodes.length : Int) := by omega
            have HSTEP := hide (nodes_step (q1 := q1) hnd hmd)
            have HLS := hide (And.intro (hs8.more (show w.heap.size ≤ wr.heap.size from (unhide HT).bel.size)) (hr8.more (show w.heap.size ≤ wr.heap.size from (unhide HT).bel.size)))
            have HRD := hide (And.intro (hs9.more (show w.heap.size ≤ wr.heap.size from (unhide HT).bel.size)) (hr9.more (show w.heap.size ≤ wr.heap.size from (unhide HT).bel.size)))
            clear hnd hmd hs8 hr8 hs9 hr9 hbs hbr
            obtain ⟨q, hq⟩ : ∃ q, (q1 && alikeL (a.nodes.take k) (b.nodes.take k)) = q := ⟨_, rfl⟩
            rw [hq]
            have HQ := hide hq
            clear hq
            cases q with
            | false =>
              clear s0 s1 s2 s3 s4 s5 s6 s7 s8 s9 r0 r1 r2 r3 r4 r5 r6 r7 r8 r9
              go_wp2_with fail
              go_quiet (fail)
              go_wp2_with fail
              exact ⟨⟨⟨k + 1, by go_num, by omega, by rw [unhide HSTEP, unhide HQ]; rfl⟩, (unhide HT).below (below_drewN (Below.refl _ _) _)⟩, by simp [intOf]; omega⟩
            | true =>
              have C := hide (fun W (hl : Lst W W.heap.size S8 nd.set ∧ Lst W W.heap.size R8 md.set) (hr : Reads W W.heap.size 1 S9 nd.kids.length (nd.kids.map Mem.i64) ∧ Reads W W.heap.size 1 R9 md.kids.length (md.kids.map Mem.i64)) => alike_any nd md S8 R8 S9 R9 cs8 cr8 cs9 cr9 W s81 s82 r81 r82 s91 s92 r91 r92 hl.1 hl.2 hr.1 hr.2)
              generalize alikeN nd md = al at C HSTEP
              go_wp2_with fail
              go_still_tail 12, (by kernel_rfl)
              change wpList _ _ _ _ _ wr.drew
              have HTD := hide ((unhide HT).below (Below.refl wr.heap.size wr).drew)
              go_wp2_with fail
              refine (unhide C wr.drew (unhide HLS) (unhide HRD)).mono ?_
              rintro e w5 ⟨rfl, hb⟩
              have HT5 := hide ((unhide HTD).below hb)
              clear hb HTD C s0 s1 s2 s3 s4 s5 s6 s7 s8 s9 r0 r1 r2 r3 r4 r5 r6 r7 r8 r9
              go_wp2_with fail
              have hR : NdR a b q1 P (.bool al) (.int .i64 ((k : Int) + 1)) w5 := ⟨k + 1, by go_num, by omega, by rw [unhide HSTEP, unhide HQ]; rfl⟩
              exact ⟨⟨hR, (unhide HT5)⟩, by simp [intOf]; omega⟩
          · have hki : (P : Int) ≤ (k : Int) := by omega
            obtain rfl : k = P := by omega
            have HSM := hide (same_end (unhide HQ1) (unhide HM) (unhide HP))
            obtain ⟨q, hq⟩ : ∃ q, (q1 && alikeL (a.nodes.take k) (b.nodes.take k)) = q := ⟨_, rfl⟩
            rw [hq] at HSM ⊢
            clear hq
            have k1 := (unhide HT).boa.cell 1
            have k2 := (unhide HT).boa.cell 2
            go_upto_region 17 with (fail)
            have hlw : w.heap.size + 1 < wr.heap.size := (unhide HT).bob.lt
            have HT2 := hide ((unhide HT).below ((Below.refl wr.heap.size wr).alloc (Nat.le_refl _) (.cells #[.slice none 0 0, .int .i64 0, .slice none 0 0] 25)))
            have HMB := hide (Blk.new wr 25 #[.slice none 0 0, .int .i64 0, .slice none 0 0])
            clear k0 k1 k2 e0
            have k1 := (unhide HT2).boa.cell 1
            have k2 := (unhide HT2).boa.cell 2
            have m1 := (unhide HMB).cell 1
            have m2 := (unhide HMB).cell 2
            have f1 := (unhide HMB).frozen 1
            have f2 := (unhide HMB).frozen 2
            generalize hW : wr.alloc (.cells #[.slice none 0 0, .int .i64 0, .slice none 0 0] 25) = W at HT2 HMB k1 k2 m1 m2 f1 f2 ⊢
            obtain ⟨mb, hmb⟩ : ∃ mb, wr.heap.size = mb := ⟨_, rfl⟩
            rw [hmb] at hlw HMB m1 m2 f1 f2 ⊢
            clear hW hmb HT
            go_cut [] from 98 to 103 (fun wx => Two a b Aa Na Ab Nb capa cna capb cnb w wx ∧ Blk wx mb 25 #[.slice none 0 0, .int .i64 a.groups, .slice Na a.names.length cna])
            case first =>
              go_region
              go_wp2_with fail
              go_meet
              have h2 := (((unhide HT2).below (Below.refl W.heap.size W).drew).set (p := ⟨mb, 1, none⟩) hlw (.int .i64 a.groups)).set (p := ⟨mb, 2, none⟩) hlw (.slice Na a.names.length cna)
              have h3 := (((unhide HMB).drew).set_ 1 (.int .i64 a.groups)).set_ 2 (.slice Na a.names.length cna)
              exact ⟨h2, h3⟩
            case rest =>
              obtain ⟨hT, hbk⟩ := hcut
              have HT := hide hT
              have HBK := hide hbk
              have k0 := hT.boa.cell 0
              clear hT hbk
              go_wp2_with fail
              clear k0
              obtain ⟨wo, rfl⟩ : ∃ wo : World, wo = wc := ⟨_, rfl⟩
              go_loopw [107] (fun i wr => MvR a y mb w.heap.size Na cna i wr ∧ Two a b Aa Na Ab Nb capa cna capb cnb w wr) (fun i _ => a.nodes.length - (intOf i).toNat)
              case atStart => exact ⟨⟨0, [], _, rfl, by omega, rfl, rfl, unhide HBK, World.ownsRow_nil _ _ _ _, by simp⟩, unhide HT⟩
              case round =>
                obtain ⟨⟨k, D, v, rfl, hk, hDl, hDm, hbk, ho, hD⟩, hT⟩ := hrel
                go_hideQ
                have HT := hide hT
                have HD := hide hD
                have HO := hide ho
                have HDM := hide hDm
                have HDL := hide hDl
                have HBK := hide hbk
                clear hT hD ho hDm hDl hbk
                by_cases hlt : k < a.nodes.length
                · have hki : (k : Int) < (a.nodes.length : Int) := by omega
                  obtain ⟨nd, hnd⟩ : ∃ nd, a.nodes[k]? = some nd := ⟨_, List.getElem?_eq_getElem (by omega)⟩
                  obtain ⟨bs, os, rfl, hbs, s0, s1, s2, s3, s4, s5, s6, s7, ⟨_, s8, S8, cs8, rfl, s81, s82, hs8⟩, _, s9, S9, cs9, rfl, s91, s92, hs9⟩ := tree_nodes (unhide HT).ta k nd hnd
                  simp only [Nat.add_zero] at s0
                  have HND := hide hnd
                  have HSV := hide (show SetV wr w.heap.size nd.set (.slice S8 nd.set.length cs8) from ⟨_, _, rfl, s81, s82, hs8⟩)
                  have HKV := hide (show KidsV wr w.heap.size nd.kids (.slice S9 nd.kids.length cs9) from ⟨_, _, rfl, s91, s92, hs9⟩)
                  have m0 : wr.cell? ⟨mb, 0, none⟩ = some v := (unhide HBK).cell 0
                  have mf := (unhide HBK).frozen 0
                  have hml := (unhide HBK).lt
                  have hmx : k + 1 ≤ maxLen := by unfold maxLen; omega
                  have hone : ∀ u ∈ (ndC (mv y nd) (.slice S8 nd.set.length cs8) (.slice S9 nd.kids.length cs9)).toList, u.oneCell' = true := by simp [ndC, Value.oneCell']
                  have HT3 := hide (((unhide HT).below ((Below.refl wr.heap.size wr).alloc (Nat.le_refl _) (.cells (ndC (mv y nd) (.slice S8 nd.set.length cs8) (.slice S9 nd.kids.length cs9)) 42))).below ((Below.refl _ _).alloc (Nat.le_refl _) (.cells (ndC (mv y nd) (.slice S8 nd.set.length cs8) (.slice S9 nd.kids.length cs9)) 42)))
                  have HX3 := hide (fun (p : Addr) (hp : p.block < w.heap.size) => (((Below.refl wr.heap.size wr).alloc (Nat.le_refl _) (.cells (ndC (mv y nd) (.slice S8 nd.set.length cs8) (.slice S9 nd.kids.length cs9)) 42)).alloc (by simp) (.cells (ndC (mv y nd) (.slice S8 nd.set.length cs8) (.slice S9 nd.kids.length cs9)) 42)).cell (p := p) (by have := (unhide HT).bel.size; omega))
                  clear hnd hs8 hs9 hbs
                  obtain ⟨iD, hiD, hzD0, hzD1, hzD2⟩ := info_parts info_nd
                  go_wp2_with (at_builtin; refine wpList_append_any _ rfl (.tmp 116) (.tmp 118) 22 rfl _ 42 iD (.agg #[.int .i64 0, .int .i64 0, .int .i64 0, .int .i64 0, .int .i64 0, .int .i64 0, .int .i64 0, .string ⟨#[]⟩, .slice none 0 0, .slice none 0 0]) 10 120 Tryd.underlying22 hiD hzD0 hzD1 hzD2 rfl (by decide) _ k _ rfl (((unhide HO).alloc _).alloc _) _ _ 1 1 _ rfl (reads_at (by rw [World.size_alloc]) (ndC (mv y nd) (.slice S8 nd.set.length cs8) (.slice S9 nd.kids.length cs9)) 42 1 10 rfl) hone hmx (by omega) (by rw [World.size_alloc, World.size_alloc]; omega) ?_; intro v5 w5 ho5 hg5 hn5; obtain ⟨A5, c5, rfl, -, -⟩ := own_reads ho5; have hT5 := (unhide HT3).grown hg5 (fun g e => by have := own_base (unhide HO) g e; omega); have bk5 := (((unhide HBK).alloc _).alloc _).grown hg5 (fun e => own_blk_ne (unhide HO) (unhide HBK) (by decide) e.symm); have g0 := bk5.cell 0; have g1 := bk5.frozen 0; have HX5 := hide (fun (p : Addr) (hp : p.block < w.heap.size) => (World.cell?_of_block (hg5.block p.block (by have := (unhide HT).bel.size; simp; omega) (fun e => by have := own_base (unhide HO) _ e.symm; omega)) : w5.cell? p = _).trans ((unhide HX3) p hp)); have HO5 := hide ho5; have HT5 := hide hT5; have HBK5 := hide bk5; clear ho5 hg5 hn5 hT5 bk5)
                  have hR : MvR a y mb w.heap.size Na cna (.int .i64 ((k : Int) + 1)) (w5.setCell ⟨mb, 0, none⟩ (.slice A5 (k + 1) c5)) := by
                    refine ⟨k + 1, D ++ [(mv y nd, .slice S8 nd.set.length cs8, .slice S9 nd.kids.length cs9)], .slice A5 (k + 1) c5, by go_num, by omega, by rw [List.length_append, unhide HDL]; rfl, ?_, (unhide HBK5).set_ 0 (.slice A5 (k + 1) c5), ?_, fun d hd => ?_⟩
                    · rw [List.map_append, unhide HDM]
                      obtain ⟨hk', e⟩ := List.getElem?_eq_some_iff.1 (unhide HND)
                      rw [List.take_succ_eq_append_getElem hk', e, List.map_append]; rfl
                    · have e : celsL (D ++ [(mv y nd, .slice S8 nd.set.length cs8, .slice S9 nd.kids.length cs9)]) = celsL D ++ (ndC (mv y nd) (.slice S8 nd.set.length cs8) (.slice S9 nd.kids.length cs9)).toList := by simp [celsL, celL]
                      rw [e]
                      exact (unhide HO5).kept (only_setCell (p := ⟨mb, 0, none⟩) (World.grownBy.refl w5 (some mb)) (.inl rfl) (.slice A5 (k + 1) c5)) (.inr (own_blk_ne (unhide HO5) (unhide HBK5) (by decide)))
                    · have hkp : ∀ p : Addr, p.block < w.heap.size → (w5.setCell ⟨mb, 0, none⟩ (.slice A5 (k + 1) c5)).cell? p = wr.cell? p := fun p hp => (World.cell?_setCell_other w5 ⟨mb, 0, none⟩ p (.slice A5 (k + 1) c5) (fun e => by subst e; simp at hp; omega)).trans ((unhide HX5) p hp)
                      rcases List.mem_append.1 hd with hd | hd
                      · exact ⟨((unhide HD) d hd).1.keep hkp, ((unhide HD) d hd).2.keep hkp⟩
                      · obtain rfl : d = (mv y nd, .slice S8 nd.set.length cs8, .slice S9 nd.kids.length cs9) := by simpa using hd
                        exact ⟨(unhide HSV).keep hkp, (unhide HKV).keep hkp⟩
                  have hT6 := (unhide HT5).set (p := ⟨mb, 0, none⟩) hlw (.slice A5 (k + 1) c5)
                  exact ⟨⟨hR, hT6⟩, by simp [intOf]; omega⟩
                · have hki : (a.nodes.length : Int) ≤ (k : Int) := by omega
                  obtain rfl : k = a.nodes.length := by omega
                  obtain ⟨A5, c5, rfl, hrd, hc5⟩ := own_reads (unhide HO)
                  have ht : TreeV wr wr.heap.size ⟨a.nodes.map (mv y), a.groups, a.names⟩ (.agg #[.slice A5 a.nodes.length c5, .int .i64 a.groups, .slice Na a.names.length cna]) := moved_tree (unhide HT) (unhide HDM) (unhide HDL) (unhide HO) (unhide HD)
                  have HMT := hide ht
                  have k0 := (unhide HT).boa.cell 0
                  have k1 := (unhide HT).boa.cell 1
                  have k2 := (unhide HT).boa.cell 2
                  have e0 := (unhide HT).bob.cell 0
                  have e1 := (unhide HT).bob.cell 1
                  have e2 := (unhide HT).bob.cell 2
                  clear ht hrd
                  have CS := hide (psame_any a b _ _ w.heap.size wr (unhide HT).bel.size (unhide HT).ta (unhide HT).tb)
                  have CM := hide (fun wx B v1 v2 hB h1 h2 => psame_any a ⟨a.nodes.map (mv y), a.groups, a.names⟩ v1 v2 B wx hB h1 h2)
                  rw [← unhide HSM] at CS
                  rw [same_mv] at CM
                  have hqq : (q == q) = true := by simp
                  go_wp2_with fail
                  refine (unhide CS).mono ?_
                  rintro e w6 ⟨rfl, hb⟩
                  have HT6 := hide ((unhide HT).below hb)
                  have HMT6 := hide (((unhide HMT).below hb).more hb.size)
                  have hbk := (unhide HBK).below hb (unhide HBK).lt
                  clear k0 k1 k2 e0 e1 e2
                  have k0 := (unhide HT6).boa.cell 0
                  have k1 := (unhide HT6).boa.cell 1
                  have k2 := (unhide HT6).boa.cell 2
                  have e0 := hbk.cell 0
                  have e1 := hbk.cell 1
                  have e2 := hbk.cell 2
                  clear hb hbk CS
                  go_wp2_with fail
                  refine (unhide CM w6 w6.heap.size _ _ (Nat.le_refl _) ((unhide HT6).ta.more (unhide HT6).bel.size) (unhide HMT6)).mono ?_
                  rintro e w7 ⟨rfl, hb⟩
                  have HB7 := hide ((unhide HT6).bel.trans (hb.mono (unhide HT6).bel.size))
                  clear hb k0 k1 k2 e0 e1 e2
                  go_wp2_with fail
                  go_ret
                  exact ⟨rfl, unhide HB7⟩

set_option maxRecDepth 100000 in
set_option maxHeartbeats 4000000 in
theorem walkSame (a b : Tr) (Aa Na Ab Nb : Option Addr) (capa cna capb cnb : Nat) (y : Int) (w : World)
    (ha : TreeV w w.heap.size a (.agg #[.slice Aa a.nodes.length capa, .int .i64 a.groups, .slice Na a.names.length cna])) (hb : TreeV w w.heap.size b (.agg #[.slice Ab b.nodes.length capb, .int .i64 b.groups, .slice Nb b.names.length cnb])) (hca : a.nodes.length ≤ capa ∧ capa ≤ 9223372036854775807 ∧ a.names.length ≤ cna ∧ cna ≤ 9223372036854775807) (hcb : b.nodes.length ≤ capb ∧ capb ≤ 9223372036854775807 ∧ b.names.length ≤ cnb ∧ cnb ≤ 9223372036854775807) (hFm : Fm w) :
    Calls Tryd.prog 5 #[.agg #[.slice Aa a.nodes.length capa, .int .i64 a.groups, .slice Na a.names.length cna], .agg #[.slice Ab b.nodes.length capb, .int .i64 b.groups, .slice Nb b.names.length cnb], .int .i64 y] w fun e w' => e = .returned (.bool true) ∧ Below w.heap.size w w' := by
  by_cases hn : 100 < (a.nodes.length : Int)
  · exact same_many a b Aa Na Ab Nb capa cna capb cnb y w ha hb hca hcb hFm (.inl hn)
  by_cases hn2 : 100 < (b.nodes.length : Int)
  · exact same_many a b Aa Na Ab Nb capa cna capb cnb y w ha hb hca hcb hFm (.inr ⟨by omega, hn2⟩)
  exact same_few a b Aa Na Ab Nb capa cna capb cnb y w ha hb hca hcb hFm (by omega) (by omega)
end Go.Proofs.YtckgbalmpddblaaDoor.As
