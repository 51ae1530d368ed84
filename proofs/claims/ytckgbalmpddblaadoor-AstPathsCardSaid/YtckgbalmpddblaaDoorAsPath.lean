/-
  The program's Path and Parent, walked: a function value that hands the nodes from the first one down to a node; the last ahead of it. Conditions: the tree lies in memory, and is laid as a tree's nodes are.
-/
import Derived.RangeFuncBox
import Derived.RangeFuncNested
import Derived.RangeFuncLeaves
import Derived.RangeFuncBound
import Derived.RangeFuncCalls
import Derived.Shelf.Abstract
import Derived.OwnWalkIn
import Derived.TacticsInMore
import Derived.LoopNIn
import Derived.LoopIn
import Derived.Shelf.AbstractIn
import Derived.Laws.ByValue
import Derived.Deep.DeepMust
import Derived.WalkHide
import Derived.Test.YtckgbalmpddblaaDoorAsEnd
set_option linter.unusedVariables false
set_option linter.unusedSimpArgs false
namespace Go.Proofs.YtckgbalmpddblaaDoor.As
open Go.RowKit Go.Shelf Go.Proofs.YtckgbalmpddblaaDoor.Mem Go.Proofs.YtckgbalmpddblaaDoor.Rs

attribute [local go_sem] Oper.semAt_some

/-- THE BLOCKS OF K LIE AS THEY LAY. -/
def Stays (K : Nat → Prop) (A B : World) : Prop := ∀ k, K k → B.heap[k]? = A.heap[k]?
theorem Stays.refl (K : Nat → Prop) (A : World) : Stays K A A := fun _ _ => rfl
theorem Stays.trans {K : Nat → Prop} {A B C : World} (h : Stays K A B) (k : Stays K B C) : Stays K A C := fun i hi => (k i hi).trans (h i hi)
theorem Stays.of_below {K : Nat → Prop} {A B : World} {N : Nat} (h : Below N A B) (hK : ∀ k, K k → k < N) : Stays K A B := fun k hk => h.block k (hK k hk)
/-- WHAT A ROUND MUST KEEP. -/
def Keeps (K : Nat → Prop) (A B : World) : Prop := Stays K A B ∧ A.heap.size ≤ B.heap.size
theorem keeps_t {K : Nat → Prop} {A B C : World} (h : Keeps K A B) (k : Keeps K B C) : Keeps K A C := ⟨h.1.trans k.1, Nat.le_trans h.2 k.2⟩
theorem keeps_b {K : Nat → Prop} {w : World} (hK : ∀ k, K k → k < w.heap.size) (W : World) (l : Nat) (o o' : Obj) (hl : w.heap.size ≤ l) (h : W.heap[l]? = some o) (_ : o.isCells = false) (_ : o.isWalk = false) : Keeps K W (W.putObj l o') :=
  ⟨fun k hk => World.putObj_heap_other (by have := hK k hk; omega), by have := (grownBy_putObj' W l o').size; exact this⟩

/-- what must stay: all below B, the tree's box, the number's box -/
def KP (B p q : Nat) (k : Nat) : Prop := k < B ∨ k = p ∨ k = q
theorem stays_tree {B p q : Nat} {W wr : World} {t : Tr} {v : Value} (hs : Stays (KP B p q) W wr) (h : TreeV W B t v) : TreeV wr B t v := h.keep fun a ha => World.cell?_of_block (hs _ (.inl ha))
/-- the walk down: at a node on the path, or at its end -/
def PathRel (t : Tr) (i : Int) (B p q : Nat) (J : List (Fin t.nodes.length) → World → Prop) (W : World) (x ok : Value) (wr : World) : Prop :=
  ∃ pre : List (Fin t.nodes.length), J pre wr ∧ Stays (KP B p q) W wr ∧ W.heap.size ≤ wr.heap.size ∧
    ((ok = .bool false ∧ (∃ z : Int, x = .int .i64 z ∧ z = 0) ∧ pre.map Fin.val = pathL t.nodes i) ∨
     (∃ a : Fin t.nodes.length, ok = .bool true ∧ x = .int .i64 (a.val : Int) ∧ anc t.nodes i a.val = true ∧ pre.map Fin.val = below t.nodes i a.val ∧ 0 ≤ i ∧ i < t.nodes.length))
def mu (t : Tr) (x ok : Value) : Nat := match ok with
  | .bool true => t.nodes.length + 1 - (intOf x).toNat
  | _ => 0

set_option maxRecDepth 100000 in
set_option maxHeartbeats 2000000 in
/-- **THE CLOSURE** -/
theorem path1_in (n : Nat) (hn : 1 ≤ n) (lb B p q : Nat) (t : Tr) (v : Value) (A : Option Addr) (cap : Nat) (c : Value) (hlen : t.nodes.length ≤ 100000) (hr : Laid t.nodes) (hv : v = .agg #[.slice A t.nodes.length cap, .int .i64 t.groups, c]) (i : Int)
    (J Jx : List (Fin t.nodes.length) → World → Prop) (W : World) (hB : B ≤ W.heap.size) (hT : TreeV W B t v) (hp : Blk W p 25 #[.slice A t.nodes.length cap, .int .i64 t.groups, c]) (hq : Blk W q 3 #[.int .i64 i])
    (hJ : AbidesFrom W.heap.size J)
    (hY : ∀ pre x W1, J pre W1 → pre.length < (pathL t.nodes i).length → YieldAt Fence.wide (n - 1) Tryd.prog lb #[.int .i64 (x.val : Int)] W1 fun e W' =>
      (e = .returned (.bool true) ∧ J (pre ++ [x]) W' ∧ (Stays (KP B p q) W1 W' ∧ W1.heap.size ≤ W'.heap.size)) ∨ (e = .returned (.bool false) ∧ Jx (pre ++ [x]) W'))
    (h0 : J [] W) :
    CallsIn Fence.wide n Tryd.prog 26 #[.func (.yield lb) #[] #[], .pointer (some ⟨p, 0, none⟩), .pointer (some ⟨q, 0, none⟩)] W fun e W' => (∃ v, e = .returned v) ∧
      ((∃ ys, ys.map Fin.val = pathL t.nodes i ∧ J ys W') ∨ (∃ pre, pre.map Fin.val <+: pathL t.nodes i ∧ Jx pre W')) := by
  refine callsIn_of_wp Tryd.func26 rfl trivial ?_ rfl
  simp only [Tryd.ntmps26, List.size_toArray, List.length_cons, List.length_nil, Nat.reduceAdd, Nat.reduceSub, Array.replicate_succ, Array.replicate_zero, List.push_toArray, List.append_toArray, List.nil_append, List.cons_append]
  have c0 := hp.cell 0
  have c1 := hp.cell 1
  have c2 := hp.cell 2
  have c3 := hq.cell 0
  have HJ := hide hJ
  have HP := hide hp
  have HQ := hide hq
  have HY := hide hY
  have HT := hide hT
  have HR := hide hr
  clear hJ hp hq hY hT hr
  gi_wp2_with fail
  refine ⟨trivial, ?_⟩
  refine (callsIn_wide.2 (has_any A t.nodes.length cap t.groups c i W)).mono ?_
  rintro e w1 ⟨rfl, hb1⟩
  have hJ1 : J [] w1 := (unhide HJ) _ _ _ none h0 (below_iff.1 hb1) (by simp)
  have hS1 : Stays (KP B p q) W w1 := Stays.of_below hb1 (fun k hk => by
    rcases hk with h | rfl | rfl
    · omega
    · exact (unhide HP).lt
    · exact (unhide HQ).lt)
  have HJ1 := hide hJ1
  have HS1 := hide hS1
  have hz := hb1.size
  have h0R := hide (show PathRel t i B p q J W (.int .i64 0) (.bool (hasI t.nodes.length i)) w1 from by
    refine ⟨[], hJ1, hS1, hz, ?_⟩
    by_cases h : 0 ≤ i ∧ i < t.nodes.length
    · right
      obtain ⟨k, rfl⟩ : ∃ k : Nat, i = k := ⟨i.toNat, by omega⟩
      exact ⟨⟨0, by omega⟩, by rw [(hasI_iff _ _).2 h], rfl, (unhide HR).path_first (by omega), (below_zero _ _).symm, h⟩
    · left
      refine ⟨by rw [show hasI t.nodes.length i = false from by rw [Bool.eq_false_iff, ne_eq, hasI_iff]; exact h], ⟨0, rfl, rfl⟩, ?_⟩
      exact ((unhide HR).nopath (by omega)).symm)
  clear hJ1 hS1 hb1 h0
  generalize hasI t.nodes.length i = ok0 at *
  gi_wp2_with fail
  gi_loopw [4, 5] (fun x ok wr => PathRel t i B p q J W x ok wr) (fun x ok _ => mu t x ok)
  case atStart => exact unhide h0R
  case round =>
    obtain ⟨pre, hJs, hst, hsz, ⟨rfl, ⟨z, rfl, hz⟩, hpre⟩ | ⟨a, rfl, rfl, hanc, hpre, hi0, hi1⟩⟩ := hrel
    · have HJs := hide hJs
      have HPRE := hide hpre
      clear hJs hpre
      gi_hideQ
      gi_wp2
      refine ⟨fun f hf => (by cases hf), ?_⟩
      gi_wp2
      go_end0
      exact ⟨⟨_, rfl⟩, .inl ⟨pre, unhide HPRE, unhide HJs⟩⟩
    · obtain ⟨k, rfl⟩ : ∃ k : Nat, i = k := ⟨i.toNat, by omega⟩
      have hk : k < t.nodes.length := by omega
      have hps : pre.length < (pathL t.nodes k).length := by
        have h1 := (below_pre a.isLt hanc).length_le
        have h2 := congrArg List.length hpre
        simp only [List.length_append, List.length_cons, List.length_nil, List.length_map] at h1 h2
        omega
      have hpf := hide (show (pre ++ [a]).map Fin.val <+: pathL t.nodes k from by rw [List.map_append, hpre]; exact below_pre a.isLt hanc)
      have HD := hide ((unhide HR).down hk hanc)
      have HPRE := hide hpre
      have HANC := hide hanc
      have HST := hide hst
      have HY2 := hide ((unhide HY) pre a wr hJs hps)
      have hlt := a.isLt
      clear hJs hps hpre hst hanc
      obtain ⟨a, ha⟩ := a
      simp only at HY2 HD HANC HPRE hlt
      gi_hideQ
      obtain ⟨fn, tmps, assign, body, hy, hR⟩ := unhide HY2
      clear HY2
      gi_wp2_with fail
      refine hR.mono ?_
      rintro e' W3 (⟨rfl, hJ3, hk3, hz3⟩ | ⟨rfl, hJx3⟩)
      · clear hy hR
        have hst3 := (unhide HST).trans hk3
        have b0 : Blk W3 p 25 #[.slice A t.nodes.length cap, .int .i64 t.groups, c] := (hst3 _ (.inr (.inl rfl))).trans (unhide HP)
        have b1 : Blk W3 q 3 #[.int .i64 (k : Int)] := (hst3 _ (.inr (.inr rfl))).trans (unhide HQ)
        have d0 := b0.cell 0
        have d1 := b0.cell 1
        have d2 := b0.cell 2
        have d3 := b1.cell 0
        have hz4 : W.heap.size ≤ W3.heap.size := Nat.le_trans hsz hz3
        have C := hide (kid_any t v B W3 (Nat.le_trans hB hz4) hlen (unhide HR) (stays_tree hst3 (unhide HT)) a ha (k : Int) (by omega) (by omega))
        rw [hv] at C
        have HST3 := hide hst3
        have HJ3 := hide hJ3
        have hpl := hide b0.lt
        have hql := hide b1.lt
        clear hst3 hJ3 b0 b1 hk3
        rcases unhide HD with ⟨rfl, hk1⟩ | ⟨m, hk1, hm1, hm2, hm3, hm4⟩
        · rw [hk1] at C
          have HB := hide (below_all (unhide HR) hk)
          clear hk1
          gi_wp2_with fail
          refine ⟨trivial, ?_⟩
          refine (callsIn_wide.2 (unhide C)).mono ?_
          rintro e w4 ⟨rfl, hb4⟩
          have hJ4 : J (pre ++ [⟨a, ha⟩]) w4 := (unhide HJ) _ _ _ none (unhide HJ3) (below_iff.1 hb4) (by simp)
          have hRR : PathRel t a B p q J W (.int .i64 0) (.bool false) w4 := by
            refine ⟨pre ++ [⟨a, ha⟩], hJ4, (unhide HST3).trans (Stays.of_below hb4 fun k hk => ?_), Nat.le_trans hz4 hb4.size, .inl ⟨rfl, ⟨0, rfl, rfl⟩, ?_⟩⟩
            · rcases hk with h | rfl | rfl
              · omega
              · exact unhide hpl
              · exact unhide hql
            · rw [List.map_append, unhide HPRE, unhide HB]; rfl
          have HRR := hide hRR
          clear C hb4 hJ4 hRR
          gi_wp2_with fail
          have hR := unhide HRR
          first | go_roundw | refine ⟨?rel, ?measure⟩
          case rel => exact hR
          case measure => simp [mu, intOf]; omega
        · rw [hk1] at C
          clear hk1
          gi_wp2_with fail
          refine ⟨trivial, ?_⟩
          refine (callsIn_wide.2 (unhide C)).mono ?_
          rintro e w4 ⟨rfl, hb4⟩
          have hJ4 : J (pre ++ [⟨a, ha⟩]) w4 := (unhide HJ) _ _ _ none (unhide HJ3) (below_iff.1 hb4) (by simp)
          have hRR : PathRel t k B p q J W (.int .i64 (m : Int)) (.bool true) w4 := by
            refine ⟨pre ++ [⟨a, ha⟩], hJ4, (unhide HST3).trans (Stays.of_below hb4 fun k hk => ?_), Nat.le_trans hz4 hb4.size, .inr ⟨⟨m, by omega⟩, rfl, rfl, hm1, ?_, hi0, hi1⟩⟩
            · rcases hk with h | rfl | rfl
              · omega
              · exact unhide hpl
              · exact unhide hql
            · rw [List.map_append, unhide HPRE]
              exact (below_step ha hm2 (unhide HANC) hm4).symm
          have HRR := hide hRR
          clear C hb4 hJ4 hRR
          gi_wp2_with fail
          have hR := unhide HRR
          first | go_roundw | refine ⟨?rel, ?measure⟩
          case rel => exact hR
          case measure => simp [mu, intOf]; omega
      · clear hy hR
        gi_wp2
        go_end0
        exact ⟨⟨_, rfl⟩, .inr ⟨_, unhide hpf, hJx3⟩⟩

/-- **Path HANDS BACK A VALUE THAT 'SeqStopsK'.** -/
theorem path_stops (n : Nat) (hn : 1 ≤ n) (B p q : Nat) (t : Tr) (A : Option Addr) (cap : Nat) (c : Value) (hlen : t.nodes.length ≤ 100000) (hr : Laid t.nodes) (i : Int)
    (w : World) (hB : B ≤ w.heap.size) (hT : TreeV w B t (.agg #[.slice A t.nodes.length cap, .int .i64 t.groups, c])) (hp : Blk w p 25 #[.slice A t.nodes.length cap, .int .i64 t.groups, c]) (hq : Blk w q 3 #[.int .i64 i]) :
    SeqStopsK Fence.wide n Tryd.prog 26 #[.pointer (some ⟨p, 0, none⟩), .pointer (some ⟨q, 0, none⟩)] (fun x : Fin t.nodes.length => #[Value.int .i64 (x.val : Int)]) (Keeps (KP B p q)) (fun ys => ys.map Fin.val = pathL t.nodes i)
      (fun pre => pre.map Fin.val <+: pathL t.nodes i) (pathL t.nodes i).length w := fun lb J Jx W hW hJ _ hY h0 =>
  path1_in n hn lb B p q t _ A cap c hlen hr rfl i J Jx W (Nat.le_trans hB hW.size) (hT.keep fun a ha => hW.cell (by omega)) (hp.below hW hp.lt) (hq.below hW hq.lt) hJ hY h0
theorem kp_lt {B p q : Nat} {w : World} (hB : B ≤ w.heap.size) (hp : p < w.heap.size) (hq : q < w.heap.size) : ∀ k, KP B p q k → k < w.heap.size := fun k hk => by
  rcases hk with h | rfl | rfl <;> omega

set_option maxHeartbeats 400000 in
/-- **Path** -/
theorem path_any (A : Option Addr) (n cap : Nat) (g : Int) (c : Value) (i : Int) (w : World) :
    Calls Tryd.prog 14 #[.agg #[.slice A n cap, .int .i64 g, c], .int .i64 i] w fun e w' => e = .returned (.func (.func 26) #[] #[.pointer (some ⟨w.heap.size, 0, none⟩), .pointer (some ⟨w.heap.size + 1, 0, none⟩)]) ∧
      w' = (w.alloc (.cells #[.slice A n cap, .int .i64 g, c] 25)).alloc (.cells #[.int .i64 i] 3) := by
  go_enter Tryd.func14, Tryd.ntmps14
  go_wp2
  go_ret
  exact ⟨rfl, rfl⟩

/-- the last of a list that isn't i -/
def lastN (i : Int) (l : List Nat) : Int := ((l.filter fun x : Nat => decide ((x : Int) ≠ i)).getLast?.map fun x : Nat => (x : Int)).getD (-1)
theorem lastN_snoc (i : Int) (l : List Nat) (x : Nat) : lastN i (l ++ [x]) = if (x : Int) = i then lastN i l else x := by
  unfold lastN
  rw [List.filter_append]
  split <;> rename_i h
  · rw [show ([x].filter fun x : Nat => decide ((x : Int) ≠ i)) = [] from by simp [h], List.append_nil]
  · rw [show ([x].filter fun x : Nat => decide ((x : Int) ≠ i)) = [x] from by simp [h]]
    simp
theorem lastN_path {L : List Nd} (h : Laid L) (i : Int) : lastN i (pathL L i) = parentN L i := by
  by_cases hi : 0 ≤ i ∧ i < L.length
  · obtain ⟨k, rfl⟩ : ∃ k : Nat, i = k := ⟨i.toNat, by omega⟩
    have hk : k < L.length := by omega
    have e := below_all h hk
    have hp := (h.path (i := (k : Int)) (pre := below L k k) (suf := []) (k := k) e).1
    rw [e, lastN_snoc, if_pos rfl, hp]
    unfold lastN
    rw [List.filter_eq_self.2 fun x hx => by
      have : x < k := by simpa using (List.mem_filter.1 hx).2
      simp; omega]
    cases (below L k k).getLast? <;> rfl
  · rw [h.nopath (by omega), h.noParent (by omega)]
    rfl

/-- BETWEEN TWO ROUNDS of Parent's loop. -/
def PInv {n : Nat} (i : Int) (w : World) (pre : List (Fin n)) (W : World) : Prop := (Boxed W (w.heap.size + 2) 3 (.int .i64 (lastN i (pre.map Fin.val))) ∧ Boxed W (w.heap.size + 1) 3 (.int .i64 i)) ∧ Below w.heap.size w W
theorem pinv_own {n : Nat} (i : Int) (w : World) (C : Nat) (hC : w.heap.size ≤ C) : OwnFrom C (PInv (n := n) i w) :=
  OwnFrom.and (OwnFrom.and (Own.from (boxed_own (w.heap.size + 2) 3 (fun pre : List (Fin n) => .int .i64 (lastN i (pre.map Fin.val)))) _) (Own.from (boxed_own _ _ _) _)) (ownFrom_below (Nat.le_refl _) hC)

set_option maxRecDepth 100000 in
set_option maxHeartbeats 2000000 in
/-- **Parent** -/
theorem ppar_any (t : Tr) (v : Value) (B : Nat) (w : World) (hB : B ≤ w.heap.size) (hf : Fit t) (hr : Laid t.nodes) (hT : TreeV w B t v) (i : Int) (hi : in64 i) :
    Calls Tryd.prog 10 #[v, .int .i64 i] w fun e w' => e = .returned (.int .i64 (parentN t.nodes i)) ∧ Below w.heap.size w w' := by
  refine (callsIn_wide (n := 3)).1 ?_
  have HT := hide hT
  obtain ⟨av, c, rfl, ⟨A, cap, rfl, hc1, hc2, hn⟩, hns⟩ := hT
  have HLP := hide (lastN_path hr i)
  have HR := hide hr
  clear hn hns hr
  have b0 := ((Blk.new w 25 #[.slice A t.nodes.length cap, .int .i64 t.groups, c]).alloc (.cells #[.int .i64 i] 3)).alloc (.cells #[.int .i64 (-1)] 3)
  have c0 := b0.cell 0
  have c1 := b0.cell 1
  have c2 := b0.cell 2
  clear b0
  refine callsIn_of_wp_marks Tryd.func10 rfl trivial ?_ rfl
  simp only [Tryd.ntmps10, List.size_toArray, List.length_cons, List.length_nil, Nat.reduceAdd, Nat.reduceSub, Array.replicate_succ, Array.replicate_zero, List.push_toArray, List.append_toArray, List.nil_append, List.cons_append]
  gi_wp2_with fail
  refine ⟨trivial, ?_⟩
  refine (callsIn_wide.2 (path_any A t.nodes.length cap t.groups c i _)).mono ?_
  rintro e w1 ⟨rfl, hw1⟩
  have hz1 : (((w.alloc (.cells #[.slice A t.nodes.length cap, .int .i64 t.groups, c] 25)).alloc (.cells #[.int .i64 i] 3)).alloc (.cells #[.int .i64 (-1)] 3)).heap.size = w.heap.size + 3 := by simp
  have hB3 : Below w.heap.size w (((w.alloc (.cells #[.slice A t.nodes.length cap, .int .i64 t.groups, c] 25)).alloc (.cells #[.int .i64 i] 3)).alloc (.cells #[.int .i64 (-1)] 3)) := (((Below.refl _ w).alloc (Nat.le_refl _) _).alloc (by simp) _).alloc (by simp; omega) _
  have bx1 : Boxed (((w.alloc (.cells #[.slice A t.nodes.length cap, .int .i64 t.groups, c] 25)).alloc (.cells #[.int .i64 i] 3)).alloc (.cells #[.int .i64 (-1)] 3)) (w.heap.size + 1) 3 (.int .i64 i) := by
    have := (Boxed.new (w.alloc (.cells #[.slice A t.nodes.length cap, .int .i64 t.groups, c] 25)) 3 (.int .i64 i)).alloc (.cells #[.int .i64 (-1)] 3)
    rwa [World.size_alloc] at this
  have bx2 : Boxed (((w.alloc (.cells #[.slice A t.nodes.length cap, .int .i64 t.groups, c] 25)).alloc (.cells #[.int .i64 i] 3)).alloc (.cells #[.int .i64 (-1)] 3)) (w.heap.size + 2) 3 (.int .i64 (-1)) := by
    have := Boxed.new ((w.alloc (.cells #[.slice A t.nodes.length cap, .int .i64 t.groups, c] 25)).alloc (.cells #[.int .i64 i] 3)) 3 (.int .i64 (-1))
    rwa [World.size_alloc, World.size_alloc] at this
  have HBX1 := hide bx1
  have HBX2 := hide bx2
  have HB3 := hide hB3
  clear bx1 bx2 hB3 c0 c1 c2
  generalize ((w.alloc (.cells #[.slice A t.nodes.length cap, .int .i64 t.groups, c] 25)).alloc (.cells #[.int .i64 i] 3)).alloc (.cells #[.int .i64 (-1)] 3) = w3 at *
  have bp : Blk w1 (w.heap.size + 3) 25 #[.slice A t.nodes.length cap, .int .i64 t.groups, c] := by
    have := (Blk.new w3 25 #[.slice A t.nodes.length cap, .int .i64 t.groups, c]).alloc (.cells #[.int .i64 i] 3)
    rw [hw1, ← hz1]; exact this
  have bq : Blk w1 (w.heap.size + 4) 3 #[.int .i64 i] := by
    have := Blk.new (w3.alloc (.cells #[.slice A t.nodes.length cap, .int .i64 t.groups, c] 25)) 3 #[.int .i64 i]
    rw [World.size_alloc, hz1] at this
    rw [hw1]; exact this
  have hz5 : w1.heap.size = w.heap.size + 5 := by rw [hw1]; simp [hz1]
  have hB5 : Below w.heap.size w w1 := by rw [hw1]; exact ((unhide HB3).alloc (unhide HB3).size _).alloc (by have := (unhide HB3).size; simp; omega) _
  have bx1 : Boxed w1 (w.heap.size + 1) 3 (.int .i64 i) := by rw [hw1]; exact ((unhide HBX1).alloc _).alloc _
  have bx2 : Boxed w1 (w.heap.size + 2) 3 (.int .i64 (-1)) := by rw [hw1]; exact ((unhide HBX2).alloc _).alloc _
  rw [hz1]
  clear hw1 HBX1 HBX2 HB3 hz1
  have hKlt := kp_lt (B := B) (p := w.heap.size + 3) (q := w.heap.size + 3 + 1) (w := w1) (by omega) (by omega) (by omega)
  gi_wp2_with fail
  refine wpIn_rangeFunc_ownG rfl (by omega) (gf := 26) (lb := #[.pointer (some ⟨w.heap.size + 3, 0, none⟩), .pointer (some ⟨w.heap.size + 3 + 1, 0, none⟩)]) rfl trivial (enters_of Tryd.func26 (by kernel_rfl) rfl)
    (path_stops (3 - 1) (by omega) B (w.heap.size + 3) (w.heap.size + 3 + 1) t A cap c hf.1 (unhide HR) i w1 (by omega) ((unhide HT).keep fun a ha => hB5.cell (by omega)) bp bq) keeps_t (keeps_b hKlt) (Below.refl _ _) (fun _ => rfl)
    (PInv i w)
    (fun _ _ _ => False)
    (pinv_own i w _ (by omega))
    (fun _ _ _ _ _ hs _ _ => hs)
    ⟨⟨bx2, bx1⟩, hB5⟩
    (fun x => { tmps := #[.agg #[.slice A t.nodes.length cap, .int .i64 t.groups, c], .int .i64 i, .pointer (some ⟨w.heap.size, 0, none⟩), .pointer (some ⟨w.heap.size + 1, 0, none⟩), .int .i64 0, .pointer (some ⟨w.heap.size + 2, 0, none⟩), .int .i64 (x.val : Int), .agg #[.slice A t.nodes.length cap, .int .i64 t.groups, c], .int .i64 i, .func (.func 26) #[] #[.pointer (some ⟨w.heap.size + 3, 0, none⟩), .pointer (some ⟨w.heap.size + 3 + 1, 0, none⟩)], .int .i64 (x.val : Int), undef, undef, undef, undef, undef], defers := [] }) ?assign ?body ?done ?stop
  case assign =>
    intro l x W K hK
    gi_wp2
    exact hK
  case body =>
    rintro l pre x W ⟨⟨hv, hbi⟩, hB⟩ hlt
    have hc := hv.cell
    have hfz := hv.frozen
    have hci := hbi.cell
    have HS := hide (lastN_snoc i (pre.map Fin.val) x.val)
    have HV := hide hv
    have HBI := hide hbi
    have HB := hide hB
    clear hv hbi hB
    by_cases hx : (x.val : Int) = i
    · have d1 : ((x.val : Int) != i) = false := by simp [hx]
      have HX := hide hx
      clear hx
      gi_wp2
      exact ⟨KeepsFrom.refl _ _, ⟨Stays.refl _ _, Nat.le_refl _⟩, ⟨by rw [List.map_append, List.map_cons, List.map_nil, unhide HS, if_pos (unhide HX)]; exact unhide HV, unhide HBI⟩, unhide HB⟩
    · have d1 : ((x.val : Int) != i) = true := by simp [hx]
      have HX := hide hx
      clear hx
      gi_wp2
      refine ⟨(KeepsOthers.setCell _ _ _).from _, ⟨fun k hk => Below.heap_setCell _ _ _ k ?_, by simp [World.setCell]⟩, ⟨by rw [List.map_append, List.map_cons, List.map_nil, unhide HS, if_neg (unhide HX)]; exact (unhide HV).set _, (unhide HBI).other (by omega) _⟩, (unhide HB).setCell (p := ⟨w.heap.size + 2, 0, none⟩) (by simp) _⟩
      rcases hk with h | h | h <;> (simp; omega)
  case done =>
    rintro D ys W hD hys ⟨⟨hv, hbi⟩, hB⟩ hK
    rw [hys, unhide HLP] at hv
    have hc := hv.cell
    gi_wp2
    refine ⟨by simp, .inl ⟨_, _, rfl, run_takeDeferred hK, ?_⟩⟩
    exact ⟨_, results_tmp rfl _ _ _, rfl, hB.trans (belowK_b (w := w) (Nat.le_refl _) W D _ _ (by omega) hK rfl rfl)⟩
  case stop =>
    rintro D c pre W _ _ h _
    exact h.elim
end Go.Proofs.YtckgbalmpddblaaDoor.As
