/-
  class.ranges and its closure, walked: a function value that hands the ranges whose ends a text tells, in order
-/
import Derived.RangeFuncBox
import Derived.RangeFuncNested
import Derived.RangeFuncLeaves
import Derived.RangeFuncBound
import Derived.RangeFuncCalls
import Derived.Shelf.Abstract
import Derived.OwnWalkIn
import Derived.TacticsInMore
import Derived.LoopNIn
import Derived.LoopIn
import Derived.Shelf.AbstractIn
import Derived.Laws.ByValue
import Derived.Deep.DeepMust
import Derived.Test.YtdeaaidbmneplaaDoorMRegTail
import Derived.Test.YtdeaaidbmneplaaDoorMClEnds
import Derived.Test.YtdeaaidbmneplaaDoorMRsCut
set_option linter.unusedSimpArgs false
set_option linter.unusedVariables false
namespace Go.Proofs.YtdeaaidbmneplaaDoor.Cl
open Go.RowKit Go.Shelf Go.Proofs.YtdeaaidbmneplaaDoor.Mem Go.Proofs.YtdeaaidbmneplaaDoor.Rs
attribute [local go_sem] Oper.semAt_some build_range run_not_true run_not_false
def Stays (K : Nat → Prop) (A B : World) : Prop := ∀ k, K k → B.heap[k]? = A.heap[k]?
theorem Stays.refl (K : Nat → Prop) (A : World) : Stays K A A := fun _ _ => rfl
theorem Stays.trans {K : Nat → Prop} {A B C : World} (h : Stays K A B) (k : Stays K B C) : Stays K A C := fun i hi => (k i hi).trans (h i hi)
theorem Stays.of_below {K : Nat → Prop} {A B : World} {N : Nat} (h : Below N A B) (hK : ∀ k, K k → k < N) : Stays K A B := fun k hk => h.block k (hK k hk)
def Keeps (K : Nat → Prop) (A B : World) : Prop := Stays K A B ∧ A.heap.size ≤ B.heap.size
theorem keeps_t {K : Nat → Prop} {A B C : World} (h : Keeps K A B) (k : Keeps K B C) : Keeps K A C := ⟨h.1.trans k.1, Nat.le_trans h.2 k.2⟩
theorem keeps_b {K : Nat → Prop} {w : World} (hK : ∀ k, K k → k < w.heap.size) (W : World) (l : Nat) (o o' : Obj) (hl : w.heap.size ≤ l) (h : W.heap[l]? = some o) (_ : o.isCells = false) (_ : o.isWalk = false) : Keeps K W (W.putObj l o') :=
  ⟨fun k hk => World.putObj_heap_other (by have := hK k hk; omega), by have := (grownBy_putObj' W l o').size; exact this⟩
theorem pre_step {l : List R} {k : Nat} {r : R} (hr : l[k]? = some r) : l.take (k + 1) = l.take k ++ [r] := by
  obtain ⟨hlt, e⟩ := List.getElem?_eq_some_iff.1 hr
  rw [List.take_succ_eq_append_getElem hlt, e]
def RRel (l : List R) (K : Nat → Prop) (J : List R → World → Prop) (W : World) (i : Value) (wr : World) : Prop := ∃ (k : Nat), i = .int .i64 (2 * (k : Int)) ∧ k ≤ l.length ∧ J (l.take k) wr ∧ Stays K W wr ∧ W.heap.size ≤ wr.heap.size
set_option maxRecDepth 100000 in
set_option maxHeartbeats 2000000 in
theorem ranges1_in (n : Nat) (hn : 1 ≤ n) (lb Bs : Nat) (e : ByteArray) (l : List R) (hE : EndsOf e l) (hl : l.length ≤ 100000) (K : Nat → Prop) (hKs : K Bs)
    (J Jx : List R → World → Prop) (W : World) (hJ : AbidesFrom W.heap.size J) (hK : ∀ k, K k → k < W.heap.size)
    (hY : ∀ pre x W1, J pre W1 → pre.length < l.length → YieldAt Fence.wide (n - 1) Tryd.prog lb #[.agg #[.int .i64 x.1, .int .i64 x.2]] W1 fun e W' =>
      (e = .returned (.bool true) ∧ J (pre ++ [x]) W' ∧ (Stays K W1 W' ∧ W1.heap.size ≤ W'.heap.size)) ∨ (e = .returned (.bool false) ∧ Jx (pre ++ [x]) W'))
    (hbox : Boxed W Bs 9 (.string e)) (h0 : J [] W) :
    CallsIn Fence.wide n Tryd.prog 57 #[.func (.yield lb) #[] #[], .pointer (some ⟨Bs, 0, none⟩)] W fun e W' => (∃ v, e = .returned v) ∧
      ((∃ ys, ys = l ∧ J ys W') ∨ (∃ pre, pre <+: l ∧ Jx pre W')) := by
  refine callsIn_of_wp Tryd.func57 rfl trivial ?_ rfl
  simp only [Tryd.ntmps57, List.size_toArray, List.length_cons, List.length_nil, Nat.reduceAdd, Nat.reduceSub, Array.replicate_succ, Array.replicate_zero, List.push_toArray, List.append_toArray, List.nil_append, List.cons_append]
  have HK := hide hK
  have HJ := hide hJ
  have HB := hide hbox
  have HY := hide hY
  have HE := hide hE
  clear hK hJ hbox hY hE
  gi_wp2
  gi_loopw [3] (fun i wr => RRel l K J W i wr) (fun i _ => 2 * l.length - (intOf i).toNat)
  case atStart => exact ⟨0, rfl, Nat.zero_le _, h0, Stays.refl _ _, Nat.le_refl _⟩
  case round =>
    obtain ⟨k, rfl, hk, hJs, hst, hsz⟩ := hrel
    have hbx : Boxed wr Bs 9 (.string e) := (hst _ hKs).trans (unhide HB)
    have hc := hbx.cell
    have hsize := (unhide HE).size
    gi_hideQ
    by_cases hlt : k < l.length
    · obtain ⟨r, hr⟩ : ∃ r, l[k]? = some r := ⟨_, List.getElem?_eq_getElem hlt⟩
      have hlo := (unhide HE).lo k r hr
      have hhi := (unhide HE).hi k r hr
      have hby := (unhide HE).byt r (List.mem_of_getElem? hr)
      have hlt' : 2 * (k : Int) + 1 < (e.size : Int) := by omega
      have hpf := hide (show l.take k ++ [r] <+: l from by rw [← pre_step hr]; exact List.take_prefix _ _)
      have hps := hide (show (l.take k).length < l.length by rw [List.length_take]; omega)
      have HST := hide hst
      have HJs := hide hJs
      have HN := hide (pre_step hr)
      clear hr hst hJs hbx
      obtain ⟨lo, hi⟩ := r
      simp only at hlo hhi hby
      have w1 : IntKind.i64.wrap lo = lo := wrap_id _ (by omega) (by omega)
      have w2 : IntKind.i64.wrap hi = hi := wrap_id _ (by omega) (by omega)
      have w5 : IntKind.i64.wrap (2 * (k : Int) + 1) = 2 * (k : Int) + 1 := wrap_id _ (by omega) (by omega)
      clear hby
      gi_wp2_with fail
      refine RegTail.wpIn_region_still_tail 11 (by kernel_rfl) (by kernel_rfl) ?_
      simp only [List.take_succ_cons, List.take_zero, List.drop_succ_cons, List.drop_zero]
      have hc2 : ({ wr with drawn := wr.drawn + 1 } : World).cell? ⟨Bs, 0, none⟩ = some (.string e) := hc
      have hJ1 : J (l.take k) ({ wr with drawn := wr.drawn + 1 } : World) := (unhide HJ) _ _ _ none (unhide HJs) (below_iff.1 (Below.refl wr.heap.size wr).drew) (by simp)
      have HSZ := hide (show W.heap.size ≤ ({ wr with drawn := wr.drawn + 1 } : World).heap.size from hsz)
      have HST1 := hide (show Stays K W ({ wr with drawn := wr.drawn + 1 } : World) from unhide HST)
      generalize ({ wr with drawn := wr.drawn + 1 } : World) = wd at *
      have HY2 := hide ((unhide HY) (l.take k) (lo, hi) wd hJ1 (unhide hps))
      clear hJ1 hc
      repeat still_step
      refine wpStill_nil ?_
      obtain ⟨fn, tmps, assign, body, hy, hR⟩ := unhide HY2
      clear HY2
      gi_wp2_with fail
      refine hR.mono ?_
      rintro e' W3 (⟨rfl, hJ3, hk3, hz3⟩ | ⟨rfl, hJx3⟩)
      · clear hy hR
        gi_wp2
        have hR : RRel l K J W (.int .i64 (2 * (k : Int) + 2)) W3 := ⟨k + 1, by go_num, by omega, by rw [unhide HN]; exact hJ3, (unhide HST1).trans hk3, Nat.le_trans (unhide HSZ) hz3⟩
        refine ⟨?rel, ?measure⟩
        case rel => first | exact hR | exact ⟨_, _, _, _, _, _, _, _, _, _, _, _, _, _, _, _, _, _, _, _, _, hR, rfl⟩
        case measure => simp [intOf]; omega
      · clear hy hR
        gi_wp2
        refine bodyPost_ret (results_none rfl _ _ _) rfl ?_
        exact ⟨⟨_, rfl⟩, .inr ⟨_, unhide hpf, hJx3⟩⟩
    · obtain rfl : k = l.length := by omega
      rw [List.take_length] at hJs
      have hlt' : (e.size : Int) ≤ 2 * ((l.length : Nat) : Int) + 1 := by omega
      have HJs := hide hJs
      clear hJs hst
      gi_wp2
      go_end0
      exact ⟨⟨_, rfl⟩, .inl ⟨_, by rfl, unhide HJs⟩⟩
set_option maxHeartbeats 400000 in
theorem ranges_any (e : ByteArray) (w : World) :
    Calls Tryd.prog 48 #[.string e] w fun x w' => x = .returned (.func (.func 57) #[] #[.pointer (some ⟨w.heap.size, 0, none⟩)]) ∧ w' = w.alloc (.cells #[.string e] 9) := by
  go_enter Tryd.func48, Tryd.ntmps48
  go_wp2
  go_ret
  exact ⟨rfl, rfl⟩
theorem ranges_stops (n : Nat) (hn : 1 ≤ n) (Bs : Nat) (e : ByteArray) (l : List R) (hE : EndsOf e l) (hl : l.length ≤ 100000) (K : Nat → Prop) (hKs : K Bs)
    (w : World) (hK : ∀ k, K k → k < w.heap.size) (hbox : Boxed w Bs 9 (.string e)) :
    SeqStopsK Fence.wide n Tryd.prog 57 #[.pointer (some ⟨Bs, 0, none⟩)] (fun x : R => #[.agg #[Value.int .i64 x.1, Value.int .i64 x.2]]) (Keeps K) (fun ys => ys = l)
      (fun pre => pre <+: l) l.length w := fun lb J Jx W hW hJ _ hY h0 => by
  have hs : Stays K w W := Stays.of_below hW hK
  exact ranges1_in n hn lb Bs e l hE hl K hKs J Jx W hJ (fun k hk => Nat.lt_of_lt_of_le (hK k hk) hW.size) hY ((hs _ hKs).trans hbox) h0
theorem blk_own (p : Nat) (t : TypeId) (cs : Array Value) (C : Nat) : OwnFrom C (fun (_ : Unit) W => Blk W p t cs) := fun _ X Y row hs hg hr =>
  hs.grown hg (fun e => by obtain ⟨-, o, ho, hc⟩ := hr p e.symm; rw [show X.heap[p]? = _ from hs] at ho; cases ho; cases hc)
end Go.Proofs.YtdeaaidbmneplaaDoor.Cl
