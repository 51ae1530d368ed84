/-
  fold.uppers and its closure, walked: a function value that hands all that go with a number, in the table's ord
-/
import Derived.RangeFuncBox
import Derived.RangeFuncNested
import Derived.RangeFuncLeaves
import Derived.RangeFuncBound
import Derived.RangeFuncCalls
import Derived.Shelf.Abstract
import Derived.OwnWalkIn
import Derived.TacticsInMore
import Derived.LoopNIn
import Derived.LoopIn
import Derived.Shelf.AbstractIn
import Derived.Laws.ByValue
import Derived.Test.YtdeaaidbmneplaaDoorMFoHas
set_option linter.unusedSimpArgs false
set_option linter.unusedVariables false
namespace Go.Proofs.YtdeaaidbmneplaaDoor.Fo
open Go.RowKit Go.Shelf Go.Proofs.YtdeaaidbmneplaaDoor.Mem
attribute [local go_sem] Oper.semAt_some
def Stays (K : Nat → Prop) (A B : World) : Prop := ∀ k, K k → B.heap[k]? = A.heap[k]?
theorem Stays.refl (K : Nat → Prop) (A : World) : Stays K A A := fun _ _ => rfl
theorem Stays.trans {K : Nat → Prop} {A B C : World} (h : Stays K A B) (k : Stays K B C) : Stays K A C := fun i hi => (k i hi).trans (h i hi)
theorem Stays.of_below {K : Nat → Prop} {A B : World} {N : Nat} (h : Below N A B) (hK : ∀ k, K k → k < N) : Stays K A B := fun k hk => h.block k (hK k hk)
theorem Stays.tab {K : Nat → Prop} {A B : World} {b off cap : Nat} (h : Stays K A B) (h0 : K 3) (h1 : K b) (hT : Tab b off cap A) : Tab b off cap B := hT.keep (h _ h0) (h _ h1)
theorem wrap_eq64 (x : Int) : IntKind.i64.wrap x = wrap64 x := IntWalk.i64_left x
theorem ups_append (low : Int) (a b : List Row) : upsP low (a ++ b) = upsP low a ++ upsP low b := by simp [upsP, List.filterMap_append]
theorem ups_step {low : Int} {k : Nat} {r : Row} (hr : U[k]? = some r) : upsP low (U.take (k + 1)) = upsP low (U.take k) ++ (if hasR (low - r.far) r then [low - r.far] else []) := by
  obtain ⟨hlt, e⟩ := List.getElem?_eq_some_iff.1 hr
  rw [List.take_succ_eq_append_getElem hlt, e, ups_append]
  congr 1
  unfold upsP
  rw [List.filterMap_cons, List.filterMap_nil]
  split <;> rename_i h <;> split at h <;> simp_all
theorem ups_take_le (low : Int) (k : Nat) : upsP low (U.take k) <+: upsP low U := ⟨upsP low (U.drop k), by rw [← ups_append, List.take_append_drop]⟩
set_option maxRecDepth 100000 in
set_option maxHeartbeats 2000000 in
theorem ups1_in (n : Nat) (hn : 1 ≤ n) (l Bs : Nat) (low : Int) (hlo : -9223372036854775808 ≤ low) (hhi : low ≤ 9223372036854775807) (K : Nat → Prop) {b off cap : Nat} (hKs : K Bs) (hK0 : K 3) (hK1 : K b)
    (J Jx : List Int → World → Prop) (W : World) (hJ : AbidesFrom W.heap.size J) (hK : ∀ k, K k → k < W.heap.size)
    (hY : ∀ pre x W1, J pre W1 → pre.length < (upsP low U).length → YieldAt Fence.wide (n - 1) Tryd.prog l #[.int .i64 x] W1 fun e W' =>
      (e = .returned (.bool true) ∧ J (pre ++ [x]) W' ∧ (Stays K W1 W' ∧ W1.heap.size ≤ W'.heap.size)) ∨ (e = .returned (.bool false) ∧ Jx (pre ++ [x]) W'))
    (hT : Tab b off cap W) (hbox : Boxed W Bs 3 (.int .i64 low)) (h0 : J [] W) :
    CallsIn Fence.wide n Tryd.prog 59 #[.func (.yield l) #[] #[], .pointer (some ⟨Bs, 0, none⟩)] W fun e W' => (∃ v, e = .returned v) ∧
      ((∃ ys, ys = upsP low U ∧ J ys W') ∨ (∃ pre, pre <+: upsP low U ∧ Jx pre W')) := by
  refine callsIn_of_wp Tryd.func59 rfl trivial ?_ rfl
  simp only [Tryd.ntmps59, List.size_toArray, List.length_cons, List.length_nil, Nat.reduceAdd, Nat.reduceSub, Array.replicate_succ, Array.replicate_zero, List.push_toArray, List.append_toArray, List.nil_append, List.cons_append]
  have hd := hT.head
  have HK := hide hK
  have HT := hide hT
  have HJ := hide hJ
  have HB := hide hbox
  have HY := hide hY
  clear hK hT hJ hbox hY
  gi_wp2
  gi_loopw [8] (fun i wr => ∃ (k : Nat), i = .int .i64 k ∧ k ≤ 24 ∧ J (upsP low (U.take k)) wr ∧ Stays K W wr ∧ W.heap.size ≤ wr.heap.size)
    (fun i _ => 24 - (intOf i).toNat)
  case atStart => exact ⟨0, rfl, Nat.zero_le _, h0, Stays.refl _ _, Nat.le_refl _⟩
  case round =>
    obtain ⟨k, rfl, hk, hJs, hst, hsz⟩ := hrel
    have hbx : Boxed wr Bs 3 (.int .i64 low) := (hst _ hKs).trans (unhide HB)
    by_cases hlt : k < 24
    · obtain ⟨r, hr⟩ : ∃ r, U[k]? = some r := ⟨_, List.getElem?_eq_getElem (show k < U.length from hlt)⟩
      obtain ⟨c0, c1, c2, c3⟩ := (hst.tab hK0 hK1 (unhide HT)).rows k r hr
      obtain ⟨a, z, s, f⟩ := r
      have hst' := hide (show upsP low (U.take (k + 1)) = upsP low (U.take k) ++ (if hasR (low - f) ⟨a, z, s, f⟩ then [low - f] else []) from ups_step hr)
      have hok := row_ok ⟨a, z, s, f⟩ (List.mem_of_getElem? hr)
      have hwrp := (show hasR (IntKind.i64.wrap (low - f)) ⟨a, z, s, f⟩ = hasR (low - f) ⟨a, z, s, f⟩ ∧ (hasR (low - f) ⟨a, z, s, f⟩ = true → IntKind.i64.wrap (low - f) = low - f) from has_wrap (List.mem_of_getElem? hr) hlo hhi)
      have hpf := hide (ups_take_le low (k + 1))
      have hlt' : (k : Int) < 24 := by omega
      have hk0 : (0 : Int) ≤ (k : Int) := by omega
      simp only at c0 c1 c2 c3 hok
      have cb := (hbx.alloc (.cells #[.int .i64 a, .int .i64 z, .int .i64 s, .int .i64 f] 100)).cell
      have HO := hide hok
      have HST := hide hst
      have HJs := hide hJs
      clear hr hd hok hst hJs hbx
      gi_wp2_with fail
      refine ⟨trivial, ?_⟩
      have hb1 : Below wr.heap.size wr (wr.alloc (.cells #[.int .i64 a, .int .i64 z, .int .i64 s, .int .i64 f] 100)) := (Below.refl _ wr).alloc (Nat.le_refl _) _
      clear c0 c1 c2 c3 cb
      obtain ⟨y, hy⟩ : ∃ y, wrap64 (low - f) = y := ⟨_, rfl⟩
      rw [wrap_eq64, hy] at hwrp
      have hwrp := hide hwrp
      rw [hy]
      refine (callsIn_wide.2 (has_any a z s f y _ (unhide HO).1 (unhide HO).2.2.1 (unhide HO).2.2.2.1)).mono ?_
      rintro e w1 ⟨rfl, hw1⟩
      have hb2 : Below wr.heap.size wr w1 := hb1.trans (hw1.mono (by simp))
      have hJ1 : J (upsP low (U.take k)) w1 := (unhide HJ) _ _ _ none (unhide HJs) (below_iff.1 hb2) (by simp)
      have hst1 : Stays K W w1 := (unhide HST).trans (Stays.of_below hb2 (fun i hi => Nat.lt_of_lt_of_le ((unhide HK) i hi) hsz))
      have hsz1 : W.heap.size ≤ w1.heap.size := Nat.le_trans hsz hb2.size
      clear hb1 hw1 hb2
      cases hh : hasR y ⟨a, z, s, f⟩ with
      | true =>
        have hh2 : hasR (low - f) ⟨a, z, s, f⟩ = true := (unhide hwrp).1.symm.trans hh
        have hyl : y = low - f := (unhide hwrp).2 hh2
        have hnew : upsP low (U.take (k + 1)) = upsP low (U.take k) ++ [y] := by rw [unhide hst', if_pos hh2, hyl]
        have hps : (upsP low (U.take k)).length < (upsP low U).length := by
          have := (unhide hpf).length_le
          rw [hnew] at this; simp at this; omega
        have HN := hide hnew
        have HY2 := hide ((unhide HY) (upsP low (U.take k)) y w1 hJ1 hps)
        clear hnew hps hyl hh2 hh hy
        obtain ⟨fn, tmps, assign, body, hy, hR⟩ := unhide HY2
        clear HY2
        gi_wp2_with fail
        refine hR.mono ?_
        rintro e W3 (⟨rfl, hJ3, hk3, hz3⟩ | ⟨rfl, hJx3⟩)
        · clear hy hR
          gi_wp2
          first | go_roundw | refine ⟨?rel, ?measure⟩
          case rel => exact ⟨k + 1, by go_num, by omega, by rw [unhide HN]; exact hJ3, hst1.trans hk3, Nat.le_trans hsz1 hz3⟩
          case measure => simp [intOf]; omega
        · clear hy hR
          gi_wp2
          refine bodyPost_ret (results_none rfl _ _ _) rfl ?_
          exact ⟨⟨_, rfl⟩, .inr ⟨_, unhide hpf, by rw [unhide HN]; exact hJx3⟩⟩
      | false =>
        have hh2 : hasR (low - f) ⟨a, z, s, f⟩ = false := (unhide hwrp).1.symm.trans hh
        have HN := hide (show upsP low (U.take (k + 1)) = upsP low (U.take k) by rw [unhide hst', hh2]; simp)
        clear hh2 hh hy
        gi_wp2
        refine ⟨fun f hf => trivial, ?_⟩
        gi_wp2
        first | go_roundw | refine ⟨?rel, ?measure⟩
        case rel => exact ⟨k + 1, by go_num, by omega, by rw [unhide HN]; exact hJ1, hst1, hsz1⟩
        case measure => simp [intOf]; omega
    · obtain rfl : k = 24 := by omega
      have HJs := hide hJs
      clear hJs
      gi_wp2
      go_end0
      exact ⟨⟨_, rfl⟩, .inl ⟨_, by rfl, unhide HJs⟩⟩
set_option maxHeartbeats 400000 in
theorem uppers_any (low : Int) (w : World) :
    Calls Tryd.prog 53 #[.int .i64 low] w fun e w' => e = .returned (.func (.func 59) #[] #[.pointer (some ⟨w.heap.size, 0, none⟩)]) ∧ w' = w.alloc (.cells #[.int .i64 low] 3) := by
  go_enter Tryd.func53, Tryd.ntmps53
  go_wp2
  go_ret
  exact ⟨rfl, rfl⟩
def Keeps (K : Nat → Prop) (A B : World) : Prop := Stays K A B ∧ A.heap.size ≤ B.heap.size
theorem keeps_t {K : Nat → Prop} {A B C : World} (h : Keeps K A B) (k : Keeps K B C) : Keeps K A C := ⟨h.1.trans k.1, Nat.le_trans h.2 k.2⟩
theorem keeps_b {K : Nat → Prop} {w : World} (hK : ∀ k, K k → k < w.heap.size) (W : World) (l : Nat) (o o' : Obj) (hl : w.heap.size ≤ l) (h : W.heap[l]? = some o) (_ : o.isCells = false) (_ : o.isWalk = false) : Keeps K W (W.putObj l o') :=
  ⟨fun k hk => World.putObj_heap_other (by have := hK k hk; omega), by have := (grownBy_putObj' W l o').size; exact this⟩
theorem ups_stops (n : Nat) (hn : 1 ≤ n) (Bs : Nat) (low : Int) (hlo : -9223372036854775808 ≤ low) (hhi : low ≤ 9223372036854775807) (K : Nat → Prop) {b off cap : Nat} (hKs : K Bs) (hK0 : K 3) (hK1 : K b)
    (w : World) (hK : ∀ k, K k → k < w.heap.size) (hT : Tab b off cap w) (hbox : Boxed w Bs 3 (.int .i64 low)) :
    SeqStopsK Fence.wide n Tryd.prog 59 #[.pointer (some ⟨Bs, 0, none⟩)] (fun x : Int => #[Value.int .i64 x]) (Keeps K) (fun ys => ys = upsP low U)
      (fun pre => pre <+: upsP low U) (upsP low U).length w := fun l J Jx W hW hJ _ hY h0 => by
  have hs : Stays K w W := Stays.of_below hW hK
  exact ups1_in n hn l Bs low hlo hhi K hKs hK0 hK1 J Jx W hJ (fun k hk => Nat.lt_of_lt_of_le (hK k hk) hW.size) hY (hs.tab hK0 hK1 hT) ((hs _ hKs).trans hbox) h0
end Go.Proofs.YtdeaaidbmneplaaDoor.Fo
