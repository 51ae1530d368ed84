/-
  The library's Backward at changes, and its closure, walked: a function value that hands each change, with its place, from behind, to whatever loop body keeps the changes and their box. No conditions but that the changes lie in memory.
-/
import Derived.RangeFuncBox
import Derived.RangeFuncNested
import Derived.RangeFuncLeaves
import Derived.RangeFuncBound
import Derived.RangeFuncCalls
import Derived.Shelf.Abstract
import Derived.OwnWalkIn
import Derived.TacticsInMore
import Derived.LoopNIn
import Derived.LoopIn
import Derived.Shelf.AbstractIn
import Derived.Laws.ByValue
import Derived.Test.YtjnljhigaapalaaUnSmall
set_option linter.unusedVariables false
set_option linter.unusedSimpArgs false
namespace Go.Proofs.Ytjnljhigaapalaa.Un
open Go.RowKit Go.Shelf Go.Proofs.Ytjnljhigaapalaa.Mem
attribute [local go_sem] Oper.semAt_some
def Stays (K : Nat → Prop) (A B : World) : Prop := ∀ k, K k → B.heap[k]? = A.heap[k]?
theorem Stays.refl (K : Nat → Prop) (A : World) : Stays K A A := fun _ _ => rfl
theorem Stays.trans {K : Nat → Prop} {A B C : World} (h : Stays K A B) (k : Stays K B C) : Stays K A C := fun i hi => (k i hi).trans (h i hi)
theorem Stays.of_below {K : Nat → Prop} {A B : World} {N : Nat} (h : Below N A B) (hK : ∀ k, K k → k < N) : Stays K A B := fun k hk => h.block k (hK k hk)
theorem Stays.cell {K : Nat → Prop} {A B : World} (h : Stays K A B) {p : Addr} (hp : K p.block) : B.cell? p = A.cell? p := World.cell?_of_block (w := A) (h _ hp)
def Keeps (K : Nat → Prop) (A B : World) : Prop := Stays K A B ∧ A.heap.size ≤ B.heap.size
theorem keeps_t {K : Nat → Prop} {A B C : World} (h : Keeps K A B) (k : Keeps K B C) : Keeps K A C := ⟨h.1.trans k.1, Nat.le_trans h.2 k.2⟩
theorem keeps_b {K : Nat → Prop} {w : World} (hK : ∀ k, K k → k < w.heap.size) (W : World) (l : Nat) (o o' : Obj) (hl : w.heap.size ≤ l) (h : W.heap[l]? = some o) (_ : o.isCells = false) (_ : o.isWalk = false) : Keeps K W (W.putObj l o') :=
  ⟨fun k hk => World.putObj_heap_other (by have := hK k hk; omega), by have := (grownBy_putObj' W l o').size; exact this⟩
def downL (n j : Nat) : List Nat := ((List.range n).drop j).reverse
theorem downL_top (n : Nat) : downL n n = [] := by unfold downL; simp
theorem downL_step {n j : Nat} (h : j < n) : downL n j = downL n (j + 1) ++ [j] := by
  unfold downL
  have e : (List.range n).drop j = j :: (List.range n).drop (j + 1) := by
    rw [List.drop_eq_getElem_cons (by simpa using h)]
    simp
  rw [e, List.reverse_cons]
theorem downL_pre (n j : Nat) : downL n j <+: downL n 0 := by
  unfold downL
  refine ⟨((List.range n).take j).reverse, ?_⟩
  rw [← List.reverse_append, List.take_append_drop, List.drop_zero]
theorem downL_len (n j : Nat) : (downL n j).length = n - j := by unfold downL; simp
def DRel {L : List Ch} (J : List (Fin L.length) → World → Prop) (K : Nat → Prop) (W : World) (i : Value) (wr : World) : Prop :=
  ∃ (pre : List (Fin L.length)) (j : Nat), i = .int .i64 ((j : Int) - 1) ∧ j ≤ L.length ∧ pre.map Fin.val = downL L.length j ∧ J pre wr ∧ Stays K W wr ∧ W.heap.size ≤ wr.heap.size
def chAt (L : List Ch) (x : Fin L.length) : Ch := L[x.val]
abbrev encD (L : List Ch) (x : Fin L.length) : Array Value := #[.int .i64 (x.val : Int), .agg #[.int .i64 ((chAt L x).1 : Int), .int .i64 (chAt L x).2]]
set_option maxRecDepth 100000 in
set_option maxHeartbeats 2000000 in
theorem bwd1_in (n : Nat) (hn : 1 ≤ n) (lb p tb off : Nat) (L : List Ch) (A : Option Addr) (c : Nat) (K : Nat → Prop) (hKp : K p) (hKt : 0 < L.length → K tb ∧ A = some ⟨tb, off, none⟩) (hlen : L.length ≤ 100000)
    (J Jx : List (Fin L.length) → World → Prop) (W : World) (hp : Blk W p 50 #[.slice A L.length c])
    (hc : ∀ k x, L[k]? = some x → W.cell? ⟨tb, off + k * 2, none⟩ = some (Mem.n64 x.1) ∧ W.cell? ⟨tb, off + k * 2 + 1, none⟩ = some (Mem.i64 x.2))
    (hY : ∀ pre x W1, J pre W1 → pre.length < L.length → YieldAt Fence.wide (n - 1) Try.prog lb (encD L x) W1 fun e W' =>
      (e = .returned (.bool true) ∧ J (pre ++ [x]) W' ∧ Keeps K W1 W') ∨ (e = .returned (.bool false) ∧ Jx (pre ++ [x]) W'))
    (h0 : J [] W) :
    CallsIn Fence.wide n Try.prog 23 #[.func (.yield lb) #[] #[], .pointer (some ⟨p, 0, none⟩)] W fun e W' => (∃ v, e = .returned v) ∧
      ((∃ ys, ys.map Fin.val = downL L.length 0 ∧ J ys W') ∨ (∃ pre, pre.map Fin.val <+: downL L.length 0 ∧ Jx pre W')) := by
  refine callsIn_of_wp Try.func23 rfl trivial ?_ rfl
  simp only [Try.ntmps23, List.size_toArray, List.length_cons, List.length_nil, Nat.reduceAdd, Nat.reduceSub, Array.replicate_succ, Array.replicate_zero, List.push_toArray, List.append_toArray, List.nil_append, List.cons_append]
  have c0 := hp.cell 0
  have HP := hide hp
  have HY := hide hY
  have HC := hide hc
  have HKT := hide hKt
  have HKP := hide hKp
  obtain ⟨m, hm⟩ : ∃ m, L.length = m := ⟨_, rfl⟩
  have HM := hide hm
  have w0 : IntKind.i64.wrap ((m : Int) - 1) = (m : Int) - 1 := by rw [IntKind.wrap_i64]; omega
  have hR0 := hide (show DRel J K W (.int .i64 ((m : Int) - 1)) W from ⟨[], m, rfl, by omega, by rw [hm, downL_top]; rfl, h0, Stays.refl _ _, Nat.le_refl _⟩)
  rw [hm] at c0 hlen
  clear hp hY hc hKt hKp h0 hm
  gi_wp2_with fail
  gi_loopw [3] (fun i wr => DRel J K W i wr) (fun i _ => (intOf i + 1).toNat)
  case atStart => exact unhide hR0
  case round =>
    obtain ⟨pre, j, rfl, hj, hpre, hJs, hst, hsz⟩ := hrel
    rw [unhide HM] at hj
    have HST := hide hst
    have HPRE := hide hpre
    rcases Nat.eq_zero_or_pos j with rfl | hjp
    · have HJs := hide hJs
      have d0 : decide (0 ≤ (((0 : Nat) : Int) - 1)) = false := by simp
      clear hJs hst hpre
      gi_hideQ
      gi_wp2
      go_end0
      exact ⟨⟨_, rfl⟩, .inl ⟨pre, unhide HPRE, unhide HJs⟩⟩
    · obtain ⟨k, rfl⟩ : ∃ k, j = k + 1 := ⟨j - 1, by omega⟩
      have hkl : k < L.length := by rw [unhide HM]; omega
      have hps : pre.length < L.length := by
        have h2 := congrArg List.length hpre
        rw [List.length_map, downL_len] at h2
        omega
      have hpf := hide (show (pre ++ [(⟨k, hkl⟩ : Fin L.length)]).map Fin.val = downL L.length k from by rw [List.map_append, hpre, downL_step hkl]; rfl)
      have HY2 := hide ((unhide HY) pre ⟨k, hkl⟩ wr hJs hps)
      have hKT := (unhide HKT) (by omega)
      obtain ⟨hKt, rfl⟩ := hKT
      obtain ⟨b0, b1⟩ := (unhide HC) k L[k] (List.getElem?_eq_getElem hkl)
      have d1 : wr.cell? ⟨tb, off + k * 2, none⟩ = some (.int .i64 (L[k].1 : Int)) := (hst.cell (p := ⟨tb, off + k * 2, none⟩) hKt).trans b0
      have d2 : wr.cell? ⟨tb, off + k * 2 + 1, none⟩ = some (.int .i64 L[k].2) := (hst.cell (p := ⟨tb, off + k * 2 + 1, none⟩) hKt).trans b1
      have d3 : wr.cell? ⟨p, 0, none⟩ = some (.slice (some ⟨tb, off, none⟩) m c) := (hst.cell (p := ⟨p, 0, none⟩) (unhide HKP)).trans c0
      have e1 : ((k + 1 : Nat) : Int) - 1 = (k : Int) := by omega
      rw [e1]
      have hkm : k < m := by omega
      have hkm2 : (k : Int) < (m : Int) := by omega
      have w1 : IntKind.i64.wrap ((k : Int) - 1) = (k : Int) - 1 := by rw [IntKind.wrap_i64]; omega
      obtain ⟨a, ha⟩ : ∃ a : Int, (L[k].1 : Int) = a := ⟨_, rfl⟩
      obtain ⟨b, hb⟩ : ∃ b : Int, L[k].2 = b := ⟨_, rfl⟩
      have e3 : encD L ⟨k, hkl⟩ = #[.int .i64 (k : Int), .agg #[.int .i64 a, .int .i64 b]] := by
        show #[Value.int .i64 (k : Int), .agg #[.int .i64 (L[k].1 : Int), .int .i64 L[k].2]] = _
        rw [ha, hb]
      rw [e3] at HY2
      rw [ha] at d1
      rw [hb] at d2
      clear hJs hps hpre hst hKt b0 b1 e1 ha hb e3
      gi_hideQ
      obtain ⟨fn, tmps, assign, body, hy, hR⟩ := unhide HY2
      clear HY2
      gi_wp2_with fail
      refine hR.mono ?_
      rintro e' W3 (⟨rfl, hJ3, hk3, hz3⟩ | ⟨rfl, hJx3⟩)
      · clear hy hR
        have HST3 := hide ((unhide HST).trans hk3)
        have HJ3 := hide hJ3
        clear hk3 hJ3
        gi_wp2_with fail
        have hRR : DRel J K W (.int .i64 ((k : Int) - 1)) W3 := ⟨pre ++ [⟨k, hkl⟩], k, rfl, by omega, unhide hpf, unhide HJ3, unhide HST3, Nat.le_trans hsz hz3⟩
        first | go_roundw | refine ⟨?rel, ?measure⟩
        case rel => exact hRR
        case measure => simp [intOf] <;> omega
      · clear hy hR
        have HJX := hide hJx3
        clear hJx3
        gi_wp2
        refine bodyPost_ret (results_none rfl _ _ _) rfl ?_
        exact ⟨⟨_, rfl⟩, .inr ⟨_, by rw [unhide hpf]; exact downL_pre _ _, unhide HJX⟩⟩
theorem bwd_stops (n : Nat) (hn : 1 ≤ n) (p tb off : Nat) (L : List Ch) (A : Option Addr) (c : Nat) (K : Nat → Prop) (hKp : K p) (hKt : 0 < L.length → K tb ∧ A = some ⟨tb, off, none⟩) (hlen : L.length ≤ 100000)
    (w : World) (hK : ∀ k, K k → k < w.heap.size) (hp : Blk w p 50 #[.slice A L.length c])
    (hc : ∀ k x, L[k]? = some x → w.cell? ⟨tb, off + k * 2, none⟩ = some (Mem.n64 x.1) ∧ w.cell? ⟨tb, off + k * 2 + 1, none⟩ = some (Mem.i64 x.2)) :
    SeqStopsK Fence.wide n Try.prog 23 #[.pointer (some ⟨p, 0, none⟩)] (encD L) (Keeps K) (fun ys => ys.map Fin.val = downL L.length 0)
      (fun pre => pre.map Fin.val <+: downL L.length 0) L.length w := fun lb J Jx W hW hJ _ hY h0 => by
  have hs : Stays K w W := Stays.of_below hW hK
  refine bwd1_in n hn lb p tb off L A c K hKp hKt hlen J Jx W ((hs _ hKp).trans hp) (fun k x hx => ?_) hY h0
  have hKT := (hKt (by have := (List.getElem?_eq_some_iff.1 hx).1; omega)).1
  have := hc k x hx
  exact ⟨(hs.cell (p := ⟨tb, off + k * 2, none⟩) hKT).trans this.1, (hs.cell (p := ⟨tb, off + k * 2 + 1, none⟩) hKT).trans this.2⟩
set_option maxHeartbeats 400000 in
theorem bwd_any (A : Option Addr) (n c : Nat) (w : World) : Calls Try.prog 21 #[.slice A n c] w fun e w' => e = .returned (.func (.func 23) #[] #[.pointer (some ⟨w.heap.size, 0, none⟩)]) ∧ w' = w.alloc (.cells #[.slice A n c] 50) := by
  go_enter Try.func21, Try.ntmps21
  go_wp2
  go_ret
  exact ⟨rfl, rfl⟩
end Go.Proofs.Ytjnljhigaapalaa.Un
