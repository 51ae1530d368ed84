/-
  sym.each and its closure, walked: a function value that hands every symbol of the bytes, with where it begins, in order, to whatever loop body keeps the bytes, their box and the library's two tables; it stops where the body says so. Conditions: the library's two tables hold what the program's text lays.
-/
import Derived.RangeFuncBox
import Derived.RangeFuncNested
import Derived.RangeFuncLeaves
import Derived.RangeFuncBound
import Derived.RangeFuncCalls
import Derived.Shelf.Abstract
import Derived.Shelf.RegionOpen
import Derived.OwnWalkIn
import Derived.TacticsInMore
import Derived.LoopNIn
import Derived.LoopIn
import Derived.Test.YtbnjhopodhjdhaaDoorSymAt
set_option linter.unusedVariables false
set_option linter.unusedSimpArgs false
namespace Go.Proofs.YtbnjhopodhjdhaaDoor.Each
open Go.RowKit Go.Shelf Go.Proofs.YtbnjhopodhjdhaaDoor.Sy Go.Proofs.YtbnjhopodhjdhaaDoor.Mem Go.Proofs.YtbnjhopodhjdhaaDoor.Utf Go.Proofs.YtbnjhopodhjdhaaDoor.At

attribute [local go_sem] Oper.semAt_some

/-- THE BLOCKS OF K LIE AS THEY LAY. -/
def Stays (K : Nat → Prop) (A B : World) : Prop := ∀ k, K k → B.heap[k]? = A.heap[k]?
theorem Stays.refl (K : Nat → Prop) (A : World) : Stays K A A := fun _ _ => rfl
theorem Stays.trans {K : Nat → Prop} {A B C : World} (h : Stays K A B) (k : Stays K B C) : Stays K A C := fun i hi => (k i hi).trans (h i hi)
theorem Stays.cell {K : Nat → Prop} {A B : World} (h : Stays K A B) {p : Addr} (hp : K p.block) : B.cell? p = A.cell? p := World.cell?_of_block (w := A) (h _ hp)
theorem Stays.tabs {K : Nat → Prop} {A B : World} (h : Stays K A B) (h0 : K 0) (h1 : K 1) (hT : Tabs A) : Tabs B :=
  ⟨fun c hc => (h.cell (p := ⟨0, c, none⟩) h0).trans (hT.1 c hc),
   fun i hi => ⟨(h.cell (p := ⟨1, 2 * i, none⟩) h1).trans (hT.2 i hi).1, (h.cell (p := ⟨1, 2 * i + 1, none⟩) h1).trans (hT.2 i hi).2⟩⟩
theorem Stays.of_below {K : Nat → Prop} {A B : World} {N : Nat} (h : Below N A B) (hK : ∀ k, K k → k < N) : Stays K A B := fun k hk => h.block k (hK k hk)

/-- THE BYTES bs LIE AT A, in a block of K. -/
def Lies (w : World) (K : Nat → Prop) (A : Option Addr) (bs : List UInt8) : Prop :=
  0 < bs.length → ∃ b off, A = some ⟨b, off, none⟩ ∧ K b ∧ ∀ j u, bs[j]? = some u → w.cell? ⟨b, off + j, none⟩ = some (u8 u)
theorem Lies.stays {K : Nat → Prop} {A : Option Addr} {bs : List UInt8} {w w' : World} (h : Lies w K A bs) (hs : Stays K w w') : Lies w' K A bs := fun hn => by
  obtain ⟨b, off, e, hb, hc⟩ := h hn
  exact ⟨b, off, e, hb, fun j u hu => (hs.cell (p := ⟨b, off + j, none⟩) hb).trans (hc j u hu)⟩

theorem at_lies (bs : List UInt8) (K : Nat → Prop) (k cap : Nat) (A : Option Addr) (w : World) (hT : Tabs w) (hk : k < bs.length) (hcap : bs.length ≤ cap) (hm : cap ≤ 9223372036854775807) (h : Lies w K A bs) :
    Calls Tryd.prog 11 #[.slice A bs.length cap, .int .i64 (k : Int)] w (Pair (at_ bs k) w) := by
  obtain ⟨b, off, rfl, _, hc⟩ := h (by omega)
  exact at_flat bs k b off cap w hT hk hcap hm hc

set_option maxRecDepth 100000 in
set_option maxHeartbeats 2000000 in
/-- **THE CLOSURE**: every symbol, with where it begins, is handed on, till the body says no. -/
theorem each1_in (n : Nat) (hn : 1 ≤ n) (l Bs cap : Nat) (A : Option Addr) (bs : List UInt8) (K : Nat → Prop) (hKs : K Bs) (hK0 : K 0) (hK1 : K 1)
    (hcap : bs.length ≤ cap) (hm : cap ≤ 9223372036854775807) (J Jx : List (Nat × Nat) → World → Prop) (W : World) (hJ : AbidesFrom W.heap.size J) (hK : ∀ k, K k → k < W.heap.size)
    (hY : ∀ pre x W1, J pre W1 → pre.length < (from_ bs 0).length → YieldAt Fence.wide (n - 1) Tryd.prog l #[.int .i64 (x.1 : Int), .int .i64 (x.2 : Int)] W1 fun e W' =>
      (e = .returned (.bool true) ∧ J (pre ++ [x]) W' ∧ (Stays K W1 W' ∧ W1.heap.size ≤ W'.heap.size)) ∨ (e = .returned (.bool false) ∧ Jx (pre ++ [x]) W'))
    (hT : Tabs W) (hbox : W.cell? ⟨Bs, 0, none⟩ = some (.slice A bs.length cap)) (hL : Lies W K A bs) (h0 : J [] W) :
    CallsIn Fence.wide n Tryd.prog 30 #[.func (.yield l) #[] #[], .pointer (some ⟨Bs, 0, none⟩)] W fun e W' => (∃ v, e = .returned v) ∧
      ((∃ ys, ys = from_ bs 0 ∧ J ys W') ∨ (∃ pre, pre <+: from_ bs 0 ∧ Jx pre W')) := by
  refine callsIn_of_wp Tryd.func30 rfl trivial ?_ rfl
  simp only [Tryd.ntmps30, List.size_toArray, List.length_cons, List.length_nil, Nat.reduceAdd, Nat.reduceSub, Array.replicate_succ, Array.replicate_zero, List.push_toArray, List.append_toArray, List.nil_append, List.cons_append]
  have HK := hide hK
  have HT := hide hT
  have HL := hide hL
  have HJ := hide hJ
  have HB := hide hbox
  have HY := hide hY
  clear hK hT hL hJ hbox hY
  gi_wp2
  gi_loopw [3] (fun i wr => ∃ (k : Nat) (pre : List (Nat × Nat)), i = .int .i64 k ∧ k ≤ bs.length ∧ pre ++ from_ bs k = from_ bs 0 ∧ J pre wr ∧ Stays K W wr ∧ W.heap.size ≤ wr.heap.size)
    (fun i _ => bs.length - (intOf i).toNat)
  case atStart => exact ⟨0, [], rfl, Nat.zero_le _, rfl, h0, Stays.refl _ _, Nat.le_refl _⟩
  case round =>
    obtain ⟨k, pre, rfl, hk, hpre, hJs, hst, hsz⟩ := hrel
    have hbx : wr.cell? ⟨Bs, 0, none⟩ = some (.slice A bs.length cap) := (hst.cell (p := ⟨Bs, 0, none⟩) hKs).trans (unhide HB)
    by_cases hlt : k < bs.length
    · have hps : pre.length < (from_ bs 0).length := by rw [← hpre, from_lt hlt]; simp
      have HP := hide hpre
      clear hpre
      have hsz2 := at_size bs hlt
      have htop := at_top bs k
      have hfr := hide (from_lt hlt)
      have HA := hide (at_lies bs K k cap A wr (hst.tabs hK0 hK1 (unhide HT)) hlt hcap hm ((unhide HL).stays hst))
      generalize at_ bs k = xm at *
      obtain ⟨x, m⟩ := xm
      simp only [] at hsz2 htop hfr
      gi_wp2_with fail
      refine ⟨trivial, ?_⟩
      refine (callsIn_wide.2 (unhide HA)).mono ?_
      rintro e w1 ⟨rfl, hB1⟩
      have hJ1 : J pre w1 := (unhide HJ) _ _ _ none hJs (below_iff.1 hB1) (by simp)
      have hst1 : Stays K W w1 := hst.trans (Stays.of_below hB1 (fun i hi => Nat.lt_of_lt_of_le ((unhide HK) i hi) hsz))
      have hsz1 : W.heap.size ≤ w1.heap.size := Nat.le_trans hsz hB1.size
      obtain ⟨fn, tmps, assign, body, hy, hR⟩ := (unhide HY) pre (k, x) w1 hJ1 hps
      dsimp only at hy
      clear hbx HA hJs hst
      gi_wp2_with fail
      refine hR.mono ?_
      rintro e W3 (⟨rfl, hJ3, hk3, hz3⟩ | ⟨rfl, hJx3⟩)
      · clear hy hR
        gi_wp2
        go_roundw
        case rel => exact ⟨k + m, pre ++ [(k, x)], by simp, by omega, by rw [List.append_assoc, List.singleton_append, ← unhide hfr]; exact unhide HP, hJ3, hst1.trans hk3, Nat.le_trans hsz1 hz3⟩
        case measure => simp [intOf]; omega
      · clear hy hR
        gi_wp2
        refine bodyPost_ret (results_none rfl _ _ _) rfl ?_
        refine ⟨⟨_, rfl⟩, .inr ⟨pre ++ [(k, x)], ⟨from_ bs (k + m), ?_⟩, hJx3⟩⟩
        rw [List.append_assoc, List.singleton_append, ← unhide hfr]
        exact unhide HP
    · obtain rfl : k = bs.length := by omega
      gi_wp2
      go_end0
      exact ⟨⟨_, rfl⟩, .inl ⟨pre, by rw [from_ge (Nat.le_refl _)] at hpre; simpa using hpre, hJs⟩⟩

set_option maxHeartbeats 400000 in
/-- **each(b)**: the bytes are boxed; the function value captures the box. -/
theorem each_any (A : Option Addr) (n cap : Nat) (w : World) :
    Calls Tryd.prog 24 #[.slice A n cap] w fun e w' => e = .returned (.func (.func 30) #[] #[.pointer (some ⟨w.heap.size, 0, none⟩)]) ∧ w' = w.alloc (.cells #[.slice A n cap] 22) := by
  go_enter Tryd.func24, Tryd.ntmps24
  go_wp2
  go_ret
  exact ⟨rfl, rfl⟩

/-- WHAT A ROUND MUST KEEP. -/
def Keeps (K : Nat → Prop) (A B : World) : Prop := Stays K A B ∧ A.heap.size ≤ B.heap.size
theorem keeps_t {K : Nat → Prop} {A B C : World} (h : Keeps K A B) (k : Keeps K B C) : Keeps K A C := ⟨h.1.trans k.1, Nat.le_trans h.2 k.2⟩
theorem keeps_b {K : Nat → Prop} {w : World} (hK : ∀ k, K k → k < w.heap.size) (W : World) (l : Nat) (o o' : Obj) (hl : w.heap.size ≤ l) (h : W.heap[l]? = some o) (_ : o.isCells = false) (_ : o.isWalk = false) : Keeps K W (W.putObj l o') :=
  ⟨fun k hk => World.putObj_heap_other (by have := hK k hk; omega), by have := (grownBy_putObj' W l o').size; exact this⟩
/-- **each(b) HANDS BACK A VALUE THAT 'SeqStopsK'.** -/
theorem each_stops (n : Nat) (hn : 1 ≤ n) (Bs cap : Nat) (A : Option Addr) (bs : List UInt8) (K : Nat → Prop) (hKs : K Bs) (hK0 : K 0) (hK1 : K 1)
    (hcap : bs.length ≤ cap) (hm : cap ≤ 9223372036854775807) (w : World) (hK : ∀ k, K k → k < w.heap.size)
    (hT : Tabs w) (hbox : w.cell? ⟨Bs, 0, none⟩ = some (.slice A bs.length cap)) (hL : Lies w K A bs) :
    SeqStopsK Fence.wide n Tryd.prog 30 #[.pointer (some ⟨Bs, 0, none⟩)] (fun x : Nat × Nat => #[Value.int .i64 (x.1 : Int), Value.int .i64 (x.2 : Int)]) (Keeps K) (fun ys => ys = from_ bs 0)
      (fun pre => pre <+: from_ bs 0) (from_ bs 0).length w := fun l J Jx W hW hJ _ hY h0 => by
  have hs : Stays K w W := Stays.of_below hW hK
  exact each1_in n hn l Bs cap A bs K hKs hK0 hK1 hcap hm J Jx W hJ (fun k hk => Nat.lt_of_lt_of_le (hK k hk) hW.size) hY (hs.tabs hK0 hK1 hT) ((hs.cell (p := ⟨Bs, 0, none⟩) hKs).trans hbox) (hL.stays hs) h0
end Go.Proofs.YtbnjhopodhjdhaaDoor.Each
