/-
  The law AstPaths, walked: true at any tree, any two numbers. Conditions: the tree lies in memory, and is not too great to be read; the numbers are ints; the table of forms holds what the program's text lays.
-/
import Derived.Test.YtckgbalmpddblaaDoorAsLawPathsWalk
import Derived.Test.YtckgbalmpddblaaDoorRegBridge
import Derived.Deep.RegionHeld3
set_option linter.unusedVariables false
set_option linter.unusedSimpArgs false
namespace Go.Proofs.YtckgbalmpddblaaDoor.As
open Go.RowKit Go.Proofs.YtckgbalmpddblaaDoor.Mem Go.Proofs.YtckgbalmpddblaaDoor.Rs

attribute [local go_sem] Oper.semAt_some
theorem keepsFrom_below {A B : World} (h : Below A.heap.size A B) (C : Nat) : KeepsFrom C A B := ⟨h.size, fun k o _ hk _ => (h.block k (Array.getElem?_eq_some_iff.1 hk).1).trans hk⟩
/-- the last of a list -/
def lastP (l : List Nat) : Int := (l.getLast?.map fun x : Nat => (x : Int)).getD (-1)
theorem lastP_snoc (l : List Nat) (x : Nat) : lastP (l ++ [x]) = x := by simp [lastP]
theorem path_pre {L : List Nd} (h : Laid L) {i : Int} {pre : List Nat} {k : Nat} (hp : pre ++ [k] <+: pathL L i) : parentN L (k : Int) = lastP pre ∧ insideI L i (k : Int) = true := by
  obtain ⟨s, hs⟩ := hp
  have e : pathL L i = pre ++ k :: s := by rw [← hs]; simp
  obtain ⟨a, b, c⟩ := h.path e
  refine ⟨?_, ?_⟩
  · rw [a]; unfold lastP; cases pre.getLast? <;> rfl
  · have h3 : (k : Int) ≤ i ∧ i < E L k := by simpa [anc] using b
    have := h.le k
    unfold insideI
    simp
    omega
theorem path_len (L : List Nd) (i : Int) : (pathL L i).length ≤ L.length := by
  unfold pathL
  exact Nat.le_trans (List.length_filter_le _ _) (by simp)
/-- how many of the first k nodes i is in -/
def cntP (L : List Nd) (i : Int) (k : Nat) : Nat := ((List.range k).filter fun q : Nat => insideI L i (q : Int)).length
theorem cnt_succ (L : List Nd) (i : Int) (k : Nat) : cntP L i (k + 1) = cntP L i k + (if insideI L i (k : Int) = true then 1 else 0) := by
  unfold cntP
  rw [List.range_succ, List.filter_append, List.length_append]
  congr 1
  cases h : insideI L i (k : Int) <;> simp [h]
theorem cnt_le (L : List Nd) (i : Int) (k : Nat) : cntP L i k ≤ k := by
  unfold cntP
  exact Nat.le_trans (List.length_filter_le _ _) (by simp)
theorem cnt_all {L : List Nd} {i : Int} (h0 : 0 ≤ i) (h1 : i < L.length) : cntP L i L.length = (pathL L i).length := by
  unfold cntP pathL
  congr 1
  refine List.filter_congr fun q _ => ?_
  unfold insideI anc
  rw [decide_eq_true h1, decide_eq_true (show (0 : Int) ≤ (q : Int) by omega), Int.toNat_natCast]
  simp
theorem lastP_path {L : List Nd} (h : Laid L) {i : Int} (h0 : 0 ≤ i) (h1 : i < L.length) : lastP (pathL L i) = i := by
  obtain ⟨k, rfl⟩ : ∃ k : Nat, i = k := ⟨i.toNat, by omega⟩
  obtain ⟨pre, e⟩ := h.last (i := k) (by omega)
  rw [e, lastP_snoc]
/-- the second loop -/
def CRel (L : List Nd) (i : Int) (W : World) (a k : Value) (wr : World) : Prop := ∃ q : Nat, a = .int .i64 (cntP L i q : Int) ∧ k = .int .i64 (q : Int) ∧ q ≤ L.length ∧ Below W.heap.size W wr
/-- BETWEEN TWO ROUNDS -/
def LInv {n : Nat} (m : Nat) (w5 : World) (pre : List (Fin n)) (W : World) : Prop := (Boxed W (m + 1) 3 (.int .i64 (lastP (pre.map Fin.val))) ∧ Boxed W m 3 (.int .i64 pre.length)) ∧ Below m w5 W
theorem linv_own {n : Nat} (m : Nat) (w5 : World) (C : Nat) (hw : m ≤ w5.heap.size) (hC : w5.heap.size ≤ C) (h5 : m + 2 ≤ C) : OwnFrom C (LInv (n := n) m w5) :=
  OwnFrom.and (OwnFrom.and (Own.from (boxed_own (m + 1) 3 (fun pre : List (Fin n) => .int .i64 (lastP (pre.map Fin.val)))) _) (Own.from (boxed_own m 3 (fun pre : List (Fin n) => .int .i64 pre.length)) _)) (ownFrom_below hw (Nat.le_trans hw hC))
/-- WHERE THE LOOP IS LEFT: by the stop, the result true; or what has come is no beginning of the path. -/
def LLeft {n : Nat} (L : List Nd) (i : Int) (m0 : Nat) (w5 : World) (c : Code) (pre : List (Fin n)) (W : World) : Prop :=
  ¬ (pre.map Fin.val <+: pathL L i) ∨ (c = .ret ∧ Boxed W (m0 + 1 + 1 + 1) 4 (.bool true) ∧ Below m0 w5 W)
theorem lleft_own {n : Nat} (L : List Nd) (i : Int) (m0 : Nat) (w5 : World) (C : Nat) (hw : m0 ≤ w5.heap.size) (hC : m0 + 4 ≤ C) (c : Code) : OwnFrom C (LLeft (n := n) L i m0 w5 c) := by
  rintro s W W' row h hg hr
  rcases h with h | ⟨h1, h2, h3⟩
  · exact .inl h
  · exact .inr ⟨h1, h2.kept hg (fun e => by have := (hr _ e.symm).1; omega), h3.grown hg (Nat.le_trans hw h3.size) (fun k e => by have := (hr _ e).1; omega)⟩

set_option maxRecDepth 100000 in
set_option maxHeartbeats 2000000 in
theorem paths_small (t : Tr) (A An : Option Addr) (cap cn : Nat) (i stop : Int) (w : World) (hG : Given t w A An cap cn) (hi : in64 i) (hj : in64 stop) (hn : (t.nodes.length : Int) ≤ 200) (hr : rightT t = true) :
    Calls Tryd.prog 4 #[.agg #[.slice A t.nodes.length cap, .int .i64 t.groups, .slice An t.names.length cn], .int .i64 i, .int .i64 stop] w fun e w' => e = .returned (.bool true) ∧ Below w.heap.size w w' := by
  refine (callsIn_wide (n := 3)).1 ?_
  obtain ⟨hT, hc1, hc2, hset, hin, hfm⟩ := hG
  have HT0 := hide hT
  have HSET := hide hset
  have HIN := hide hin
  have HI := hide hi
  have HJ := hide hj
  have HFM := hide hfm
  clear hT hset hin hi hj hfm
  refine callsIn_of_wp_marks Tryd.func4 rfl trivial ?_ rfl
  simp only [Tryd.ntmps4, List.size_toArray, List.length_cons, List.length_nil, Nat.reduceAdd, Nat.reduceSub, Array.replicate_succ, Array.replicate_zero, List.push_toArray, List.append_toArray, List.nil_append, List.cons_append]
  have d200 : decide (200 < (t.nodes.length : Int)) = false := decide_eq_false (by omega)
  gi_wp2_with fail
  refine ⟨trivial, ?_⟩
  obtain ⟨wA, hwA⟩ : ∃ wA, (((w.alloc (.cells #[.slice A t.nodes.length cap, .int .i64 t.groups, .slice An t.names.length cn] 25)).alloc (.cells #[.int .i64 i] 3)).alloc (.cells #[.int .i64 stop] 3)).alloc (.cells #[.bool false] 4) = wA := ⟨_, rfl⟩
  have hzA : wA.heap.size = w.heap.size + 4 := by rw [← hwA]; simp
  have bA : Below w.heap.size w wA := by rw [← hwA]; exact ((((Below.refl _ w).alloc (Nat.le_refl _) _).alloc (by simp) _).alloc (by simp; omega) _).alloc (by simp; omega) _
  have b3 : Blk wA w.heap.size 25 #[.slice A t.nodes.length cap, .int .i64 t.groups, .slice An t.names.length cn] := by rw [← hwA]; exact (((Blk.new w _ _).alloc _).alloc _).alloc _
  have b4 : Boxed wA (w.heap.size + 1) 3 (.int .i64 i) := by
    have := Boxed.new (w.alloc (.cells #[.slice A t.nodes.length cap, .int .i64 t.groups, .slice An t.names.length cn] 25)) 3 (.int .i64 i)
    rw [World.size_alloc] at this
    rw [← hwA]; exact (this.alloc _).alloc _
  have b5 : Boxed wA (w.heap.size + 1 + 1) 3 (.int .i64 stop) := by
    have := Boxed.new ((w.alloc (.cells #[.slice A t.nodes.length cap, .int .i64 t.groups, .slice An t.names.length cn] 25)).alloc (.cells #[.int .i64 i] 3)) 3 (.int .i64 stop)
    rw [World.size_alloc, World.size_alloc] at this
    rw [← hwA]; exact this.alloc _
  have b6 : Boxed wA (w.heap.size + 1 + 1 + 1) 4 (.bool false) := by
    have := Boxed.new (((w.alloc (.cells #[.slice A t.nodes.length cap, .int .i64 t.groups, .slice An t.names.length cn] 25)).alloc (.cells #[.int .i64 i] 3)).alloc (.cells #[.int .i64 stop] 3)) 4 (.bool false)
    rw [World.size_alloc, World.size_alloc, World.size_alloc] at this
    rw [← hwA]; exact this
  rw [hwA]
  have HTA := hide ((unhide HT0).below bA)
  have HFA := hide ((unhide HFM).below bA (Nat.le_refl _))
  have HF := hide (⟨by omega, unhide HSET, unhide HIN⟩ : Fit t)
  have HZ := hide hzA
  have HB := hide bA
  have H3 := hide b3
  have H4 := hide b4
  have H5 := hide b5
  have H6 := hide b6
  clear hwA hzA bA b3 b4 b5 b6 HT0 HFM HSET HIN
  refine (callsIn_wide.2 (anchor_any wA (unhide HFA))).mono ?_
  rintro e w1 ⟨rfl, hb⟩
  have hz1 : w.heap.size + 4 ≤ w1.heap.size := by have := hb.size; have := unhide HZ; omega
  have HB1 := hide ((unhide HB).trans (hb.mono (unhide HB).size))
  have HT1 := hide ((unhide HTA).keep (w' := w1) fun p hp => hb.cell (by have := unhide HZ; omega))
  have k3 := (unhide H3).below hb (by have := unhide HZ; omega)
  have c0 := k3.cell 0
  have c1 := k3.cell 1
  have c2 := k3.cell 2
  have HK3 := hide k3
  have HK4 := hide ((unhide H4).kept (below_iff.1 hb) (by simp))
  have HK5 := hide ((unhide H5).kept (below_iff.1 hb) (by simp))
  have HK6 := hide ((unhide H6).kept (below_iff.1 hb) (by simp))
  have HF1 := hide ((unhide HFA).below hb (Nat.le_refl _))
  clear hb k3 HB HTA H3 H4 H5 H6 HFA HZ
  gi_wp2_with fail
  refine ⟨trivial, ?_⟩
  refine (callsIn_wide.2 (right_any t _ w.heap.size w1 (by omega) (unhide HF) (unhide HT1) (unhide HF1))).mono ?_
  rintro e w2 ⟨rfl, hb⟩
  rw [hr]
  have hz2 : w.heap.size + 4 ≤ w2.heap.size := by have := hb.size; omega
  have HB2 := hide ((unhide HB1).trans (hb.mono (unhide HB1).size))
  have HT2 := hide ((unhide HT1).keep (w' := w2) fun p hp => hb.cell (by omega))
  have k3 := (unhide HK3).below hb (by omega)
  clear c0 c1 c2
  have HK3 := hide k3
  have HK4 := hide ((unhide HK4).kept (below_iff.1 hb) (by simp))
  have HK5 := hide ((unhide HK5).kept (below_iff.1 hb) (by simp))
  have HK6 := hide ((unhide HK6).kept (below_iff.1 hb) (by simp))
  clear hb k3 HB1 HT1 HF1 hz1
  have hb3 := ((unhide HK3).alloc (.cells #[.int .i64 0] 3)).alloc (.cells #[.int .i64 (-1)] 3)
  have c0 := hb3.cell 0
  have c1 := hb3.cell 1
  have c2 := hb3.cell 2
  have c4 := (((unhide HK4).alloc (.cells #[.int .i64 0] 3)).alloc (.cells #[.int .i64 (-1)] 3)).cell
  have HK3 := hide hb3
  clear hb3
  gi_wp2_with fail
  refine ⟨trivial, ?_⟩
  obtain ⟨m, hm⟩ : ∃ m, w2.heap.size = m := ⟨_, rfl⟩
  refine (callsIn_wide.2 (path_any A t.nodes.length cap t.groups (.slice An t.names.length cn) i _)).mono ?_
  rintro e w5 ⟨rfl, hw5⟩
  obtain ⟨w4, hw4⟩ : ∃ w4, (w2.alloc (.cells #[.int .i64 0] 3)).alloc (.cells #[.int .i64 (-1)] 3) = w4 := ⟨_, rfl⟩
  have hz4 : w4.heap.size = m + 2 := by rw [← hw4, ← hm]; simp
  have b24 : Below m w2 w4 := by rw [← hw4, ← hm]; exact ((Below.refl _ w2).alloc (Nat.le_refl _) _).alloc (by simp) _
  have bx0 : Boxed w4 m 3 (.int .i64 0) := by rw [← hw4, ← hm]; exact (Boxed.new w2 _ _).alloc _
  have bx1 : Boxed w4 (m + 1) 3 (.int .i64 (-1)) := by
    have := Boxed.new (w2.alloc (.cells #[.int .i64 0] 3)) 3 (.int .i64 (-1))
    rw [World.size_alloc, hm] at this
    rw [← hw4]; exact this
  rw [hw4] at hw5 ⊢
  rw [hw4] at HK3
  rw [hz4]
  have bp : Blk w5 (m + 2) 25 #[.slice A t.nodes.length cap, .int .i64 t.groups, .slice An t.names.length cn] := by
    have := (Blk.new w4 25 #[.slice A t.nodes.length cap, .int .i64 t.groups, .slice An t.names.length cn]).alloc (.cells #[.int .i64 i] 3)
    rw [hw5, ← hz4]; exact this
  have bq : Blk w5 (m + 2 + 1) 3 #[.int .i64 i] := by
    have := Blk.new (w4.alloc (.cells #[.slice A t.nodes.length cap, .int .i64 t.groups, .slice An t.names.length cn] 25)) 3 #[.int .i64 i]
    rw [World.size_alloc, hz4] at this
    rw [hw5]; exact this
  have hz5 : w5.heap.size = m + 4 := by rw [hw5]; simp [hz4]
  have b45 : Below (m + 2) w4 w5 := by rw [hw5, ← hz4]; exact ((Below.refl _ w4).alloc (Nat.le_refl _) _).alloc (by simp) _
  have b25 : Below m w2 w5 := b24.trans (b45.mono (by omega))
  have bx0 : Boxed w5 m 3 (.int .i64 0) := by rw [hw5]; exact (bx0.alloc _).alloc _
  have bx1 : Boxed w5 (m + 1) 3 (.int .i64 (-1)) := by rw [hw5]; exact (bx1.alloc _).alloc _
  have hm2 : w.heap.size + 4 ≤ m := by omega
  have HB5 := hide ((unhide HB2).trans (b25.mono (by omega)))
  have HT5 := hide ((unhide HT2).keep (w' := w5) fun p hp => b25.cell (by omega))
  have HK3 := hide ((unhide HK3).below b45 (by omega))
  have b25' : Below w2.heap.size w2 w5 := by rw [hm]; exact b25
  have HK4 := hide ((unhide HK4).kept (below_iff.1 b25') (by simp))
  have HK5 := hide ((unhide HK5).kept (below_iff.1 b25') (by simp))
  have HK6 := hide ((unhide HK6).kept (below_iff.1 b25') (by simp))
  rw [hm]
  have HL := hide (right_laid hr)
  have hlen := hide ((unhide HF).1)
  clear hw5 hw4 b24 b45 b25 b25' hm c0 c1 c2 c4 HB2 HT2 hz2 hz4
  have hKlt := kp_lt (B := w.heap.size) (p := m + 2) (q := m + 2 + 1) (w := w5) (by omega) (by omega) (by omega)
  gi_wp2_with fail
  refine wpIn_rangeFunc_ownG rfl (by omega) (gf := 26) (lb := #[.pointer (some ⟨m + 2, 0, none⟩), .pointer (some ⟨m + 2 + 1, 0, none⟩)]) rfl trivial (enters_of Tryd.func26 (by kernel_rfl) rfl)
    (path_stops (3 - 1) (by omega) w.heap.size (m + 2) (m + 2 + 1) t A cap (.slice An t.names.length cn) (unhide hlen) (unhide HL) i w5 (by omega) (unhide HT5) bp bq) keeps_t (keeps_b hKlt) (Below.refl _ _) (fun _ => rfl)
    (LInv m w5)
    (LLeft t.nodes i w.heap.size w5)
    (linv_own m w5 _ (by omega) (by omega) (by omega))
    (lleft_own t.nodes i w.heap.size w5 _ (by omega) (by omega))
    ⟨⟨bx1, bx0⟩, Below.refl _ _⟩
    (fun x => { tmps := #[.agg #[.slice A t.nodes.length cap, .int .i64 t.groups, .slice An t.names.length cn], .int .i64 i, .int .i64 stop, .pointer (some ⟨w.heap.size, 0, none⟩), .pointer (some ⟨w.heap.size + 1, 0, none⟩), .pointer (some ⟨w.heap.size + 1 + 1, 0, none⟩), .pointer (some ⟨w.heap.size + 1 + 1 + 1, 0, none⟩), .pointer (some ⟨m, 0, none⟩), .pointer (some ⟨m + 1, 0, none⟩), .int .i64 (x.val : Int), undef, undef, .bool true, .bool false, .pointer (some ⟨w.heap.size, 0, none⟩), .slice A t.nodes.length cap, .int .i64 (t.nodes.length : Int), .bool false, .bool false, .agg #[.slice A t.nodes.length cap, .int .i64 t.groups, .slice An t.names.length cn], .bool true, .bool false, .bool false, .agg #[.slice A t.nodes.length cap, .int .i64 t.groups, .slice An t.names.length cn], .int .i64 i, .func (.func 26) #[] #[.pointer (some ⟨m + 2, 0, none⟩), .pointer (some ⟨m + 2 + 1, 0, none⟩)], .int .i64 (x.val : Int), undef, undef, undef, undef, undef, undef, undef, undef, undef, undef, undef, undef, undef, undef, undef, undef, undef, undef, undef, undef, undef, undef, undef, undef, undef, undef, undef, undef, undef, undef, undef, undef, undef, undef, undef, undef, undef, undef, undef, undef, undef, undef, undef, undef, undef, undef, undef, undef, undef, undef], defers := [] }) ?assign ?body ?done ?stop
  case assign =>
    intro l x W K hK
    gi_wp2
    exact hK
  case body =>
    rintro l pre x W ⟨⟨hv, hbn⟩, hB⟩ hlt
    have hsW : m + 4 ≤ W.heap.size := by have := hB.size; omega
    have hbW : w.heap.size ≤ W.heap.size := by omega
    have hmW : m ≤ W.heap.size := by omega
    have HTW := hide ((unhide HT5).keep (w' := W) fun p hp => hB.cell (by omega))
    have HTB := hide ((unhide HK3).below hB (by omega))
    have HI4 := hide (show Boxed W (w.heap.size + 1) 3 (.int .i64 i) from (hB.block _ (by omega)).trans (unhide HK4))
    have HK5W := hide (show Boxed W (w.heap.size + 1 + 1) 3 (.int .i64 stop) from (hB.block _ (by omega)).trans (unhide HK5))
    have HK6W := hide (show Boxed W (w.heap.size + 1 + 1 + 1) 4 (.bool false) from (hB.block _ (by omega)).trans (unhide HK6))
    have hx64 : in64 (x.val : Int) := by have := x.isLt; constructor <;> omega
    obtain ⟨pv, hpv⟩ : ∃ pv, parentN t.nodes (x.val : Int) = pv := ⟨_, rfl⟩
    obtain ⟨iv, hiv⟩ : ∃ iv, insideI t.nodes i (x.val : Int) = iv := ⟨_, rfl⟩
    obtain ⟨lp, hlp⟩ : ∃ lp, lastP (pre.map Fin.val) = lp := ⟨_, rfl⟩
    rw [hlp] at hv
    have HPV := hide hpv
    have HIN := hide hiv
    have HV := hide hv
    have HBN := hide hbn
    have HB := hide hB
    by_cases e : pv = lp
    · have e0 : (pv != lp) = false := by simp [e]
      cases iv with
      | true =>
        clear hpv hiv hlp hv hbn hB e
        gi_wp2_with fail
        refine RegTail.wpIn_region_held (S := fun wx => Hid (Below W.heap.size W wx)) (by kernel_rfl) (by kernel_rfl) (show Hid (Below W.heap.size W _) from hide (Below.refl _ _).drew) (fun hS => ?_)
        refine wpAnyH_take (i := 0) (oi := { dst := some 27, op := _, type := _, pos := _, after := _, guard := _ }) (v := ?v0z1) rfl (by kernel_rfl) (by kernel_rfl) (by kernel_rfl) (fun _ _ _ h => h) (Or.inl ⟨by rfl, ?y0z1⟩) hS ?r0z1
        case y0z1 => (intro w hSw; (try dsimp only at hSw); have h0 := ((unhide HTB).below (unhide hSw) (unhide HTB).lt).cell 0; have h1 := ((unhide HTB).below (unhide hSw) (unhide HTB).lt).cell 1; have h2 := ((unhide HTB).below (unhide hSw) (unhide HTB).lt).cell 2; go_simp; try with_reducible rfl)
        try simp only [Act.put, List.setIfInBounds_toArray, List.set_cons_zero, List.set_cons_succ]
        refine wpAnyH_take (i := 1) (oi := { dst := some 28, op := _, type := _, pos := _, after := _, guard := _ }) (v := ?v1z2) rfl (by kernel_rfl) (by kernel_rfl) (by kernel_rfl) (fun _ _ _ h => h) (Or.inl ⟨by rfl, ?y1z2⟩) hS ?r1z2
        case y1z2 => (intro w hSw; (try dsimp only at hSw); go_simp; try with_reducible rfl)
        try simp only [Act.put, List.setIfInBounds_toArray, List.set_cons_zero, List.set_cons_succ]
        refine wpAnyH_take (i := 3) (oi := { dst := some 30, op := _, type := _, pos := _, after := _, guard := _ }) (v := ?v3z3) rfl (by kernel_rfl) (by kernel_rfl) (by kernel_rfl) (fun _ _ _ h => h) (Or.inl ⟨by rfl, ?y3z3⟩) hS ?r3z3
        case y3z3 => (intro w hSw; (try dsimp only at hSw); have h0 := ((unhide HV).kept (below_iff.1 (unhide hSw)) (by simp)).cell; go_simp; try with_reducible rfl)
        try simp only [Act.put, List.setIfInBounds_toArray, List.set_cons_zero, List.set_cons_succ]
        refine wpAnyH_ready (rs := [2]) (by kernel_rfl) (by simp) ?_
        refine AllReadyH.cons (o := { dst := some 29, op := _, type := _, pos := _, after := _, guard := _ }) rfl (fun K hK => ?_) AllReadyH.nil
        go_simp
        refine (ppar_any t _ w.heap.size _ (Nat.le_trans hbW (unhide hS).size) (unhide HF) (unhide HL) ((unhide HTW).keep fun p hp => (unhide hS).cell (by omega)) (x.val : Int) hx64).mono ?_
        rintro e wqhA ⟨rfl, hb⟩
        rw [unhide HPV]
        have HhA := hide ((unhide hS).trans (hb.mono (unhide hS).size))
        clear hb
        go_wp2_with fail
        refine hK.out _ _ HhA (fun hA => ?_)
        clear hK K
        try simp only [Act.put, List.setIfInBounds_toArray, List.set_cons_zero, List.set_cons_succ]
        refine wpAnyH_take (i := 4) (oi := { dst := some 31, op := _, type := _, pos := _, after := _, guard := _ }) (v := ?v4z4) rfl (by kernel_rfl) (by kernel_rfl) (by kernel_rfl) (fun _ _ _ h => h) (Or.inl ⟨by rfl, ?y4z4⟩) hA ?r4z4
        case y4z4 => (intro w hSw; (try dsimp only at hSw); go_simp; try with_reducible rfl)
        try simp only [Act.put, List.setIfInBounds_toArray, List.set_cons_zero, List.set_cons_succ]
        refine wpAnyH_take (i := 5) (oi := { dst := some 32, op := _, type := _, pos := _, after := _, guard := _ }) (v := ?v5z5) rfl (by kernel_rfl) (by kernel_rfl) (by kernel_rfl) (fun _ _ _ h => h) (Or.inl ⟨by rfl, ?y5z5⟩) hA ?r5z5
        case y5z5 => (intro w hSw; (try dsimp only at hSw); go_simp; try with_reducible rfl)
        try simp only [Act.put, List.setIfInBounds_toArray, List.set_cons_zero, List.set_cons_succ]
        refine wpAnyH_take (i := 6) (oi := { dst := some 33, op := _, type := _, pos := _, after := _, guard := _ }) (v := ?v6z6) rfl (by kernel_rfl) (by kernel_rfl) (by kernel_rfl) (fun _ _ _ h => h) (Or.inl ⟨by rfl, ?y6z6⟩) hA ?r6z6
        case y6z6 => (intro w hSw; (try dsimp only at hSw); have h0 := ((unhide HTB).below (unhide hSw) (unhide HTB).lt).cell 0; have h1 := ((unhide HTB).below (unhide hSw) (unhide HTB).lt).cell 1; have h2 := ((unhide HTB).below (unhide hSw) (unhide HTB).lt).cell 2; go_simp; try with_reducible rfl)
        try simp only [Act.put, List.setIfInBounds_toArray, List.set_cons_zero, List.set_cons_succ]
        refine wpAnyH_take (i := 7) (oi := { dst := some 34, op := _, type := _, pos := _, after := _, guard := _ }) (v := ?v7z7) rfl (by kernel_rfl) (by kernel_rfl) (by kernel_rfl) (fun _ _ _ h => h) (Or.inl ⟨by rfl, ?y7z7⟩) hA ?r7z7
        case y7z7 => (intro w hSw; (try dsimp only at hSw); have h0 := ((unhide HI4).kept (below_iff.1 (unhide hSw)) (by simp)).cell; go_simp; try with_reducible rfl)
        try simp only [Act.put, List.setIfInBounds_toArray, List.set_cons_zero, List.set_cons_succ]
        refine wpAnyH_take (i := 8) (oi := { dst := some 35, op := _, type := _, pos := _, after := _, guard := _ }) (v := ?v8z8) rfl (by kernel_rfl) (by kernel_rfl) (by kernel_rfl) (fun _ _ _ h => h) (Or.inl ⟨by rfl, ?y8z8⟩) hA ?r8z8
        case y8z8 => (intro w hSw; (try dsimp only at hSw); go_simp; try with_reducible rfl)
        try simp only [Act.put, List.setIfInBounds_toArray, List.set_cons_zero, List.set_cons_succ]
        refine wpAnyH_ready (rs := [9]) (by kernel_rfl) (by simp) ?_
        refine AllReadyH.cons (o := { dst := some 36, op := _, type := _, pos := _, after := _, guard := _ }) rfl (fun K hK => ?_) AllReadyH.nil
        go_simp
        refine (pin_any t _ w.heap.size _ (Nat.le_trans hbW (unhide hA).size) (unhide HF) (unhide HL) ((unhide HTW).keep fun p hp => (unhide hA).cell (by omega)) i (x.val : Int) (unhide HI) hx64).mono ?_
        rintro e wqhC ⟨rfl, hb⟩
        rw [unhide HIN]
        have HhC := hide ((unhide hA).trans (hb.mono (unhide hA).size))
        clear hb
        go_wp2_with fail
        refine hK.out _ _ HhC (fun hC => ?_)
        clear hK K
        try simp only [Act.put, List.setIfInBounds_toArray, List.set_cons_zero, List.set_cons_succ]
        refine wpAnyH_take (i := 10) (oi := { dst := some 37, op := _, type := _, pos := _, after := _, guard := _ }) (v := ?v10z9) rfl (by kernel_rfl) (by kernel_rfl) (by kernel_rfl) (fun _ _ _ h => h) (Or.inl ⟨by rfl, ?y10z9⟩) hC ?r10z9
        case y10z9 => (intro w hSw; (try dsimp only at hSw); go_simp; try with_reducible rfl)
        try simp only [Act.put, List.setIfInBounds_toArray, List.set_cons_zero, List.set_cons_succ]
        refine wpAnyH_take (i := 11) (oi := { dst := some 38, op := _, type := _, pos := _, after := _, guard := _ }) (v := ?v11z10) rfl (by kernel_rfl) (by kernel_rfl) (by kernel_rfl) (fun _ _ _ h => h) (Or.inl ⟨by rfl, ?y11z10⟩) hC ?r11z10
        case y11z10 => (intro w hSw; (try dsimp only at hSw); go_simp; try with_reducible rfl)
        try simp only [Act.put, List.setIfInBounds_toArray, List.set_cons_zero, List.set_cons_succ]
        refine wpAnyH_done (by kernel_rfl) ?_ _
        refine RegTail.only_norm ?_
        have bn := (unhide HBN).kept (below_iff.1 (unhide hC)) (by simp)
        have bl := (unhide HV).kept (below_iff.1 (unhide hC)) (by simp)
        have b5 := (unhide HK5W).kept (below_iff.1 (unhide hC)) (by simp)
        have b6 := (unhide HK6W).kept (below_iff.1 (unhide hC)) (by simp)
        have c7 := bn.cell
        have f7 := bn.frozen
        have c8 := bl.cell
        have f8 := bl.frozen
        have c5 := b5.cell
        have c6 := b6.cell
        have f6 := b6.frozen
        have hpl := hide (by simpa using hlt : pre.length < (pathL t.nodes i).length)
        have hpl2 := hide (path_len t.nodes i)
        have g3 : (pre.length : Int) ≤ 200 := by have := unhide hpl; have := unhide hpl2; omega
        have HBW := hide ((unhide HB).trans ((unhide hC).mono hmW))
        have HKF := hide (keepsFrom_below (unhide hC))
        have HBX := hide b6
        have HBY := hide bn
        have HBZ := hide bl
        clear bn bl b5 b6 hlt
        by_cases e3 : (pre.length : Int) + 1 = stop
        · have d3 : (((pre.length : Int) + 1) == stop) = true := by simp [e3]
          clear e3
          gi_wp2_with fail
          refine ⟨((unhide HKF) _).trans (((KeepsOthers.setCell _ _ _).from _).trans (((KeepsOthers.setCell _ _ _).from _).trans ((KeepsOthers.setCell _ _ _).from _))), .inr ⟨rfl, ?_, ?_⟩⟩
          · exact (((unhide HBX).other (by omega) _).other (by omega) _).set _
          · exact ((((unhide HBW).mono (by omega)).setCell (p := ⟨m + 1, 0, none⟩) (by show w.heap.size ≤ m + 1; omega) _).setCell (p := ⟨m, 0, none⟩) (by show w.heap.size ≤ m; omega) _).setCell (p := ⟨w.heap.size + 1 + 1 + 1, 0, none⟩) (by show w.heap.size ≤ w.heap.size + 1 + 1 + 1; omega) _
        · have d3 : (((pre.length : Int) + 1) == stop) = false := by simp [e3]
          clear e3
          gi_wp2_with fail
          refine ⟨((unhide HKF) _).trans (((KeepsOthers.setCell _ _ _).from _).trans ((KeepsOthers.setCell _ _ _).from _)), ⟨fun k hk => ?_, ?_⟩, ⟨?_, ?_⟩, ?_⟩
          · rw [Below.heap_setCell _ _ _ k (by rcases hk with h | h | h <;> (simp; omega)), Below.heap_setCell _ _ _ k (by rcases hk with h | h | h <;> (simp; omega))]
            exact (unhide hC).block k (by rcases hk with h | h | h <;> omega)
          · exact Nat.le_trans (unhide hC).size (by simp [World.setCell])
          · rw [List.map_append, List.map_cons, List.map_nil, lastP_snoc]
            exact ((unhide HBZ).set _).other (by omega) _
          · have := ((unhide HBY).other (B' := m + 1) (by omega) (.int .i64 (x.val : Int))).set (.int .i64 ((pre.length : Int) + 1))
            simpa using this
          · exact ((unhide HBW).setCell (p := ⟨m + 1, 0, none⟩) (by show m ≤ m + 1; omega) _).setCell (p := ⟨m, 0, none⟩) (Nat.le_refl _) _
      | false =>
        have HBAD := hide (show ¬ ((pre ++ [x]).map Fin.val <+: pathL t.nodes i) from fun hp => by
          rw [List.map_append] at hp
          have := (path_pre (unhide HL) hp).2
          rw [unhide HIN] at this
          cases this)
        clear hpv hiv hlp hv hbn hB e
        gi_wp2_with fail
        refine RegTail.wpIn_region_held (S := fun wx => Hid (Below W.heap.size W wx)) (by kernel_rfl) (by kernel_rfl) (show Hid (Below W.heap.size W _) from hide (Below.refl _ _).drew) (fun hS => ?_)
        refine wpAnyH_take (i := 0) (oi := { dst := some 27, op := _, type := _, pos := _, after := _, guard := _ }) (v := ?v0z11) rfl (by kernel_rfl) (by kernel_rfl) (by kernel_rfl) (fun _ _ _ h => h) (Or.inl ⟨by rfl, ?y0z11⟩) hS ?r0z11
        case y0z11 => (intro w hSw; (try dsimp only at hSw); have h0 := ((unhide HTB).below (unhide hSw) (unhide HTB).lt).cell 0; have h1 := ((unhide HTB).below (unhide hSw) (unhide HTB).lt).cell 1; have h2 := ((unhide HTB).below (unhide hSw) (unhide HTB).lt).cell 2; go_simp; try with_reducible rfl)
        try simp only [Act.put, List.setIfInBounds_toArray, List.set_cons_zero, List.set_cons_succ]
        refine wpAnyH_take (i := 1) (oi := { dst := some 28, op := _, type := _, pos := _, after := _, guard := _ }) (v := ?v1z12) rfl (by kernel_rfl) (by kernel_rfl) (by kernel_rfl) (fun _ _ _ h => h) (Or.inl ⟨by rfl, ?y1z12⟩) hS ?r1z12
        case y1z12 => (intro w hSw; (try dsimp only at hSw); go_simp; try with_reducible rfl)
        try simp only [Act.put, List.setIfInBounds_toArray, List.set_cons_zero, List.set_cons_succ]
        refine wpAnyH_take (i := 3) (oi := { dst := some 30, op := _, type := _, pos := _, after := _, guard := _ }) (v := ?v3z13) rfl (by kernel_rfl) (by kernel_rfl) (by kernel_rfl) (fun _ _ _ h => h) (Or.inl ⟨by rfl, ?y3z13⟩) hS ?r3z13
        case y3z13 => (intro w hSw; (try dsimp only at hSw); have h0 := ((unhide HV).kept (below_iff.1 (unhide hSw)) (by simp)).cell; go_simp; try with_reducible rfl)
        try simp only [Act.put, List.setIfInBounds_toArray, List.set_cons_zero, List.set_cons_succ]
        refine wpAnyH_ready (rs := [2]) (by kernel_rfl) (by simp) ?_
        refine AllReadyH.cons (o := { dst := some 29, op := _, type := _, pos := _, after := _, guard := _ }) rfl (fun K hK => ?_) AllReadyH.nil
        go_simp
        refine (ppar_any t _ w.heap.size _ (Nat.le_trans hbW (unhide hS).size) (unhide HF) (unhide HL) ((unhide HTW).keep fun p hp => (unhide hS).cell (by omega)) (x.val : Int) hx64).mono ?_
        rintro e wqhA ⟨rfl, hb⟩
        rw [unhide HPV]
        have HhA := hide ((unhide hS).trans (hb.mono (unhide hS).size))
        clear hb
        go_wp2_with fail
        refine hK.out _ _ HhA (fun hA => ?_)
        clear hK K
        try simp only [Act.put, List.setIfInBounds_toArray, List.set_cons_zero, List.set_cons_succ]
        refine wpAnyH_take (i := 4) (oi := { dst := some 31, op := _, type := _, pos := _, after := _, guard := _ }) (v := ?v4z14) rfl (by kernel_rfl) (by kernel_rfl) (by kernel_rfl) (fun _ _ _ h => h) (Or.inl ⟨by rfl, ?y4z14⟩) hA ?r4z14
        case y4z14 => (intro w hSw; (try dsimp only at hSw); go_simp; try with_reducible rfl)
        try simp only [Act.put, List.setIfInBounds_toArray, List.set_cons_zero, List.set_cons_succ]
        refine wpAnyH_take (i := 5) (oi := { dst := some 32, op := _, type := _, pos := _, after := _, guard := _ }) (v := ?v5z15) rfl (by kernel_rfl) (by kernel_rfl) (by kernel_rfl) (fun _ _ _ h => h) (Or.inl ⟨by rfl, ?y5z15⟩) hA ?r5z15
        case y5z15 => (intro w hSw; (try dsimp only at hSw); go_simp; try with_reducible rfl)
        try simp only [Act.put, List.setIfInBounds_toArray, List.set_cons_zero, List.set_cons_succ]
        refine wpAnyH_take (i := 6) (oi := { dst := some 33, op := _, type := _, pos := _, after := _, guard := _ }) (v := ?v6z16) rfl (by kernel_rfl) (by kernel_rfl) (by kernel_rfl) (fun _ _ _ h => h) (Or.inl ⟨by rfl, ?y6z16⟩) hA ?r6z16
        case y6z16 => (intro w hSw; (try dsimp only at hSw); have h0 := ((unhide HTB).below (unhide hSw) (unhide HTB).lt).cell 0; have h1 := ((unhide HTB).below (unhide hSw) (unhide HTB).lt).cell 1; have h2 := ((unhide HTB).below (unhide hSw) (unhide HTB).lt).cell 2; go_simp; try with_reducible rfl)
        try simp only [Act.put, List.setIfInBounds_toArray, List.set_cons_zero, List.set_cons_succ]
        refine wpAnyH_take (i := 7) (oi := { dst := some 34, op := _, type := _, pos := _, after := _, guard := _ }) (v := ?v7z17) rfl (by kernel_rfl) (by kernel_rfl) (by kernel_rfl) (fun _ _ _ h => h) (Or.inl ⟨by rfl, ?y7z17⟩) hA ?r7z17
        case y7z17 => (intro w hSw; (try dsimp only at hSw); have h0 := ((unhide HI4).kept (below_iff.1 (unhide hSw)) (by simp)).cell; go_simp; try with_reducible rfl)
        try simp only [Act.put, List.setIfInBounds_toArray, List.set_cons_zero, List.set_cons_succ]
        refine wpAnyH_take (i := 8) (oi := { dst := some 35, op := _, type := _, pos := _, after := _, guard := _ }) (v := ?v8z18) rfl (by kernel_rfl) (by kernel_rfl) (by kernel_rfl) (fun _ _ _ h => h) (Or.inl ⟨by rfl, ?y8z18⟩) hA ?r8z18
        case y8z18 => (intro w hSw; (try dsimp only at hSw); go_simp; try with_reducible rfl)
        try simp only [Act.put, List.setIfInBounds_toArray, List.set_cons_zero, List.set_cons_succ]
        refine wpAnyH_ready (rs := [9]) (by kernel_rfl) (by simp) ?_
        refine AllReadyH.cons (o := { dst := some 36, op := _, type := _, pos := _, after := _, guard := _ }) rfl (fun K hK => ?_) AllReadyH.nil
        go_simp
        refine (pin_any t _ w.heap.size _ (Nat.le_trans hbW (unhide hA).size) (unhide HF) (unhide HL) ((unhide HTW).keep fun p hp => (unhide hA).cell (by omega)) i (x.val : Int) (unhide HI) hx64).mono ?_
        rintro e wqhC ⟨rfl, hb⟩
        rw [unhide HIN]
        have HhC := hide ((unhide hA).trans (hb.mono (unhide hA).size))
        clear hb
        go_wp2_with fail
        refine hK.out _ _ HhC (fun hC => ?_)
        clear hK K
        try simp only [Act.put, List.setIfInBounds_toArray, List.set_cons_zero, List.set_cons_succ]
        refine wpAnyH_take (i := 10) (oi := { dst := some 37, op := _, type := _, pos := _, after := _, guard := _ }) (v := ?v10z19) rfl (by kernel_rfl) (by kernel_rfl) (by kernel_rfl) (fun _ _ _ h => h) (Or.inl ⟨by rfl, ?y10z19⟩) hC ?r10z19
        case y10z19 => (intro w hSw; (try dsimp only at hSw); go_simp; try with_reducible rfl)
        try simp only [Act.put, List.setIfInBounds_toArray, List.set_cons_zero, List.set_cons_succ]
        refine wpAnyH_take (i := 11) (oi := { dst := some 38, op := _, type := _, pos := _, after := _, guard := _ }) (v := ?v11z20) rfl (by kernel_rfl) (by kernel_rfl) (by kernel_rfl) (fun _ _ _ h => h) (Or.inl ⟨by rfl, ?y11z20⟩) hC ?r11z20
        case y11z20 => (intro w hSw; (try dsimp only at hSw); go_simp; try with_reducible rfl)
        try simp only [Act.put, List.setIfInBounds_toArray, List.set_cons_zero, List.set_cons_succ]
        refine wpAnyH_done (by kernel_rfl) ?_ _
        refine RegTail.only_norm ?_
        have b6 := (unhide HK6W).kept (below_iff.1 (unhide hC)) (by simp)
        have c6 := b6.cell
        have f6 := b6.frozen
        have HBW := unhide hC
        gi_wp2_with fail
        exact ⟨(keepsFrom_below HBW _).trans ((KeepsOthers.setCell _ _ _).from _), .inl (unhide HBAD)⟩
    · have e0 : (pv != lp) = true := by simp [e]
      have HBAD := hide (show ¬ ((pre ++ [x]).map Fin.val <+: pathL t.nodes i) from fun hp => by
        rw [List.map_append] at hp
        have := (path_pre (unhide HL) hp).1
        rw [unhide HPV] at this
        exact e (this.trans hlp))
      clear hpv hiv hlp hv hbn hB e
      gi_wp2_with fail
      refine RegTail.wpIn_region_held (S := fun wx => Hid (Below W.heap.size W wx)) (by kernel_rfl) (by kernel_rfl) (show Hid (Below W.heap.size W _) from hide (Below.refl _ _).drew) (fun hS => ?_)
      refine wpAnyH_take (i := 0) (oi := { dst := some 27, op := _, type := _, pos := _, after := _, guard := _ }) (v := ?v0z21) rfl (by kernel_rfl) (by kernel_rfl) (by kernel_rfl) (fun _ _ _ h => h) (Or.inl ⟨by rfl, ?y0z21⟩) hS ?r0z21
      case y0z21 => (intro w hSw; (try dsimp only at hSw); have h0 := ((unhide HTB).below (unhide hSw) (unhide HTB).lt).cell 0; have h1 := ((unhide HTB).below (unhide hSw) (unhide HTB).lt).cell 1; have h2 := ((unhide HTB).below (unhide hSw) (unhide HTB).lt).cell 2; go_simp; try with_reducible rfl)
      try simp only [Act.put, List.setIfInBounds_toArray, List.set_cons_zero, List.set_cons_succ]
      refine wpAnyH_take (i := 1) (oi := { dst := some 28, op := _, type := _, pos := _, after := _, guard := _ }) (v := ?v1z22) rfl (by kernel_rfl) (by kernel_rfl) (by kernel_rfl) (fun _ _ _ h => h) (Or.inl ⟨by rfl, ?y1z22⟩) hS ?r1z22
      case y1z22 => (intro w hSw; (try dsimp only at hSw); go_simp; try with_reducible rfl)
      try simp only [Act.put, List.setIfInBounds_toArray, List.set_cons_zero, List.set_cons_succ]
      refine wpAnyH_take (i := 3) (oi := { dst := some 30, op := _, type := _, pos := _, after := _, guard := _ }) (v := ?v3z23) rfl (by kernel_rfl) (by kernel_rfl) (by kernel_rfl) (fun _ _ _ h => h) (Or.inl ⟨by rfl, ?y3z23⟩) hS ?r3z23
      case y3z23 => (intro w hSw; (try dsimp only at hSw); have h0 := ((unhide HV).kept (below_iff.1 (unhide hSw)) (by simp)).cell; go_simp; try with_reducible rfl)
      try simp only [Act.put, List.setIfInBounds_toArray, List.set_cons_zero, List.set_cons_succ]
      refine wpAnyH_ready (rs := [2]) (by kernel_rfl) (by simp) ?_
      refine AllReadyH.cons (o := { dst := some 29, op := _, type := _, pos := _, after := _, guard := _ }) rfl (fun K hK => ?_) AllReadyH.nil
      go_simp
      refine (ppar_any t _ w.heap.size _ (Nat.le_trans hbW (unhide hS).size) (unhide HF) (unhide HL) ((unhide HTW).keep fun p hp => (unhide hS).cell (by omega)) (x.val : Int) hx64).mono ?_
      rintro e wqhA ⟨rfl, hb⟩
      rw [unhide HPV]
      have HhA := hide ((unhide hS).trans (hb.mono (unhide hS).size))
      clear hb
      go_wp2_with fail
      refine hK.out _ _ HhA (fun hA => ?_)
      clear hK K
      try simp only [Act.put, List.setIfInBounds_toArray, List.set_cons_zero, List.set_cons_succ]
      refine wpAnyH_take (i := 4) (oi := { dst := some 31, op := _, type := _, pos := _, after := _, guard := _ }) (v := ?v4z24) rfl (by kernel_rfl) (by kernel_rfl) (by kernel_rfl) (fun _ _ _ h => h) (Or.inl ⟨by rfl, ?y4z24⟩) hA ?r4z24
      case y4z24 => (intro w hSw; (try dsimp only at hSw); go_simp; try with_reducible rfl)
      try simp only [Act.put, List.setIfInBounds_toArray, List.set_cons_zero, List.set_cons_succ]
      refine wpAnyH_take (i := 5) (oi := { dst := some 32, op := _, type := _, pos := _, after := _, guard := _ }) (v := ?v5z25) rfl (by kernel_rfl) (by kernel_rfl) (by kernel_rfl) (fun _ _ _ h => h) (Or.inl ⟨by rfl, ?y5z25⟩) hA ?r5z25
      case y5z25 => (intro w hSw; (try dsimp only at hSw); go_simp; try with_reducible rfl)
      try simp only [Act.put, List.setIfInBounds_toArray, List.set_cons_zero, List.set_cons_succ]
      refine wpAnyH_take (i := 6) (oi := { dst := some 33, op := _, type := _, pos := _, after := _, guard := _ }) (v := undef) rfl (by kernel_rfl) (by kernel_rfl) (by kernel_rfl) (fun _ _ _ h => h) (Or.inr ⟨by rfl, rfl⟩) hA ?r6z26
      case' r6z26 => skip
      try simp only [Act.put, List.setIfInBounds_toArray, List.set_cons_zero, List.set_cons_succ]
      refine wpAnyH_take (i := 7) (oi := { dst := some 34, op := _, type := _, pos := _, after := _, guard := _ }) (v := undef) rfl (by kernel_rfl) (by kernel_rfl) (by kernel_rfl) (fun _ _ _ h => h) (Or.inr ⟨by rfl, rfl⟩) hA ?r7z27
      case' r7z27 => skip
      try simp only [Act.put, List.setIfInBounds_toArray, List.set_cons_zero, List.set_cons_succ]
      refine wpAnyH_take (i := 8) (oi := { dst := some 35, op := _, type := _, pos := _, after := _, guard := _ }) (v := undef) rfl (by kernel_rfl) (by kernel_rfl) (by kernel_rfl) (fun _ _ _ h => h) (Or.inr ⟨by rfl, rfl⟩) hA ?r8z28
      case' r8z28 => skip
      try simp only [Act.put, List.setIfInBounds_toArray, List.set_cons_zero, List.set_cons_succ]
      refine wpAnyH_take (i := 9) (oi := { dst := some 36, op := _, type := _, pos := _, after := _, guard := _ }) (v := undef) rfl (by kernel_rfl) (by kernel_rfl) (by kernel_rfl) (fun _ _ _ h => h) (Or.inr ⟨by rfl, rfl⟩) hA ?r9z29
      case' r9z29 => skip
      try simp only [Act.put, List.setIfInBounds_toArray, List.set_cons_zero, List.set_cons_succ]
      refine wpAnyH_take (i := 10) (oi := { dst := some 37, op := _, type := _, pos := _, after := _, guard := _ }) (v := undef) rfl (by kernel_rfl) (by kernel_rfl) (by kernel_rfl) (fun _ _ _ h => h) (Or.inr ⟨by rfl, rfl⟩) hA ?r10z30
      case' r10z30 => skip
      try simp only [Act.put, List.setIfInBounds_toArray, List.set_cons_zero, List.set_cons_succ]
      refine wpAnyH_take (i := 11) (oi := { dst := some 38, op := _, type := _, pos := _, after := _, guard := _ }) (v := ?v11z31) rfl (by kernel_rfl) (by kernel_rfl) (by kernel_rfl) (fun _ _ _ h => h) (Or.inl ⟨by rfl, ?y11z31⟩) hA ?r11z31
      case y11z31 => (intro w hSw; (try dsimp only at hSw); go_simp; try with_reducible rfl)
      try simp only [Act.put, List.setIfInBounds_toArray, List.set_cons_zero, List.set_cons_succ]
      refine wpAnyH_done (by kernel_rfl) ?_ _
      refine RegTail.only_norm ?_
      have b6 := (unhide HK6W).kept (below_iff.1 (unhide hA)) (by simp)
      have c6 := b6.cell
      have f6 := b6.frozen
      have HBW := unhide hA
      gi_wp2_with fail
      exact ⟨(keepsFrom_below HBW _).trans ((KeepsOthers.setCell _ _ _).from _), .inl (unhide HBAD)⟩
  case done =>
    rintro D ys W hD hys ⟨⟨hv, hbn⟩, hB⟩ hK
    have hsW : m + 4 ≤ W.heap.size := by have := hB.size; omega
    have hbW : w.heap.size ≤ W.heap.size := by omega
    have HTW := hide ((unhide HT5).keep (w' := W) fun p hp => hB.cell (by omega))
    have htb := (unhide HK3).below hB (by omega)
    have hi4 : Boxed W (w.heap.size + 1) 3 (.int .i64 i) := (hB.block _ (by omega)).trans (unhide HK4)
    have hk6 : Boxed W (w.heap.size + 1 + 1 + 1) 4 (.bool false) := (hB.block _ (by omega)).trans (unhide HK6)
    have hyl : ys.length = (pathL t.nodes i).length := by rw [← hys]; simp
    rw [hys] at hv
    rw [hyl] at hbn
    have HBW := hide ((unhide HB5).trans (hB.mono (by omega)))
    by_cases hio : i < 0 ∨ (t.nodes.length : Int) ≤ i
    · rw [(unhide HL).nopath hio] at hbn hv
      have c0 := htb.cell 0
      have c4 := hi4.cell
      have c7 : W.cell? ⟨m, 0, none⟩ = some (.int .i64 0) := hbn.cell
      have c6 := hk6.cell
      have f6 := hk6.frozen
      have HB4 := hide ((unhide HBW).setCell (p := ⟨w.heap.size + 1 + 1 + 1, 0, none⟩) (by show w.heap.size ≤ w.heap.size + 1 + 1 + 1; omega) (.bool true))
      have hK' := (KeepsOthers.setCell W ⟨w.heap.size + 1 + 1 + 1, 0, none⟩ (.bool true)).same D _ hK rfl
      have HC6 := hide (cell_kept (World.cell?_setCell_same' W ⟨w.heap.size + 1 + 1 + 1, 0, none⟩ (.bool true) (by rw [c6]; rfl)) (grownBy_putObj' _ D (.deferred none)) (fun r e => by cases e; exact ⟨_, hK', rfl⟩))
      have HK' := hide hK'
      clear hK hK' hv hbn hB htb hi4 hk6 hyl hys
      by_cases h0 : i < 0
      · have d0 : decide (i < 0) = true := decide_eq_true h0
        clear h0 hio
        gi_wp2
        refine ⟨by simp, .inl ⟨_, _, rfl, run_takeDeferred (unhide HK'), ?_⟩⟩
        have hc6 := unhide HC6
        refine ⟨.bool true, ?_, rfl, (unhide HB4).trans (belowK_b (w := w) (Nat.le_refl _) _ D _ _ (by omega) (unhide HK') rfl rfl)⟩
        simp [results, Tryd.f4, go_sem, hc6]
      · have d0 : decide (i < 0) = false := decide_eq_false h0
        have d1 : decide ((t.nodes.length : Int) ≤ i) = true := decide_eq_true (by omega)
        clear h0 hio
        gi_wp2
        refine ⟨by simp, .inl ⟨_, _, rfl, run_takeDeferred (unhide HK'), ?_⟩⟩
        have hc6 := unhide HC6
        refine ⟨.bool true, ?_, rfl, (unhide HB4).trans (belowK_b (w := w) (Nat.le_refl _) _ D _ _ (by omega) (unhide HK') rfl rfl)⟩
        simp [results, Tryd.f4, go_sem, hc6]
    · have h0 : 0 ≤ i := by omega
      have h1 : i < (t.nodes.length : Int) := by omega
      rw [lastP_path (unhide HL) h0 h1] at hv
      rw [← cnt_all h0 h1] at hbn
      have d0 : decide (i < 0) = false := decide_eq_false (by omega)
      have d1 : decide ((t.nodes.length : Int) ≤ i) = false := decide_eq_false (by omega)
      have c0 := htb.cell 0
      have c4 := hi4.cell
      have HTB := hide htb
      have HI4 := hide hi4
      have HK6W := hide hk6
      have HV := hide hv
      have HBN := hide hbn
      have HD := hide hD
      have HKD := hide hK
      clear hK hv hbn hB htb hi4 hk6 hyl hys hD hio h0 h1
      gi_wp2_with fail
      gi_loopw [10, 59] (fun a k wr => CRel t.nodes i W a k wr) (fun _ k _ => t.nodes.length - (intOf k).toNat)
      case atStart => exact ⟨0, rfl, rfl, Nat.zero_le _, Below.refl _ _⟩
      case round =>
        obtain ⟨k, rfl, rfl, hk, hbr⟩ := hrel
        gi_hideQ
        have hzr := hbr.size
        have HTR := hide ((unhide HTW).keep (w' := wr) fun p hp => hbr.cell (by omega))
        have htb := (unhide HTB).below hbr (unhide HTB).lt
        have hi4 := (unhide HI4).kept (below_iff.1 hbr) (by simp)
        have c0 := htb.cell 0
        have c1 := htb.cell 1
        have c2 := htb.cell 2
        have c4 := hi4.cell
        have hv := (unhide HV).kept (below_iff.1 hbr) (by simp)
        have hbn := (unhide HBN).kept (below_iff.1 hbr) (by simp)
        have hk6 := (unhide HK6W).kept (below_iff.1 hbr) (by simp)
        have HBR := hide hbr
        by_cases hlt : k < t.nodes.length
        · have hki : (k : Int) < (t.nodes.length : Int) := by omega
          have hk64 := hide (show in64 (k : Int) from by constructor <;> omega)
          have hcs := cnt_succ t.nodes i k
          have hcl := cnt_le t.nodes i k
          obtain ⟨ct, hct⟩ : ∃ ct, cntP t.nodes i k = ct := ⟨_, rfl⟩
          obtain ⟨iv, hiv⟩ : ∃ iv, insideI t.nodes i (k : Int) = iv := ⟨_, rfl⟩
          rw [hct] at hcs hcl ⊢
          rw [hiv] at hcs
          have hcl2 : (ct : Int) ≤ 200 := by omega
          have HCS := hide hcs
          have HIV := hide hiv
          clear hcs hcl hct hiv hv hbn hk6 htb hi4 hbr hzr
          gi_wp2_with fail
          refine ⟨trivial, ?_⟩
          refine (callsIn_wide.2 (pin_any t _ w.heap.size _ (by have := (unhide HBR).size; omega) (unhide HF) (unhide HL) (unhide HTR) i (k : Int) (unhide HI) (unhide hk64))).mono ?_
          rintro e wq ⟨rfl, hb⟩
          rw [unhide HIV]
          have hbq := (unhide HBR).trans (hb.mono (unhide HBR).size)
          cases iv with
          | true =>
            have hRR := hide (show CRel t.nodes i W (.int .i64 ((ct : Int) + 1)) (.int .i64 ((k : Int) + 1)) wq from ⟨k + 1, by rw [unhide HCS]; simp, by simp, by omega, hbq⟩)
            clear hb hbq
            gi_wp2_with fail
            have hR := unhide hRR
            first | go_roundw | refine ⟨?rel, ?measure⟩
            case rel => exact hR
            case measure => simp [intOf]; omega
          | false =>
            have hRR := hide (show CRel t.nodes i W (.int .i64 (ct : Int)) (.int .i64 ((k : Int) + 1)) wq from ⟨k + 1, by rw [unhide HCS]; simp, by simp, by omega, hbq⟩)
            clear hb hbq
            gi_wp2_with fail
            have hR := unhide hRR
            first | go_roundw | refine ⟨?rel, ?measure⟩
            case rel => exact hR
            case measure => simp [intOf]; omega
        · have hki : (t.nodes.length : Int) ≤ (k : Int) := by omega
          obtain rfl : k = t.nodes.length := by omega
          obtain ⟨ct, hct⟩ : ∃ ct, cntP t.nodes i t.nodes.length = ct := ⟨_, rfl⟩
          rw [hct] at hbn ⊢
          have c8 := hv.cell
          have c7 := hbn.cell
          have c6 := hk6.cell
          have f6 := hk6.frozen
          have e1 : (i == i) = true := by simp
          have e2 : ((ct : Int) == (ct : Int)) = true := by simp
          have HB4 := hide (((unhide HBW).trans (hbr.mono hbW)).setCell (p := ⟨w.heap.size + 1 + 1 + 1, 0, none⟩) (by show w.heap.size ≤ w.heap.size + 1 + 1 + 1; omega) (.bool true))
          have hKr := (hbr.block D (Array.getElem?_eq_some_iff.1 (unhide HKD)).1).trans (unhide HKD)
          have hK' := (KeepsOthers.setCell wr ⟨w.heap.size + 1 + 1 + 1, 0, none⟩ (.bool true)).same D _ hKr rfl
          have HC6 := hide (cell_kept (World.cell?_setCell_same' wr ⟨w.heap.size + 1 + 1 + 1, 0, none⟩ (.bool true) (by rw [c6]; rfl)) (grownBy_putObj' _ D (.deferred none)) (fun r e => by cases e; exact ⟨_, hK', rfl⟩))
          have HK' := hide hK'
          clear hct hKr hK' hv hbn hk6 htb hi4 hbr hzr hlt hk
          gi_wp2
          refine ⟨by simp, .inl ⟨_, _, rfl, run_takeDeferred (unhide HK'), ?_⟩⟩
          have hc6 := unhide HC6
          refine ⟨.bool true, ?_, rfl, (unhide HB4).trans (belowK_b (w := w) (Nat.le_refl _) _ D _ _ (by have := unhide HD; omega) (unhide HK') rfl rfl)⟩
          simp [results, Tryd.f4, go_sem, hc6]
  case stop =>
    rintro D c pre W hD hpre h hK
    rcases h with h | ⟨rfl, hr6, hb6⟩
    · exact absurd hpre h
    have HC6 := hide (cell_kept hr6.cell (grownBy_putObj' W D (.deferred none)) (fun r e => by cases e; exact ⟨_, hK, rfl⟩))
    have HB4 := hide ((unhide HB5).trans hb6)
    have HK' := hide hK
    clear hK hpre hr6 hb6
    gi_wp2
    refine ⟨by simp, .inl ⟨_, _, rfl, run_takeDeferred (unhide HK'), ?_⟩⟩
    have hc6 := unhide HC6
    refine ⟨.bool true, ?_, rfl, (unhide HB4).trans (belowK_b (w := w) (Nat.le_refl _) _ D _ _ (by omega) (unhide HK') rfl rfl)⟩
    simp [results, Tryd.f4, go_sem, hc6]

/-- **AstPaths** -/
theorem walkPaths (t : Tr) (A An : Option Addr) (cap cn : Nat) (i stop : Int) (w : World) (hG : Given t w A An cap cn) (hi : in64 i) (hj : in64 stop) :
    Calls Tryd.prog 4 #[.agg #[.slice A t.nodes.length cap, .int .i64 t.groups, .slice An t.names.length cn], .int .i64 i, .int .i64 stop] w fun e w' => e = .returned (.bool true) ∧ Below w.heap.size w w' := by
  by_cases hn : 200 < (t.nodes.length : Int)
  · exact paths_many t A An cap cn i stop w hG hi hj hn
  · cases hr : rightT t with
    | true => exact paths_small t A An cap cn i stop w hG hi hj (by omega) hr
    | false => exact paths_wrong t A An cap cn i stop w hG hi hj (by omega) hr
end Go.Proofs.YtckgbalmpddblaaDoor.As
