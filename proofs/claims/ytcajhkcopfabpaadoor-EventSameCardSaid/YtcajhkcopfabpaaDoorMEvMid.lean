/-
  What is known of two states, and of a copy, while the law EventSame goes on.
-/
import Derived.Test.YtcajhkcopfabpaaDoorMEvAnchor
import Derived.Test.YtcajhkcopfabpaaDoorMEvSame
set_option linter.unusedSimpArgs false
set_option linter.unusedVariables false
namespace Go.Proofs.YtcajhkcopfabpaaDoor.Ev
open Go.RowKit Go.Proofs.YtcajhkcopfabpaaDoor.Mem
structure S2 (a b : St) (A B : Option Addr) (ca cb : Nat) (w : World) (wx : World) : Prop where
  boxA : Blk wx w.heap.size 24 #[.int .i64 a.kind, .int .i64 a.node, .int .i64 a.phase, .int .i64 a.pos, .int .i64 a.start, .int .i64 a.depth, .int .i64 a.origin, .slice A a.caps.length ca]
  boxB : Blk wx (w.heap.size + 1) 24 #[.int .i64 b.kind, .int .i64 b.node, .int .i64 b.phase, .int .i64 b.pos, .int .i64 b.start, .int .i64 b.depth, .int .i64 b.origin, .slice B b.caps.length cb]
  rA : Reads wx w.heap.size 1 A a.caps.length (a.caps.map Mem.i64)
  rB : Reads wx w.heap.size 1 B b.caps.length (b.caps.map Mem.i64)
  bel : Below w.heap.size w wx
theorem S2.below {a b : St} {A B : Option Addr} {ca cb : Nat} {w : World} {wx wy : World} (h : S2 a b A B ca cb w wx) (hb : Below wx.heap.size wx wy) : S2 a b A B ca cb w wy :=
  ⟨h.boxA.below hb h.boxA.lt, h.boxB.below hb h.boxB.lt, h.rA.below (hb.mono h.bel.size), h.rB.below (hb.mono h.bel.size), h.bel.trans (hb.mono h.bel.size)⟩
theorem S2.drewN {a b : St} {A B : Option Addr} {ca cb : Nat} {w : World} {wx : World} (h : S2 a b A B ca cb w wx) (k : Nat) : S2 a b A B ca cb w (wx.drewN k) := h.below (below_drewN (Below.refl _ _) k)
theorem S2.grown {a b : St} {A B : Option Addr} {ca cb : Nat} {w : World} {wx wy : World} {row : Option Nat} (h : S2 a b A B ca cb w wx) (hg : wx.grownBy wy row) (hr : ∀ g, row = some g → w.heap.size + 2 ≤ g) : S2 a b A B ca cb w wy :=
  ⟨h.boxA.grown hg (fun e => by have := hr _ e.symm; omega), h.boxB.grown hg (fun e => by have := hr _ e.symm; omega), h.rA.grown hg h.bel.size (fun g e => by have := hr _ e; omega), h.rB.grown hg h.bel.size (fun g e => by have := hr _ e; omega), h.bel.grown hg h.bel.size (fun g e => by have := hr _ e; omega)⟩
theorem S2.set {a b : St} {A B : Option Addr} {ca cb : Nat} {w : World} {wx : World} {g i : Nat} (h : S2 a b A B ca cb w wx) (hg : w.heap.size + 2 ≤ g) (u : Value) : S2 a b A B ca cb w (wx.setCell ⟨g, i, none⟩ u) :=
  ⟨h.boxA.far (p := ⟨g, i, none⟩) (by show w.heap.size ≠ g; omega) u, h.boxB.far (p := ⟨g, i, none⟩) (by show w.heap.size + 1 ≠ g; omega) u, h.rA.setCell (p := ⟨g, i, none⟩) (by show w.heap.size ≤ g; omega) u, h.rB.setCell (p := ⟨g, i, none⟩) (by show w.heap.size ≤ g; omega) u, h.bel.setCell (p := ⟨g, i, none⟩) (by show w.heap.size ≤ g; omega) u⟩
theorem S2.two {a b : St} {A B : Option Addr} {ca cb : Nat} {w : World} {wx : World} (h : S2 a b A B ca cb w wx) : w.heap.size + 2 ≤ wx.heap.size := h.boxB.lt
theorem S2.cA {a b : St} {A B : Option Addr} {ca cb : Nat} {w : World} {wx : World} (h : S2 a b A B ca cb w wx) (h1 : a.caps.length ≤ ca) (h2 : ca ≤ 9223372036854775807) : CV a.caps A ca wx := ⟨h1, h2, h.rA.more h.bel.size⟩
theorem S2.cB {a b : St} {A B : Option Addr} {ca cb : Nat} {w : World} {wx : World} (h : S2 a b A B ca cb w wx) (h1 : b.caps.length ≤ cb) (h2 : cb ≤ 9223372036854775807) : CV b.caps B cb wx := ⟨h1, h2, h.rB.more h.bel.size⟩
theorem S2.held {a b : St} {A B : Option Addr} {ca cb : Nat} {w : World} {wx : World} (h : S2 a b A B ca cb w wx) : Hid (S2 a b A B ca cb w wx) ∧ wx.cell? ⟨w.heap.size, 0, none⟩ = some (.int .i64 a.kind) ∧ wx.cell? ⟨w.heap.size, 1, none⟩ = some (.int .i64 a.node) ∧ wx.cell? ⟨w.heap.size, 2, none⟩ = some (.int .i64 a.phase) ∧ wx.cell? ⟨w.heap.size, 3, none⟩ = some (.int .i64 a.pos) ∧ wx.cell? ⟨w.heap.size, 4, none⟩ = some (.int .i64 a.start) ∧ wx.cell? ⟨w.heap.size, 5, none⟩ = some (.int .i64 a.depth) ∧ wx.cell? ⟨w.heap.size, 6, none⟩ = some (.int .i64 a.origin) ∧ wx.cell? ⟨w.heap.size, 7, none⟩ = some (.slice A a.caps.length ca) :=
  ⟨hide h, h.boxA.cell 0, h.boxA.cell 1, h.boxA.cell 2, h.boxA.cell 3, h.boxA.cell 4, h.boxA.cell 5, h.boxA.cell 6, h.boxA.cell 7⟩
theorem S2.new (a b : St) (A B : Option Addr) (ca cb : Nat) (w : World) (hA : CV a.caps A ca w) (hB : CV b.caps B cb w) : S2 a b A B ca cb w ((w.alloc (.cells #[.int .i64 a.kind, .int .i64 a.node, .int .i64 a.phase, .int .i64 a.pos, .int .i64 a.start, .int .i64 a.depth, .int .i64 a.origin, .slice A a.caps.length ca] 24)).alloc (.cells #[.int .i64 b.kind, .int .i64 b.node, .int .i64 b.phase, .int .i64 b.pos, .int .i64 b.start, .int .i64 b.depth, .int .i64 b.origin, .slice B b.caps.length cb] 24)) := by
  have hW : Below w.heap.size w ((w.alloc (.cells #[.int .i64 a.kind, .int .i64 a.node, .int .i64 a.phase, .int .i64 a.pos, .int .i64 a.start, .int .i64 a.depth, .int .i64 a.origin, .slice A a.caps.length ca] 24)).alloc (.cells #[.int .i64 b.kind, .int .i64 b.node, .int .i64 b.phase, .int .i64 b.pos, .int .i64 b.start, .int .i64 b.depth, .int .i64 b.origin, .slice B b.caps.length cb] 24)) := (below_box w _).alloc (by simp) _
  have bB := Blk.new (w.alloc (.cells #[.int .i64 a.kind, .int .i64 a.node, .int .i64 a.phase, .int .i64 a.pos, .int .i64 a.start, .int .i64 a.depth, .int .i64 a.origin, .slice A a.caps.length ca] 24)) 24 #[.int .i64 b.kind, .int .i64 b.node, .int .i64 b.phase, .int .i64 b.pos, .int .i64 b.start, .int .i64 b.depth, .int .i64 b.origin, .slice B b.caps.length cb]
  rw [World.size_alloc] at bB
  exact ⟨(Blk.new w 24 _).alloc _, bB, hA.reads.below hW, hB.reads.below hW, hW⟩
theorem own_lt {W : World} {base e size n : Nat} {v : Value} {xs : List Value} (h : W.ownsRow base e size v n xs) : ∀ k, v.ownBlock = some k → k < W.heap.size := by
  intro k hk
  rcases h.2 with ⟨rfl, _⟩ | ⟨g, cap, cur, rfl, hb, hh, _⟩
  · simp [Value.ownBlock] at hk
  · obtain rfl : g = k := by simpa [Value.ownBlock] using hk
    exact Blk.lt (t := e) (cs := cur) hh
theorem own_kept {W W' : World} {base e size n : Nat} {v : Value} {xs : List Value} {row : Option Nat} (h : W.ownsRow base e size v n xs) (hg : W.grownBy W' row) (hne : ∀ k, v.ownBlock = some k → row ≠ some k) : W'.ownsRow base e size v n xs := by
  have hl := own_lt h
  refine ⟨h.1, ?_⟩
  rcases h.2 with h | ⟨g, cap, cur, rfl, h1, h2, h3⟩
  · exact .inl h
  · exact .inr ⟨g, cap, cur, rfl, h1, (hg.block g (hl g rfl) (fun e => hne g rfl e.symm)).trans h2, h3⟩
structure MS (a b : St) (A B : Option Addr) (ca cb : Nat) (w : World) (gc : Nat) (A5 : Option Addr) (c5 : Nat) (A6 : Option Addr) (c6 : Nat) (wx : World) : Prop where
  s2 : S2 a b A B ca cb w wx
  boxC : Blk wx gc 24 #[.int .i64 a.kind, .int .i64 a.node, .int .i64 a.phase, .int .i64 a.pos, .int .i64 a.start, .int .i64 a.depth, .int .i64 a.origin, .slice A5 a.caps.length c5]
  gcl : w.heap.size + 2 ≤ gc
  o5 : wx.ownsRow (w.heap.size + 2) 3 1 (.slice A5 a.caps.length c5) a.caps.length (a.caps.map Mem.i64)
  o6 : wx.ownsRow (w.heap.size + 2) 3 1 (.slice A6 a.caps.length c6) a.caps.length (a.caps.map Mem.i64)
  ne : ∀ k, (Value.slice A5 a.caps.length c5).ownBlock = some k → (Value.slice A6 a.caps.length c6).ownBlock ≠ some k
theorem MS.below {a b : St} {A B : Option Addr} {ca cb : Nat} {w : World} {gc : Nat} {A5 A6 : Option Addr} {c5 c6 : Nat} {wx wy : World} (h : MS a b A B ca cb w gc A5 c5 A6 c6 wx) (hb : Below wx.heap.size wx wy) : MS a b A B ca cb w gc A5 c5 A6 c6 wy :=
  ⟨h.s2.below hb, h.boxC.below hb h.boxC.lt, h.gcl, own_below h.o5 hb, own_below h.o6 hb, h.ne⟩
theorem ms_done {a b : St} {A B : Option Addr} {ca cb : Nat} {w : World} {g : Nat} {A5 A6 : Option Addr} {c5 c6 : Nat} {wx : World} (hs : S2 a b A B ca cb w wx) (ha : Blk wx g 24 #[.int .i64 0, .int .i64 0, .int .i64 0, .int .i64 0, .int .i64 0, .int .i64 0, .int .i64 0, .slice none 0 0]) (hg : w.heap.size + 2 ≤ g)
    (ho : wx.ownsRow (w.heap.size + 2) 3 1 (.slice A5 a.caps.length c5) a.caps.length (a.caps.map Mem.i64)) (hp : wx.ownsRow (w.heap.size + 2) 3 1 (.slice A6 a.caps.length c6) a.caps.length (a.caps.map Mem.i64))
    (hd : ∀ k, (Value.slice A5 a.caps.length c5).ownBlock = some k → (Value.slice A6 a.caps.length c6).ownBlock ≠ some k) :
    MS a b A B ca cb w g A5 c5 A6 c6 ((((((((wx.setCell ⟨g, 0, none⟩ (.int .i64 a.kind)).setCell ⟨g, 1, none⟩ (.int .i64 a.node)).setCell ⟨g, 2, none⟩ (.int .i64 a.phase)).setCell ⟨g, 3, none⟩ (.int .i64 a.pos)).setCell ⟨g, 4, none⟩ (.int .i64 a.start)).setCell ⟨g, 5, none⟩ (.int .i64 a.depth)).setCell ⟨g, 6, none⟩ (.int .i64 a.origin)).setCell ⟨g, 7, none⟩ (.slice A5 a.caps.length c5)) := by
  have h5 := own_blk_ne ho ha (by decide)
  have h6 := own_blk_ne hp ha (by decide)
  refine ⟨?_, set8 ha _ _ _ _ _ _ _ _, hg, own8 ho h5 _ _ _ _ _ _ _ _, own8 hp h6 _ _ _ _ _ _ _ _, hd⟩
  exact ((((((((hs.set hg _).set hg _).set hg _).set hg _).set hg _).set hg _).set hg _).set hg _)
structure WR (a b : St) (A B : Option Addr) (ca cb : Nat) (w : World) (gc : Nat) (A5 : Option Addr) (c5 : Nat) (A6 : Option Addr) (c6 n : Nat) (wx : World) : Prop where
  s2 : S2 a b A B ca cb w wx
  boxC : Blk wx gc 24 #[.int .i64 a.kind, .int .i64 a.node, .int .i64 a.phase, .int .i64 a.pos, .int .i64 a.start, .int .i64 a.depth, .int .i64 a.origin, .slice A5 a.caps.length c5]
  o6 : wx.ownsRow (w.heap.size + 2) 3 1 (.slice A6 a.caps.length c6) a.caps.length (a.caps.map Mem.i64)
  r5 : 0 < n → ∃ g5 cur, A5 = some ⟨g5, 0, none⟩ ∧ Blk wx g5 3 cur ∧ n ≤ cur.size ∧ w.heap.size + 2 ≤ g5 ∧ (Value.slice A6 a.caps.length c6).ownBlock ≠ some g5
theorem MS.wr {a b : St} {A B : Option Addr} {ca cb : Nat} {w : World} {gc : Nat} {A5 A6 : Option Addr} {c5 c6 n : Nat} {wx : World} (h : MS a b A B ca cb w gc A5 c5 A6 c6 wx) (hn : a.caps.length = n) : WR a b A B ca cb w gc A5 c5 A6 c6 n wx := by
  refine ⟨h.s2, h.boxC, h.o6, fun hp => ?_⟩
  rcases h.o5.2 with ⟨e, h0⟩ | ⟨g, cap, cur, e, h1, h2, h3, h4, h5, h6⟩
  · omega
  · simp only [Value.slice.injEq] at e
    obtain ⟨rfl, -, rfl⟩ := e
    refine ⟨g, cur, rfl, h2, ?_, h1, fun e => h.ne g rfl e⟩
    have hl := h.o5.cellAt (j := n - 1) (by simp; omega)
    obtain hc := (Blk.cell (t := 3) h2 (n - 1)).symm.trans hl
    have := (Array.getElem?_eq_some_iff.1 (hc.trans (List.getElem?_eq_getElem (by simp; omega)))).1
    omega
theorem WR.set {a b : St} {A B : Option Addr} {ca cb : Nat} {w : World} {gc g5 k : Nat} {A5 A6 : Option Addr} {c5 c6 n : Nat} {wx : World} (h : WR a b A B ca cb w gc A5 c5 A6 c6 n wx) (hn : 0 < n) (e5 : A5 = some ⟨g5, 0, none⟩) (x : Int) : WR a b A B ca cb w gc A5 c5 A6 c6 n (wx.setCell ⟨g5, k, none⟩ (.int .i64 x)) := by
  obtain ⟨g, cur, e, hb, hc, hl, hne⟩ := h.r5 hn
  rw [e5] at e
  injection e with e
  injection e with e
  subst e
  exact ⟨h.s2.set hl _, h.boxC.far (p := ⟨g5, k, none⟩) (Blk.ne_ h.boxC hb (by decide)) _, ownsRow_setCell_other h.o6 (a := ⟨g5, k, none⟩) hne _, fun _ => ⟨g5, _, e5, hb.set_ k _, by simpa using hc, hl, hne⟩⟩
def same0 (a b : St) : Bool := (((((((decide (a.kind = b.kind) && decide (a.node = b.node)) && decide (a.phase = b.phase)) && decide (a.pos = b.pos)) && decide (a.start = b.start)) && decide (a.depth = b.depth)) && decide (a.origin = b.origin)) && decide (a.caps.length = b.caps.length))
theorem same0_same (a b : St) (M : Nat) (hM : M = min a.caps.length b.caps.length) : (same0 a b && decide (a.caps.take M = b.caps.take M)) = sameB a b := by
  unfold same0 sameB numsE
  rw [Bool.eq_iff_iff]
  simp only [Bool.and_eq_true, decide_eq_true_eq]
  constructor
  · rintro ⟨⟨h, hl⟩, ht⟩
    rw [List.take_of_length_le (by omega), List.take_of_length_le (by omega)] at ht
    exact ⟨by simpa [and_assoc] using h, ht⟩
  · rintro ⟨h, rfl'⟩
    rw [rfl']
    exact ⟨⟨by simpa [and_assoc] using h, rfl⟩, rfl⟩
theorem same0_step (a b : St) {k : Nat} {x y : Int} (hx : a.caps[k]? = some x) (hy : b.caps[k]? = some y) : (same0 a b && decide (a.caps.take (k + 1) = b.caps.take (k + 1))) = ((same0 a b && decide (a.caps.take k = b.caps.take k)) && decide (x = y)) := by
  rw [Bool.and_assoc]
  congr 1
  obtain ⟨h1, e1⟩ := List.getElem?_eq_some_iff.1 hx
  obtain ⟨h2, e2⟩ := List.getElem?_eq_some_iff.1 hy
  rw [List.take_succ_eq_append_getElem h1, List.take_succ_eq_append_getElem h2, e1, e2, Bool.eq_iff_iff]
  simp only [decide_eq_true_eq, Bool.and_eq_true]
  constructor
  · intro h
    have := List.append_inj h (by simp; omega)
    simpa using this
  · rintro ⟨h, rfl⟩
    rw [h]
theorem sameB_self (a : St) : sameB a a = true := by simp [sameB, numsE]
end Go.Proofs.YtcajhkcopfabpaaDoor.Ev
