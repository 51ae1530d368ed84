/-
  How a play stands in memory: the pile, and the law's own list (GS); what each step leaves of it. No conditions.
-/
import Derived.Test.YtklmligfljakfaaPiEq
set_option linter.unusedVariables false
set_option linter.unusedSimpArgs false
namespace Go.Proofs.Ytklmligfljakfaa.Pi
open Go.RowKit Go.Proofs.Ytklmligfljakfaa.Mem Go.Proofs.Ytklmligfljakfaa.Kp
theorem neq_bool_same (b : Bool) (w : World) : Sem.run Try.prog (binOp .neq 4 (.bool b) (.bool b)) w = .ok (.bool false) w := by
  have u4 := Try.underlying4
  go_simp
set_option maxRecDepth 100000 in
theorem slice_headE (A : Option Addr) (n cap f : Nat) (h1 : f ≤ n) (h2 : n ≤ cap) (W : World) : Sem.run Try.prog (Instr.slice 28 (.slice A n cap) none (some (.int .i64 (f : Int))) none) W = .ok (.slice A f cap) W := by
  have hu : Try.prog.underlying 28 = some (.slice (Try.prog.elem 28)) := by kernel_rfl
  have hz := Try.sizeOf30
  rw [run_slice_h (P := Try.prog) W 28 A n cap hu .i64 (f : Int) (by omega) (by omega)]
  have he : Try.prog.elem 28 = 30 := by kernel_rfl
  rw [he]
  simp only [go_sem, Result.andThen_ok, sliced, Int.toNat_natCast]
  rw [hz]
  show Result.ok _ _ = _
  cases A with
  | none => simp
  | some ad => simp [Addr.add]
theorem blk6 {W : World} {g : Nat} {x0 : Bool} {x1 x2 x3 x4 x5 : Int} (h : Blk W g 30 #[.bool x0, .int .i64 x1, .int .i64 x2, .int .i64 x3, .int .i64 x4, .int .i64 x5]) : W.cell? ⟨g, 0, none⟩ = some (.bool x0) ∧ W.cell? ⟨g, 1, none⟩ = some (.int .i64 x1) ∧ W.cell? ⟨g, 2, none⟩ = some (.int .i64 x2) ∧ W.cell? ⟨g, 3, none⟩ = some (.int .i64 x3) ∧ W.cell? ⟨g, 4, none⟩ = some (.int .i64 x4) ∧ W.cell? ⟨g, 5, none⟩ = some (.int .i64 x5) := ⟨h.cell 0, h.cell 1, h.cell 2, h.cell 3, h.cell 4, h.cell 5⟩
structure Opn where
  kind : Int
  bar : Bool
  pc : Int
  pos : Int
  mark : Int
  orig : Int
  val : Int
abbrev oOp (k : Int) (x : En) : Obj := .cells #[.int .i64 k, .bool x.bar, .int .i64 x.pc, .int .i64 x.pos, .int .i64 x.mark, .int .i64 x.orig, .int .i64 x.val] 32
structure OV (l : List Opn) (A : Option Addr) (cap B : Nat) (w : World) : Prop where
  room : l.length ≤ cap
  top : cap ≤ 9223372036854775807
  lies : 0 < l.length → ∃ b off, A = some ⟨b, off, none⟩ ∧ b < B ∧ ∀ k x, l[k]? = some x → w.cell? ⟨b, off + k * 7, none⟩ = some (.int .i64 x.kind) ∧ w.cell? ⟨b, off + k * 7 + 1, none⟩ = some (.bool x.bar) ∧ w.cell? ⟨b, off + k * 7 + 2, none⟩ = some (.int .i64 x.pc) ∧ w.cell? ⟨b, off + k * 7 + 3, none⟩ = some (.int .i64 x.pos) ∧ w.cell? ⟨b, off + k * 7 + 4, none⟩ = some (.int .i64 x.mark) ∧ w.cell? ⟨b, off + k * 7 + 5, none⟩ = some (.int .i64 x.orig) ∧ w.cell? ⟨b, off + k * 7 + 6, none⟩ = some (.int .i64 x.val)
theorem OV.moved {l : List Opn} {A : Option Addr} {cap B : Nat} {w w' : World} (h : OV l A cap B w) (hc : ∀ p : Addr, p.block < B → w'.cell? p = w.cell? p) : OV l A cap B w' :=
  ⟨h.room, h.top, fun hn => by
    obtain ⟨b, off, e, hb, hx⟩ := h.lies hn
    refine ⟨b, off, e, hb, fun k x hk => ?_⟩
    obtain ⟨c0, c1, c2, c3, c4, c5, c6⟩ := hx k x hk
    exact ⟨(hc ⟨b, off + k * 7, none⟩ hb).trans c0, (hc ⟨b, off + k * 7 + 1, none⟩ hb).trans c1, (hc ⟨b, off + k * 7 + 2, none⟩ hb).trans c2, (hc ⟨b, off + k * 7 + 3, none⟩ hb).trans c3, (hc ⟨b, off + k * 7 + 4, none⟩ hb).trans c4, (hc ⟨b, off + k * 7 + 5, none⟩ hb).trans c5, (hc ⟨b, off + k * 7 + 6, none⟩ hb).trans c6⟩⟩
theorem OV.below {l : List Opn} {A : Option Addr} {cap B C : Nat} {w w' : World} (h : OV l A cap B w) (hb : Below C w w') (hB : B ≤ C) : OV l A cap B w' := h.moved fun p hp => hb.cell (Nat.lt_of_lt_of_le hp hB)
theorem PV.lo {K : Nat → Prop} {base bb lim most : Nat} {l : List En} {w : World} (h : PV K base bb l lim most w) : ∀ k, k < base → K k := by
  obtain ⟨iv, h, -⟩ := h
  exact h.lo
theorem PV.grownK {K : Nat → Prop} {base bb lim most : Nat} {l : List En} {w w' : World} {row : Option Nat} (h : PV K base bb l lim most w) (hg : w.grownBy w' row) (hr : ∀ g, row = some g → K g) : PV K base bb l lim most w' := by
  obtain ⟨iv, h, hl⟩ := h
  exact ⟨iv, h.grownK hg hr, hl⟩
structure GS (K : Nat → Prop) (base bb lim : Nat) (P L : List En) (A : Option Addr) (c most : Nat) (w : World) : Prop where
  pv : PV K base bb P lim most w
  row : w.ownsRow base 30 6 (.slice A L.length c) L.length (cellsE L)
  rk : ∀ g, (Value.slice A L.length c).ownBlock = some g → K g
section
variable {K : Nat → Prop} {base bb lim c most m2 : Nat} {P L P' : List En} {A : Option Addr} {w w' : World}
theorem GS.below (h : GS K base bb lim P L A c most w) (hb : Below w.heap.size w w') : GS K base bb lim P L A c most w' := ⟨h.pv.below hb, own_below h.row hb, h.rk⟩
theorem GS.more (h : GS K base bb lim P L A c most w) (hb : Below w.heap.size w w') : GS (fun j => K j ∨ (w.heap.size ≤ j ∧ j < w'.heap.size)) base bb lim P L A c most w' :=
  ⟨h.pv.more hb (fun j h => .inl h) (fun j h => h), own_below h.row hb, fun g hg => .inl (h.rk g hg)⟩
theorem GS.piled (h : GS K base bb lim P L A c most w) (hp : PV K base bb P' lim m2 w') (hk : Keep K w w') : GS K base bb lim P' L A c m2 w' := ⟨hp, hk.own h.row h.rk, h.rk⟩
theorem GS.ev (h : GS K base bb lim P L A c most w) : EV L A c w.heap.size w := EV.of_own h.row
theorem GS.le (h : GS K base bb lim P L A c most w) : P.length ≤ most := by
  obtain ⟨iv, -, hl⟩ := h.pv
  exact hl
theorem GS.cut (h : GS K base bb lim P L A c most w) {m : Nat} (hm : m ≤ L.length) : GS K base bb lim P (L.take m) A c most w := by
  have e : (L.take m).length = m := by rw [List.length_take]; omega
  have hb : (Value.slice A m c).ownBlock = (Value.slice A L.length c).ownBlock := by cases A <;> rfl
  refine ⟨h.pv, ?_, fun g hg => h.rk g (by rw [e] at hg; rw [← hb]; exact hg)⟩
  rw [e, cellsE_take]
  obtain ⟨A', c', ev, -, -, -, h4⟩ := own_form h.row
  cases ev
  rcases h4 with ⟨rfl, h5, rfl⟩ | ⟨g, rfl⟩
  · obtain rfl : m = 0 := by omega
    rw [Nat.zero_mul, List.take_zero]
    exact ⟨rfl, .inl ⟨rfl, rfl⟩⟩
  · exact own_cut h.row hm
theorem GS.nil_ (h : GS K base bb lim P L A c most w) : GS K base bb lim P [] none 0 most w := ⟨h.pv, World.ownsRow_nil _ _ _ _, fun g hg => by cases hg⟩
theorem GS.form (h : GS K base bb lim P L A c most w) (hl : 0 < L.length) : ∃ g, A = some ⟨g, 0, none⟩ := by
  obtain ⟨A', c', ev, -, -, h3, -⟩ := own_form h.row
  cases ev
  obtain ⟨g, e, -⟩ := h3 hl
  exact ⟨g, e⟩
theorem GS.six {g : Nat} (h : GS K base bb lim P L (some ⟨g, 0, none⟩) c most w) {k : Nat} {x : En} (hx : L[k]? = some x) : w.cell? ⟨g, k * 6, none⟩ = some (.bool x.bar) ∧ w.cell? ⟨g, k * 6 + 1, none⟩ = some (.int .i64 x.pc) ∧ w.cell? ⟨g, k * 6 + 2, none⟩ = some (.int .i64 x.pos) ∧ w.cell? ⟨g, k * 6 + 3, none⟩ = some (.int .i64 x.mark) ∧ w.cell? ⟨g, k * 6 + 4, none⟩ = some (.int .i64 x.orig) ∧ w.cell? ⟨g, k * 6 + 5, none⟩ = some (.int .i64 x.val) := by
  obtain ⟨b, off, e, -, hc⟩ := h.ev.lies (by have := (List.getElem?_eq_some_iff.1 hx).1; omega)
  cases e
  have := hc k x hx
  rw [Nat.zero_add] at this
  exact this
end
theorem info_en : (Try.prog.info? 30).map (fun i => (i.zero, i.size, i.bytes)) = some (some (.agg #[.bool false, .int .i64 0, .int .i64 0, .int .i64 0, .int .i64 0, .int .i64 0]), 6, 48) := by kernel_rfl
theorem wp_app_en {K : Nat → Prop} {base bb lim c most : Nat} {P L : List En} {A : Option Addr} {w : World} {ops : Array Oper} {rest : List Oper} {o : Oper} {a : Act} {Q : Exit → Act → World → Prop} {so sn : Tmp} {x : En} {g n : Nat}
    (h : GS K base bb lim P L A c most w) (hn : L.length = n) (hl : n ≤ 100) (hgd : o.guard = none) (ho : o.op = .call { callee := .builtin .append, args := #[.tmp so, .tmp sn], argTypes := #[28, 28] })
    (hs : a.eval (.tmp so) = .slice A n c) (hx : a.eval (.tmp sn) = .slice (some ⟨g, 0, none⟩) 1 1) (hg : g = w.heap.size)
    (hK : ∀ K' A' c' w', GS K' base bb lim P (L ++ [x]) A' c' most w' → Below base w w' → wpList Try.prog ops Q rest (a.put o.dst (.slice A' (n + 1) c')) w') :
    wpList Try.prog ops Q (o :: rest) a (w.alloc (.cells #[.bool x.bar, .int .i64 x.pc, .int .i64 x.pos, .int .i64 x.mark, .int .i64 x.orig, .int .i64 x.val] 30)) := by
  subst hg hn
  obtain ⟨i0, hi0, hz0, hz1, hz2⟩ := info_parts info_en
  have hbb := below_box w (oEn x)
  have hA := h.more hbb
  have hbs : base ≤ w.heap.size := by
    rcases Nat.lt_or_ge w.heap.size base with h1 | h1
    · have := h.pv.hi _ (h.pv.lo _ h1); omega
    · exact h1
  have hrd : Reads (w.alloc (oEn x)) (w.heap.size + 1) 6 (some ⟨w.heap.size, 0, none⟩) 1 [.bool x.bar, .int .i64 x.pc, .int .i64 x.pos, .int .i64 x.mark, .int .i64 x.orig, .int .i64 x.val] := by
    refine ⟨rfl, fun _ => ⟨_, rfl, by simp, fun j u hj => ?_⟩⟩
    rw [add_flat, Nat.zero_add, World.cell?_alloc_new]
    simpa using hj
  refine wpList_append_any _ hgd (.tmp so) (.tmp sn) 28 ho base 30 i0 _ 6 48 Try.underlying28 hi0 hz0 hz1 hz2 rfl (by decide) (.slice A L.length c) L.length (cellsE L) hs hA.row (w.heap.size + 1) (some ⟨w.heap.size, 0, none⟩) 1 1 [.bool x.bar, .int .i64 x.pc, .int .i64 x.pos, .int .i64 x.mark, .int .i64 x.orig, .int .i64 x.val] hx hrd (by simp [Value.oneCell']) (by unfold maxLen; omega) (by omega) (by rw [World.size_alloc]; omega) ?_
  intro tv' w' ho' hg' hn'
  obtain ⟨g5, c5, rfl⟩ := ownsRow_succ ho'
  rw [← cellsE_snoc] at ho'
  have hz := hg'.size
  rw [World.size_alloc] at hz hn'
  have hgs : PV (fun j => (K j ∨ (w.heap.size ≤ j ∧ j < (w.alloc (oEn x)).heap.size))) base bb P lim most w' := hA.pv.grownK hg' (fun g e => hA.rk g e)
  have hp2 : PV (fun j => K j ∨ (w.heap.size ≤ j ∧ j < w'.heap.size)) base bb P lim most w' := by
    obtain ⟨iv, hx, hl⟩ := h.pv
    obtain ⟨iv2, hx2, hl2⟩ : ∃ iv2, PX (fun j => (K j ∨ (w.heap.size ≤ j ∧ j < (w.alloc (oEn x)).heap.size))) base bb iv2 P lim most w' ∧ P.length ≤ most := hgs
    have hiv : iv2 = iv := by
      have h1 := hx2.box.cell 0
      have h2 := ((hx.more hbb (K' := fun j => (K j ∨ (w.heap.size ≤ j ∧ j < (w.alloc (oEn x)).heap.size))) (fun j h => .inl h) (fun j h => h)).grownK hg' (fun g e => hA.rk g e)).box.cell 0
      rw [h1] at h2
      exact Option.some.inj h2
    subst hiv
    have no : ∀ k, ¬ K k → k < w.heap.size → ¬ (K k ∨ (w.heap.size ≤ k ∧ k < w'.heap.size)) := fun k h1 h2 h3 => by
      rcases h3 with h3 | h3
      · exact h1 h3
      · omega
    exact ⟨iv2, ⟨hx2.box, hx2.rows, no _ hx.kb hx.box.lt, fun g hg => no g (hx.kt g hg) (own_lt hx.rows g hg).2, fun k hk => .inl (hx.lo k hk), fun k hk => by
      rcases hk with hk | hk
      · have := hx.hi k hk; omega
      · exact hk.2, hx.small, hx.room, hx.mx⟩, hl⟩
  refine hK _ _ c5 w' ⟨hp2, by rw [List.length_append]; exact ho', fun g e => ?_⟩ ?_
  · rw [List.length_append] at e
    rcases hn' with e2 | e2
    · exact .inl (h.rk g (by rw [← e2]; exact e))
    · rw [show (Value.slice (some ⟨g5, 0, none⟩) (L.length + [x].length) c5).ownBlock = (Value.slice (some ⟨g5, 0, none⟩) (L.length + 1) c5).ownBlock from rfl, e2] at e
      injection e with e
      subst e
      refine .inr ⟨by omega, ?_⟩
      have := own_lt ho' _ e2
      exact this.2
  · refine (hbb.mono hbs).trans ⟨hg'.os, hg'.tape, hg'.output, hg'.size, fun k hk => hg'.block k (by rw [World.size_alloc]; omega) fun e => ?_⟩
    have := (own_lt h.row k e.symm).1
    omega
def PRel (w1 : World) (bb lim m : Nat) (v ms i : Value) (wr : World) : Prop :=
  ∃ k most : Nat, i = .int .i64 (k : Int) ∧ k ≤ m ∧ ms = .int .i64 (most : Int) ∧ ∃ (K : Nat → Prop) (L : List En) (A : Option Addr) (c : Nat), v = .slice A L.length c ∧ GS K w1.heap.size bb lim L L A c most wr ∧ L.length ≤ k ∧ Below w1.heap.size w1 wr
def MRel (w1 : World) (bb lim most k : Nat) (v : Value) (wx : World) : Prop :=
  ∃ (K : Nat → Prop) (L : List En) (A : Option Addr) (c : Nat), v = .slice A L.length c ∧ GS K w1.heap.size bb lim L L A c (max most L.length) wx ∧ L.length ≤ k + 1 ∧ Below w1.heap.size w1 wx
structure TF (K : Nat → Prop) (w1 : World) (bb lim : Nat) (L : List En) (A : Option Addr) (c most g1 g2 : Nat) (a b : En) (wx : World) : Prop where
  k1 : Blk wx g1 30 #[.bool a.bar, .int .i64 a.pc, .int .i64 a.pos, .int .i64 a.mark, .int .i64 a.orig, .int .i64 a.val]
  k2 : Blk wx g2 30 #[.bool b.bar, .int .i64 b.pc, .int .i64 b.pos, .int .i64 b.mark, .int .i64 b.orig, .int .i64 b.val]
  gs : GS K w1.heap.size bb lim L L A c most wx
  bel : Below w1.heap.size w1 wx
theorem TF.below {K : Nat → Prop} {w1 : World} {bb lim : Nat} {L : List En} {A : Option Addr} {c most g1 g2 : Nat} {a b : En} {wx wy : World} (h : TF K w1 bb lim L A c most g1 g2 a b wx) (hb : Below wx.heap.size wx wy) : TF K w1 bb lim L A c most g1 g2 a b wy :=
  ⟨h.k1.below hb h.k1.lt, h.k2.below hb h.k2.lt, h.gs.below hb, h.bel.trans (hb.mono h.bel.size)⟩
end Go.Proofs.Ytklmligfljakfaa.Pi
