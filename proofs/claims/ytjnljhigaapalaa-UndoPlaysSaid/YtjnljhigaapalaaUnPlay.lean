/-
  How a play stands in memory: the book, the reference's lists, its box, and the marks so far (PS); what each step leaves of it. No conditions.
-/
import Derived.Test.YtjnljhigaapalaaUnRefNew
import Derived.Test.YtjnljhigaapalaaUnAnchor
set_option linter.unusedVariables false
set_option linter.unusedSimpArgs false
namespace Go.Proofs.Ytjnljhigaapalaa.Un
open Go.RowKit Go.Proofs.Ytjnljhigaapalaa.Mem
open Go.Proofs.Ytjnljhigaapalaa.Ev (CV intA below_box ret_b own_reads own_below own_base)
structure PS (K P : Nat → Prop) (base bb rb : Nat) (ns : List Int) (tr : List Ch) (L : List (List Int)) (A : Option Addr) (c : Nat) (mv : Value) (ml : List Int) (w : World) : Prop where
  book : BV K base bb ns tr w
  ref : RV L A c P w
  box : Blk w rb 30 #[.slice A L.length c]
  marks : w.ownsRow base 3 1 mv ml.length (ml.map Mem.i64)
  pk : ∀ k, P k → K k
  bk : K rb
  bp : ¬ P rb
  mks : ∀ g, mv.ownBlock = some g → K g ∧ ¬ P g
  lo : ∀ k, k < base → K k
section
variable {K P P' : Nat → Prop} {base bb rb : Nat} {ns ns' : List Int} {tr tr' : List Ch} {L L' : List (List Int)} {A A' : Option Addr} {c c' : Nat} {mv : Value} {ml : List Int} {w w' w0 : World}
theorem PS.hi (h : PS K P base bb rb ns tr L A c mv ml w) : ∀ k, K k → k < w.heap.size := h.book.hi
theorem PS.below (h : PS K P base bb rb ns tr L A c mv ml w) (hb : Below w.heap.size w w') : PS K P base bb rb ns tr L A c mv ml w' :=
  ⟨h.book.below hb, h.ref.below hb, h.box.below hb h.box.lt, own_below h.marks hb, h.pk, h.bk, h.bp, h.mks, h.lo⟩
theorem PS.more (h : PS K P base bb rb ns tr L A c mv ml w) (hb : Below w.heap.size w w') : PS (fun k => K k ∨ (w.heap.size ≤ k ∧ k < w'.heap.size)) P base bb rb ns tr L A c mv ml w' :=
  ⟨h.book.more hb (fun k h => .inl h) (fun k h => h), h.ref.below hb, h.box.below hb h.box.lt, own_below h.marks hb, fun k hp => .inl (h.pk k hp), .inl h.bk, h.bp, fun g hg => ⟨.inl (h.mks g hg).1, (h.mks g hg).2⟩, fun k hk => .inl (h.lo k hk)⟩
theorem PS.bookd (h : PS K P base bb rb ns tr L A c mv ml w) (hv : BV K base bb ns' tr' w') (hk : Keep K w w') : PS K P base bb rb ns' tr' L A c mv ml w' :=
  ⟨hv, h.ref.keep hk.size (fun k hp _ => hk.block k (h.pk k hp)), hk.blk h.box h.bk, hk.own h.marks (fun g hg => (h.mks g hg).1), h.pk, h.bk, h.bp, h.mks, h.lo⟩
theorem PS.refd (h : PS K P base bb rb ns tr L A c mv ml w) (hb : Below w.heap.size w w') (hr : RV L' A' c' (fun k => P k ∨ (w.heap.size ≤ k ∧ k < w'.heap.size)) w') :
    PS (fun k => K k ∨ (w.heap.size ≤ k ∧ k < w'.heap.size)) (fun k => P k ∨ (w.heap.size ≤ k ∧ k < w'.heap.size)) base bb rb ns tr L' A' c' mv ml (w'.setCell ⟨rb, 0, none⟩ (.slice A' L'.length c')) := by
  have h2 := h.below hb
  have hrl := h.box.lt
  have hnp : ¬ (P rb ∨ (w.heap.size ≤ rb ∧ rb < w'.heap.size)) := fun e => by
    rcases e with e | e
    · exact h.bp e
    · omega
  refine ⟨?_, hr.keep (by simp [World.setCell]) (fun k hp _ => Below.heap_setCell w' ⟨rb, 0, none⟩ _ k (fun e => by subst e; exact hnp hp)), h2.box.set_ 0 _, ownsRow_setCell_other h2.marks (a := ⟨rb, 0, none⟩) (own_blk_ne h2.marks h2.box (by decide)) _, fun k hp => ?_, .inl h.bk, hnp, fun g hg => ⟨.inl (h.mks g hg).1, fun e => ?_⟩, fun k hk => .inl (h.lo k hk)⟩
  · exact (h.book.more hb (fun k h => .inl h) (fun k h => h)).setK (p := ⟨rb, 0, none⟩) (.inl h.bk) _
  · rcases hp with hp | hp
    · exact .inl (h.pk k hp)
    · exact .inr hp
  · rcases e with e | e
    · exact (h.mks g hg).2 e
    · have := h.hi g (h.mks g hg).1
      omega
theorem BX.grownK {nb : Nat} {tv : Value} {row : Option Nat} (h : BX K base bb nb tv ns tr w) (hg : w.grownBy w' row) (hr : ∀ g, row = some g → K g) : BX K base bb nb tv ns tr w' := by
  refine ⟨h.box.grown hg (fun e => h.kb (hr _ e.symm)), h.nums.grown hg (fun e => h.kn (hr _ e.symm)), own_grown h.trail hg (fun g e e2 => h.kt g e (hr _ e2)), h.kb, h.kn, h.kt, h.places, h.lo, fun k hk => Nat.lt_of_lt_of_le (h.hi k hk) hg.size, h.small⟩
theorem PS.marked {o : Array Value} {mv' : Value} {x : Int} (h : PS K P base bb rb ns tr L A c mv ml w) (ho : w'.ownsRow base 3 1 mv' (ml.length + 1) (ml.map Mem.i64 ++ [.int .i64 x])) (hg : (w.alloc (.cells o 3)).grownBy w' mv.ownBlock) (hn : mv'.ownBlock = mv.ownBlock ∨ mv'.ownBlock = some (w.alloc (.cells o 3)).heap.size) :
    PS (fun k => K k ∨ (w.heap.size ≤ k ∧ k < w'.heap.size)) P base bb rb ns tr L A c mv' (ml ++ [x]) w' := by
  have hb := below_box w (.cells o 3)
  have h2 := h.below hb
  have hz := hg.size
  have hsz : (w.alloc (.cells o 3)).heap.size = w.heap.size + 1 := World.size_alloc _ _
  rw [hsz] at hz hn
  have hlt : ∀ g, mv'.ownBlock = some g → g < w'.heap.size := fun g e => by
    rcases ho.2 with ⟨rfl, -⟩ | ⟨g', cap, cur, rfl, -, h3, -⟩
    · cases e
    · obtain rfl : g' = g := by simpa [Value.ownBlock] using e
      exact (Array.getElem?_eq_some_iff.1 h3).1
  obtain ⟨nb, tv, hx⟩ := h.book
  have hx2 := hx.more (K' := fun k => K k ∨ (w.heap.size ≤ k ∧ k < (w.alloc (.cells o 3)).heap.size)) hb (fun k h => .inl h) (fun k h => h)
  have hx3 := hx2.grownK hg (fun g e => .inl (h.mks g e).1)
  have hbk : BX (fun k => K k ∨ (w.heap.size ≤ k ∧ k < w'.heap.size)) base bb nb tv ns tr w' := by
    have no : ∀ k, ¬ K k → k < w.heap.size → ¬ (K k ∨ (w.heap.size ≤ k ∧ k < w'.heap.size)) := fun k h1 h2 h3 => by
      rcases h3 with h3 | h3
      · exact h1 h3
      · omega
    exact ⟨hx3.box, hx3.nums, hx3.trail, no _ hx.kb hx.box.lt, no _ hx.kn hx.nums.lt, fun g hg => no g (hx.kt g hg) (hx.tlt hg), hx.places, fun k hk => .inl (hx.lo k hk), fun k hk => by
      rcases hk with hk | hk
      · have := hx.hi k hk; omega
      · exact hk.2, hx.small⟩
  refine ⟨⟨nb, tv, hbk⟩, h2.ref.keep hg.size (fun k hp hk => hg.block k hk (fun e => (h.mks k e.symm).2 hp)), h2.box.grown hg (fun e => own_blk_ne h2.marks h2.box (by decide) e.symm), by rw [List.length_append, List.map_append]; exact ho, fun k hp => .inl (h.pk k hp), .inl h.bk, h.bp, fun g hg2 => ?_, fun k hk => .inl (h.lo k hk)⟩
  rcases hn with hn | hn
  · have := h.mks g (hn ▸ hg2)
    exact ⟨.inl this.1, this.2⟩
  · have hgl := hlt g hg2
    rw [hn] at hg2
    injection hg2 with hg2
    refine ⟨.inr ⟨by omega, hgl⟩, fun hp => ?_⟩
    have := h.hi g (h.pk g hp)
    omega
end
theorem NV.below {l : List Int} {A : Option Addr} {w w' : World} (h : NV l A w) (hb : Below w.heap.size w w') : NV l A w' := fun hn => by
  obtain ⟨g, e, h1⟩ := h hn
  exact ⟨g, e, h1.below hb h1.lt⟩
def PlRel (base bb rb n m : Nat) (w0 : World) (mv i : Value) (wr : World) : Prop :=
  ∃ (k : Nat) (K P : Nat → Prop) (ns : List Int) (tr : List Ch) (A : Option Addr) (c : Nat) (ml : List Int), i = .int .i64 k ∧ k ≤ m ∧ PS K P base bb rb ns tr (hist ns tr) A c mv ml wr ∧ ns.length = n ∧ tr.length ≤ k ∧ ml.length = k + 1 ∧ Below base w0 wr
theorem neq_bool_same (b : Bool) (w : World) : Sem.run Try.prog (binOp .neq 4 (.bool b) (.bool b)) w = .ok (.bool false) w := by
  have h := run_equal_bool (P := Try.prog) w 4 b b Try.underlying4
  simp [binOp, h]
end Go.Proofs.Ytjnljhigaapalaa.Un
