/-
  How a book lies in memory (BX: with its blocks named; BV), and what a call leaves of the others' blocks (Keep). No conditions.
-/
import Derived.Test.YtjnljhigaapalaaUnPure
import Derived.Test.YtjnljhigaapalaaEvRep
import Derived.Test.YtjnljhigaapalaaEvBlank
import Derived.RangeFuncNested
set_option linter.unusedVariables false
set_option linter.unusedSimpArgs false
namespace Go.Proofs.Ytjnljhigaapalaa.Un
open Go.RowKit Go.Proofs.Ytjnljhigaapalaa.Mem
open Go.Proofs.Ytjnljhigaapalaa.Ev (intA own_reads own_below)
structure Keep (K : Nat → Prop) (w w' : World) : Prop where
  os : w'.os = w.os
  tape : w'.tape = w.tape
  output : w'.output = w.output
  size : w.heap.size ≤ w'.heap.size
  block : ∀ k, K k → w'.heap[k]? = w.heap[k]?
section
variable {K K' : Nat → Prop} {a b c w w' : World}
theorem Keep.refl (K : Nat → Prop) (w : World) : Keep K w w := ⟨rfl, rfl, rfl, Nat.le_refl _, fun _ _ => rfl⟩
theorem Keep.trans (h : Keep K a b) (k : Keep K b c) : Keep K a c := ⟨k.os.trans h.os, k.tape.trans h.tape, k.output.trans h.output, Nat.le_trans h.size k.size, fun i hi => (k.block i hi).trans (h.block i hi)⟩
theorem Keep.less (h : Keep K a b) (hk : ∀ k, K' k → K k) : Keep K' a b := ⟨h.os, h.tape, h.output, h.size, fun k hi => h.block k (hk k hi)⟩
theorem Keep.of_below {B : Nat} (h : Below B w w') (hk : ∀ k, K k → k < B) : Keep K w w' := ⟨h.os, h.tape, h.output, h.size, fun k hi => h.block k (hk k hi)⟩
theorem Keep.below {B : Nat} (h : Keep K w w') (hk : ∀ k, k < B → K k) : Below B w w' := ⟨h.os, h.tape, h.output, h.size, fun k hi => h.block k (hk k hi)⟩
theorem Keep.of_grown {row : Option Nat} (h : w.grownBy w' row) (hk : ∀ k, K k → k < w.heap.size) (hr : ∀ g, row = some g → ¬ K g) : Keep K w w' :=
  ⟨h.os, h.tape, h.output, h.size, fun k hi => h.block k (hk k hi) (fun e => hr k e.symm hi)⟩
theorem Keep.alloc (h : Keep K a w) (hk : ∀ k, K k → k < w.heap.size) (o : Obj) : Keep K a (w.alloc o) := h.trans (Keep.of_below ((Below.refl w.heap.size w).alloc (Nat.le_refl _) o) hk)
theorem Keep.setCell (h : Keep K a w) {p : Addr} (hp : ¬ K p.block) (u : Value) : Keep K a (w.setCell p u) :=
  ⟨h.os, h.tape, h.output, by simpa [World.setCell] using h.size, fun k hi => (Below.heap_setCell w p u k (fun e => hp (e ▸ hi))).trans (h.block k hi)⟩
theorem Keep.drew (h : Keep K a w) : Keep K a w.drew := ⟨h.os, h.tape, h.output, h.size, h.block⟩
theorem Keep.cell (h : Keep K w w') {p : Addr} (hp : K p.block) : w'.cell? p = w.cell? p := World.cell?_of_block (w := w) (h.block p.block hp)
theorem Keep.blk {g : Nat} {t : TypeId} {cs : Array Value} (h : Keep K w w') (hb : Blk w g t cs) (hg : K g) : Blk w' g t cs := (h.block g hg).trans hb
theorem Keep.own {base e size n : Nat} {v : Value} {xs : List Value} (h : Keep K w w') (ho : w.ownsRow base e size v n xs) (hg : ∀ g, v.ownBlock = some g → K g) : w'.ownsRow base e size v n xs := by
  refine ⟨ho.1, ?_⟩
  rcases ho.2 with h2 | ⟨g, cap, cur, rfl, h1, h2, h3⟩
  · exact .inl h2
  · exact .inr ⟨g, cap, cur, rfl, h1, (h.block g (hg g rfl)).trans h2, h3⟩
end
structure BX (K : Nat → Prop) (base bb nb : Nat) (tv : Value) (ns : List Int) (tr : List Ch) (w : World) : Prop where
  box : Blk w bb 52 #[.slice (some ⟨nb, 0, none⟩) ns.length ns.length, tv]
  nums : Blk w nb 3 (intA ns)
  trail : w.ownsRow base 54 2 tv tr.length (flat tr)
  kb : ¬ K bb
  kn : ¬ K nb
  kt : ∀ g, tv.ownBlock = some g → ¬ K g
  places : ∀ c ∈ tr, c.1 < ns.length
  lo : ∀ k, k < base → K k
  hi : ∀ k, K k → k < w.heap.size
  small : ns.length ≤ 65536
def BV (K : Nat → Prop) (base bb : Nat) (ns : List Int) (tr : List Ch) (w : World) : Prop := ∃ nb tv, BX K base bb nb tv ns tr w
section
variable {K K' : Nat → Prop} {base bb nb n : Nat} {tv : Value} {ns : List Int} {tr : List Ch} {w w' : World}
theorem cells2 {g : Nat} {t : TypeId} {a b : Value} (h : Blk w g t #[a, b]) : w.cell? ⟨g, 0, none⟩ = some a ∧ w.cell? ⟨g, 1, none⟩ = some b := ⟨h.cell 0, h.cell 1⟩
theorem intA_get {l : List Int} {k : Nat} {x : Int} (h : l[k]? = some x) : (intA l)[k]? = some (.int .i64 x) := by
  unfold intA
  rw [List.getElem?_toArray, List.getElem?_map, h]
  rfl
theorem intA_set (l : List Int) (k : Nat) (x : Int) : (intA l).setIfInBounds k (.int .i64 x) = intA (l.set k x) := by
  unfold intA
  rw [List.setIfInBounds_toArray, List.map_set]
theorem BX.base_le (h : BX K base bb nb tv ns tr w) : base ≤ bb := by
  rcases Nat.lt_or_ge bb base with h1 | h1
  · exact absurd (h.lo _ h1) h.kb
  · exact h1
theorem BX.base_size (h : BX K base bb nb tv ns tr w) : base ≤ w.heap.size := Nat.le_trans h.base_le (Nat.le_of_lt h.box.lt)
theorem BX.num (h : BX K base bb nb tv ns tr w) {k : Nat} {x : Int} (hx : ns[k]? = some x) : w.cell? ⟨nb, k, none⟩ = some (.int .i64 x) := (h.nums.cell k).trans (intA_get hx)
theorem BX.nb_ne (h : BX K base bb nb tv ns tr w) : bb ≠ nb := h.box.ne_ h.nums (by decide)
theorem BX.tb_ne (h : BX K base bb nb tv ns tr w) : tv.ownBlock ≠ some bb := own_blk_ne h.trail h.box (by decide)
theorem BX.tn_ne (h : BX K base bb nb tv ns tr w) : tv.ownBlock ≠ some nb := own_blk_ne h.trail h.nums (by decide)
theorem BX.tlt (h : BX K base bb nb tv ns tr w) {g : Nat} (hg : tv.ownBlock = some g) : g < w.heap.size := by
  rcases h.trail.2 with ⟨rfl, -⟩ | ⟨g', cap, cur, rfl, -, h2, -⟩
  · cases hg
  · obtain rfl : g' = g := by simpa [Value.ownBlock] using hg
    exact (Array.getElem?_eq_some_iff.1 h2).1
theorem BX.below (h : BX K base bb nb tv ns tr w) (hb : Below w.heap.size w w') : BX K base bb nb tv ns tr w' :=
  ⟨h.box.below hb h.box.lt, h.nums.below hb h.nums.lt, own_below h.trail hb, h.kb, h.kn, h.kt, h.places, h.lo, fun k hk => Nat.lt_of_lt_of_le (h.hi k hk) hb.size, h.small⟩
theorem BV.below (h : BV K base bb ns tr w) (hb : Below w.heap.size w w') : BV K base bb ns tr w' := by
  obtain ⟨nb, tv, h⟩ := h
  exact ⟨nb, tv, h.below hb⟩
theorem BX.more (h : BX K base bb nb tv ns tr w) (hb : Below w.heap.size w w') (hK : ∀ k, K k → K' k) (hn : ∀ k, K' k → K k ∨ (w.heap.size ≤ k ∧ k < w'.heap.size)) : BX K' base bb nb tv ns tr w' := by
  have h2 := h.below hb
  have no : ∀ k, ¬ K k → k < w.heap.size → ¬ K' k := fun k h1 h2 h3 => by
    rcases hn k h3 with h4 | h4
    · exact h1 h4
    · omega
  exact ⟨h2.box, h2.nums, h2.trail, no _ h.kb h.box.lt, no _ h.kn h.nums.lt, fun g hg => no g (h.kt g hg) (h.tlt hg), h.places, fun k hk => hK k (h.lo k hk), fun k hk => by
    rcases hn k hk with h4 | h4
    · exact h2.hi k h4
    · exact h4.2, h.small⟩
theorem BV.more (h : BV K base bb ns tr w) (hb : Below w.heap.size w w') (hK : ∀ k, K k → K' k) (hn : ∀ k, K' k → K k ∨ (w.heap.size ≤ k ∧ k < w'.heap.size)) : BV K' base bb ns tr w' := by
  obtain ⟨nb, tv, h⟩ := h
  exact ⟨nb, tv, h.more hb hK hn⟩
theorem BX.put (h : BX K base bb nb tv ns tr w) (k : Nat) (x : Int) : BX K base bb nb tv (ns.set k x) tr (w.setCell ⟨nb, k, none⟩ (.int .i64 x)) := by
  refine ⟨?_, ?_, ownsRow_setCell_other h.trail (a := ⟨nb, k, none⟩) h.tn_ne _, h.kb, h.kn, h.kt, fun c hc => by rw [List.length_set]; exact h.places c hc, h.lo, fun k hk => by simpa [World.setCell] using h.hi k hk, by rw [List.length_set]; exact h.small⟩
  · rw [List.length_set]
    exact h.box.far (p := ⟨nb, k, none⟩) h.nb_ne _
  · have := h.nums.set_ k (.int .i64 x)
    rwa [intA_set] at this
theorem BX.own (h : BX K base bb nb tv ns tr w) {row : Option Nat} (hg : w.grownBy w' row) (hr : ∀ r, row = some r → w.heap.size ≤ r ∨ ∃ o : Obj, w.heap[r]? = some o ∧ o.isCells = false) : BX K base bb nb tv ns tr w' := by
  have ne : ∀ k t cs, Blk w k t cs → some k ≠ row := fun k t cs hb e => by
    rcases hr k e.symm with h1 | ⟨o, h1, h2⟩
    · have := hb.lt; omega
    · rw [show w.heap[k]? = _ from hb] at h1
      cases h1
      cases h2
  refine ⟨h.box.grown hg (ne _ _ _ h.box), h.nums.grown hg (ne _ _ _ h.nums), ?_, h.kb, h.kn, h.kt, h.places, h.lo, fun k hk => Nat.lt_of_lt_of_le (h.hi k hk) hg.size, h.small⟩
  refine ⟨h.trail.1, ?_⟩
  rcases h.trail.2 with h2 | ⟨g, cap, cur, rfl, h1, h2, h3⟩
  · exact .inl h2
  · exact .inr ⟨g, cap, cur, rfl, h1, (hg.block g (Array.getElem?_eq_some_iff.1 h2).1 (ne g _ cur h2)).trans h2, h3⟩
end
theorem own_cut {w : World} {base e size n m : Nat} {g c : Nat} {xs : List Value} (h : w.ownsRow base e size (.slice (some ⟨g, 0, none⟩) n c) n xs) (hm : m ≤ n) : w.ownsRow base e size (.slice (some ⟨g, 0, none⟩) m c) m (xs.take (m * size)) := by
  have hms : m * size ≤ n * size := Nat.mul_le_mul_right _ hm
  refine ⟨by rw [List.length_take, h.1]; omega, ?_⟩
  rcases h.2 with ⟨h1, -⟩ | ⟨g', cap, cur, e1, h1, h2, h3, h4, h5, h6⟩
  · cases h1
  · cases e1
    exact .inr ⟨g, c, cur, rfl, h1, h2, by omega, h4, h5, by rw [← h6, List.take_take]; congr 1; omega⟩
end Go.Proofs.Ytjnljhigaapalaa.Un
