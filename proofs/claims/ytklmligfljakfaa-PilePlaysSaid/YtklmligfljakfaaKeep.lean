/-
  What a call leaves of the others' blocks (Keep); rows of one's own in worlds further on. No conditions. No program.
-/
import Derived.Test.YtklmligfljakfaaSymMem
set_option linter.unusedVariables false
set_option linter.unusedSimpArgs false
namespace Go.Proofs.Ytklmligfljakfaa.Kp
open Go.RowKit Go.Proofs.Ytklmligfljakfaa.Mem
structure Keep (K : Nat → Prop) (w w' : World) : Prop where
  os : w'.os = w.os
  tape : w'.tape = w.tape
  output : w'.output = w.output
  size : w.heap.size ≤ w'.heap.size
  block : ∀ k, K k → w'.heap[k]? = w.heap[k]?
section
variable {K K' : Nat → Prop} {a b c w w' : World}
theorem Keep.refl (K : Nat → Prop) (w : World) : Keep K w w := ⟨rfl, rfl, rfl, Nat.le_refl _, fun _ _ => rfl⟩
theorem Keep.trans (h : Keep K a b) (k : Keep K b c) : Keep K a c := ⟨k.os.trans h.os, k.tape.trans h.tape, k.output.trans h.output, Nat.le_trans h.size k.size, fun i hi => (k.block i hi).trans (h.block i hi)⟩
theorem Keep.less (h : Keep K a b) (hk : ∀ k, K' k → K k) : Keep K' a b := ⟨h.os, h.tape, h.output, h.size, fun k hi => h.block k (hk k hi)⟩
theorem Keep.of_below {B : Nat} (h : Below B w w') (hk : ∀ k, K k → k < B) : Keep K w w' := ⟨h.os, h.tape, h.output, h.size, fun k hi => h.block k (hk k hi)⟩
theorem Keep.below {B : Nat} (h : Keep K w w') (hk : ∀ k, k < B → K k) : Below B w w' := ⟨h.os, h.tape, h.output, h.size, fun k hi => h.block k (hk k hi)⟩
theorem Keep.of_grown {row : Option Nat} (h : w.grownBy w' row) (hk : ∀ k, K k → k < w.heap.size) (hr : ∀ g, row = some g → ¬ K g) : Keep K w w' :=
  ⟨h.os, h.tape, h.output, h.size, fun k hi => h.block k (hk k hi) (fun e => hr k e.symm hi)⟩
theorem Keep.alloc (h : Keep K a w) (hk : ∀ k, K k → k < w.heap.size) (o : Obj) : Keep K a (w.alloc o) := h.trans (Keep.of_below ((Below.refl w.heap.size w).alloc (Nat.le_refl _) o) hk)
theorem Keep.setCell (h : Keep K a w) {p : Addr} (hp : ¬ K p.block) (u : Value) : Keep K a (w.setCell p u) :=
  ⟨h.os, h.tape, h.output, by simpa [World.setCell] using h.size, fun k hi => (Below.heap_setCell w p u k (fun e => hp (e ▸ hi))).trans (h.block k hi)⟩
theorem Keep.drew (h : Keep K a w) : Keep K a w.drew := ⟨h.os, h.tape, h.output, h.size, h.block⟩
theorem Keep.cell (h : Keep K w w') {p : Addr} (hp : K p.block) : w'.cell? p = w.cell? p := World.cell?_of_block (w := w) (h.block p.block hp)
theorem Keep.blk {g : Nat} {t : TypeId} {cs : Array Value} (h : Keep K w w') (hb : Blk w g t cs) (hg : K g) : Blk w' g t cs := (h.block g hg).trans hb
theorem Keep.own {base e size n : Nat} {v : Value} {xs : List Value} (h : Keep K w w') (ho : w.ownsRow base e size v n xs) (hg : ∀ g, v.ownBlock = some g → K g) : w'.ownsRow base e size v n xs := by
  refine ⟨ho.1, ?_⟩
  rcases ho.2 with h2 | ⟨g, cap, cur, rfl, h1, h2, h3⟩
  · exact .inl h2
  · exact .inr ⟨g, cap, cur, rfl, h1, (h.block g (hg g rfl)).trans h2, h3⟩
end
theorem below_box (w : World) (o : Obj) : Below w.heap.size w (w.alloc o) := (Below.refl w.heap.size w).alloc (Nat.le_refl _) o
section
variable {w w' : World} {base e size n : Nat} {v : Value} {xs : List Value}
theorem own_lt (h : w.ownsRow base e size v n xs) : ∀ k, v.ownBlock = some k → base ≤ k ∧ k < w.heap.size := by
  intro k hk
  rcases h.2 with ⟨rfl, _⟩ | ⟨g, cap, cur, rfl, hb, hh, _⟩
  · simp [Value.ownBlock] at hk
  · obtain rfl : g = k := by simpa [Value.ownBlock] using hk
    exact ⟨hb, Blk.lt (t := e) (cs := cur) hh⟩
theorem own_below (h : w.ownsRow base e size v n xs) (hb : Below w.heap.size w w') : w'.ownsRow base e size v n xs := by
  refine ⟨h.1, ?_⟩
  rcases h.2 with h2 | ⟨g, cap, cur, rfl, h1, h2, h3⟩
  · exact .inl h2
  · exact .inr ⟨g, cap, cur, rfl, h1, (hb.block g (Array.getElem?_eq_some_iff.1 h2).1).trans h2, h3⟩
theorem own_kept {row : Option Nat} (h : w.ownsRow base e size v n xs) (hg : w.grownBy w' row) (hne : ∀ k, v.ownBlock = some k → row ≠ some k) : w'.ownsRow base e size v n xs := by
  have hl := own_lt h
  refine ⟨h.1, ?_⟩
  rcases h.2 with h | ⟨g, cap, cur, rfl, h1, h2, h3⟩
  · exact .inl h
  · exact .inr ⟨g, cap, cur, rfl, h1, (hg.block g (hl g rfl).2 (fun e => hne g rfl e.symm)).trans h2, h3⟩
theorem own_form (h : w.ownsRow base e size v n xs) : ∃ A cap, v = .slice A n cap ∧ n ≤ cap ∧ cap ≤ maxLen ∧ (0 < n → ∃ g, A = some ⟨g, 0, none⟩ ∧ g < w.heap.size ∧ ∀ j u, xs[j]? = some u → w.cell? ⟨g, j, none⟩ = some u) ∧ (A = none ∧ n = 0 ∧ cap = 0 ∨ ∃ g, A = some ⟨g, 0, none⟩) := by
  rcases h.2 with ⟨rfl, rfl⟩ | ⟨g, cap, cur, rfl, h1, h2, h3, h4, h5, h6⟩
  · exact ⟨none, 0, rfl, Nat.le_refl _, Nat.zero_le _, fun h => absurd h (by omega), .inl ⟨rfl, rfl, rfl⟩⟩
  · refine ⟨_, cap, rfl, h3, h4, fun _ => ⟨g, rfl, (Array.getElem?_eq_some_iff.1 h2).1, fun j u hj => ?_⟩, .inr ⟨g, rfl⟩⟩
    refine (cell_of_row _ _ _ _ _ _ h2).trans ?_
    rw [← h6, List.getElem?_take] at hj
    split at hj
    · rw [← Array.getElem?_toList]
      exact hj
    · cases hj
theorem own_cut {g c m : Nat} (h : w.ownsRow base e size (.slice (some ⟨g, 0, none⟩) n c) n xs) (hm : m ≤ n) : w.ownsRow base e size (.slice (some ⟨g, 0, none⟩) m c) m (xs.take (m * size)) := by
  have hms : m * size ≤ n * size := Nat.mul_le_mul_right _ hm
  refine ⟨by rw [List.length_take, h.1]; omega, ?_⟩
  rcases h.2 with ⟨h1, -⟩ | ⟨g', cap, cur, e1, h1, h2, h3, h4, h5, h6⟩
  · cases h1
  · cases e1
    exact .inr ⟨g, c, cur, rfl, h1, h2, by omega, h4, h5, by rw [← h6, List.take_take]; congr 1; omega⟩
end
section
variable {P : Program}
theorem results_ct {fn : Func} {p u : Tmp} {ty : TypeId} (h : fn.results = #[.cell p ty, .tmp u]) (tmps : Array Value) (w : World) (g : Nat) (cs : Array Value) (d : TypeDesc) (v : Value)
    (hp : tmps.getD p undef = .pointer (some ⟨g, 0, none⟩)) (hv : tmps.getD u undef = v) (hg : Blk w g ty cs)
    (hu : P.underlying ty = some d) (hd : (match d with | .struct _ | .array _ _ => true | _ => false) = true) (hi : (P.info? ty).map (·.size) = some cs.size) :
    (results fn tmps).run P w = .ok (.tuple #[.agg cs, v]) w := by
  have hp' : tmps[p]?.getD undef = .pointer (some ⟨g, 0, none⟩) := by simpa using hp
  have hv' : tmps[u]?.getD undef = v := by simpa using hv
  simp [results, h, hp', hv', asAddr, run_loadVar_row w g ty ty cs (0, 0) d hg hu hd hi]
end
end Go.Proofs.Ytklmligfljakfaa.Kp
