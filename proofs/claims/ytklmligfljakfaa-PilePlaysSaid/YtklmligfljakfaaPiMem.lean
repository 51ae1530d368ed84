/-
  How a pile lies in memory (PX: with its items named; PV), and what turns leave of it. No conditions.
-/
import Derived.Test.YtklmligfljakfaaPiPure
import Derived.Test.YtklmligfljakfaaClearOwn
import Derived.Test.YtklmligfljakfaaProg
import Derived.WalkKit
import Derived.WalkHide
import Derived.KernelRfl
import Derived.StillTailTactics
set_option linter.unusedVariables false
set_option linter.unusedSimpArgs false
namespace Go.Proofs.Ytklmligfljakfaa.Pi
open Go.RowKit Go.Proofs.Ytklmligfljakfaa.Mem Go.Proofs.Ytklmligfljakfaa.Kp
structure PX (K : Nat → Prop) (base bb : Nat) (iv : Value) (l : List En) (lim most : Nat) (w : World) : Prop where
  box : Blk w bb 44 #[iv, .int .i64 (lim : Int), .int .i64 (most : Int)]
  rows : w.ownsRow base 46 7 iv l.length (cellsI l)
  kb : ¬ K bb
  kt : ∀ g, iv.ownBlock = some g → ¬ K g
  lo : ∀ k, k < base → K k
  hi : ∀ k, K k → k < w.heap.size
  small : lim ≤ 65536
  room : l.length ≤ lim
  mx : most ≤ lim
def PV (K : Nat → Prop) (base bb : Nat) (l : List En) (lim most : Nat) (w : World) : Prop := ∃ iv, PX K base bb iv l lim most w ∧ l.length ≤ most
section
variable {K K' : Nat → Prop} {base bb lim most : Nat} {iv : Value} {l : List En} {w w' : World}
theorem cells3 {w : World} {g : Nat} {t : TypeId} {a b c : Value} (h : Blk w g t #[a, b, c]) : w.cell? ⟨g, 0, none⟩ = some a ∧ w.cell? ⟨g, 1, none⟩ = some b ∧ w.cell? ⟨g, 2, none⟩ = some c := ⟨h.cell 0, h.cell 1, h.cell 2⟩
theorem PX.base_le (h : PX K base bb iv l lim most w) : base ≤ bb := by
  rcases Nat.lt_or_ge bb base with h1 | h1
  · exact absurd (h.lo _ h1) h.kb
  · exact h1
theorem PX.base_size (h : PX K base bb iv l lim most w) : base ≤ w.heap.size := Nat.le_trans h.base_le (Nat.le_of_lt h.box.lt)
theorem PX.ne (h : PX K base bb iv l lim most w) : iv.ownBlock ≠ some bb := own_blk_ne h.rows h.box (by decide)
theorem PX.below (h : PX K base bb iv l lim most w) (hb : Below w.heap.size w w') : PX K base bb iv l lim most w' :=
  ⟨h.box.below hb h.box.lt, own_below h.rows hb, h.kb, h.kt, h.lo, fun k hk => Nat.lt_of_lt_of_le (h.hi k hk) hb.size, h.small, h.room, h.mx⟩
theorem PV.below (h : PV K base bb l lim most w) (hb : Below w.heap.size w w') : PV K base bb l lim most w' := by
  obtain ⟨iv, h, hl⟩ := h
  exact ⟨iv, h.below hb, hl⟩
theorem PX.drew (h : PX K base bb iv l lim most w) : PX K base bb iv l lim most w.drew := h.below (Below.refl _ _).drew
theorem PX.more (h : PX K base bb iv l lim most w) (hb : Below w.heap.size w w') (hK : ∀ k, K k → K' k) (hn : ∀ k, K' k → K k ∨ (w.heap.size ≤ k ∧ k < w'.heap.size)) : PX K' base bb iv l lim most w' := by
  have h2 := h.below hb
  have no : ∀ k, ¬ K k → k < w.heap.size → ¬ K' k := fun k h1 h2 h3 => by
    rcases hn k h3 with h4 | h4
    · exact h1 h4
    · omega
  exact ⟨h2.box, h2.rows, no _ h.kb h.box.lt, fun g hg => no g (h.kt g hg) (own_lt h.rows g hg).2, fun k hk => hK k (h.lo k hk), fun k hk => by
    rcases hn k hk with h4 | h4
    · exact h2.hi k h4
    · exact h4.2, h.small, h.room, h.mx⟩
theorem PV.more (h : PV K base bb l lim most w) (hb : Below w.heap.size w w') (hK : ∀ k, K k → K' k) (hn : ∀ k, K' k → K k ∨ (w.heap.size ≤ k ∧ k < w'.heap.size)) : PV K' base bb l lim most w' := by
  obtain ⟨iv, h, hl⟩ := h
  exact ⟨iv, h.more hb hK hn, hl⟩
theorem PX.fewer (h : PX K base bb iv l lim most w) (hK : ∀ k, K' k → K k) (hlo : ∀ k, k < base → K' k) : PX K' base bb iv l lim most w :=
  ⟨h.box, h.rows, fun e => h.kb (hK _ e), fun g hg e => h.kt g hg (hK _ e), hlo, fun k hk => h.hi k (hK k hk), h.small, h.room, h.mx⟩
theorem PX.setK (h : PX K base bb iv l lim most w) {p : Addr} (hp : K p.block) (u : Value) : PX K base bb iv l lim most (w.setCell p u) :=
  ⟨h.box.far (fun e => h.kb (e ▸ hp)) u, ownsRow_setCell_other h.rows (fun e => h.kt _ e hp) u, h.kb, h.kt, h.lo, fun k hk => by simpa [World.setCell] using h.hi k hk, h.small, h.room, h.mx⟩
theorem PV.setK (h : PV K base bb l lim most w) {p : Addr} (hp : K p.block) (u : Value) : PV K base bb l lim most (w.setCell p u) := by
  obtain ⟨iv, h, hl⟩ := h
  exact ⟨iv, h.setK hp u, hl⟩
theorem PV.hi (h : PV K base bb l lim most w) : ∀ k, K k → k < w.heap.size := by
  obtain ⟨iv, h, -⟩ := h
  exact h.hi
theorem PX.grownK {row : Option Nat} (h : PX K base bb iv l lim most w) (hg : w.grownBy w' row) (hr : ∀ g, row = some g → K g) : PX K base bb iv l lim most w' :=
  ⟨h.box.grown hg (fun e => h.kb (hr _ e.symm)), own_kept h.rows hg (fun k e e2 => h.kt k e (hr _ e2)), h.kb, h.kt, h.lo, fun k hk => Nat.lt_of_lt_of_le (h.hi k hk) hg.size, h.small, h.room, h.mx⟩
end
theorem build_en0 (w : World) : Sem.run Try.prog (Instr.build 30 #[]) w = .ok (.agg #[.bool false, .int .i64 0, .int .i64 0, .int .i64 0, .int .i64 0, .int .i64 0]) w := run_build w 30 _ _ (by kernel_rfl)
theorem build_item (e : Bool) (a b c d f x : Int) (w : World) : Sem.run Try.prog (Instr.build 46 #[(0, .agg #[.bool e, .int .i64 a, .int .i64 b, .int .i64 c, .int .i64 d, .int .i64 f]), (1, .int .i64 x)]) w = .ok (.agg #[.bool e, .int .i64 a, .int .i64 b, .int .i64 c, .int .i64 d, .int .i64 f, .int .i64 x]) w := run_build w 46 _ _ (by kernel_rfl)
theorem build_pile (n : Int) (w : World) : Sem.run Try.prog (Instr.build 44 #[(1, .int .i64 n)]) w = .ok (.agg #[.slice none 0 0, .int .i64 n, .int .i64 0]) w := run_build w 44 _ _ (by kernel_rfl)
theorem info_it : (Try.prog.info? 46).map (fun i => (i.zero, i.size, i.bytes)) = some (some (.agg #[.bool false, .int .i64 0, .int .i64 0, .int .i64 0, .int .i64 0, .int .i64 0, .int .i64 0]), 7, 56) := by kernel_rfl
def cutC (A : Option Addr) (f cap : Nat) : Option Addr := if cap = f then A else A.map (·.add (f * 7))
set_option maxRecDepth 100000 in
theorem slice_tail (A : Option Addr) (n cap f : Nat) (h1 : f ≤ n) (W : World) : Sem.run Try.prog (Instr.slice 42 (.slice A n cap) (some (.int .i64 (f : Int))) none none) W = .ok (.slice (cutC A f cap) (n - f) (cap - f)) W := by
  have hu : Try.prog.underlying 42 = some (.slice (Try.prog.elem 42)) := by kernel_rfl
  have hz := Try.sizeOf46
  rw [run_slice_l (P := Try.prog) W 42 A n cap hu .i64 (f : Int) (by omega) (by omega)]
  have he : Try.prog.elem 42 = 46 := by kernel_rfl
  rw [he]
  simp only [go_sem, Result.andThen_ok, sliced, Int.toNat_natCast]
  rfl
set_option maxRecDepth 100000 in
theorem slice_head (A : Option Addr) (n cap f : Nat) (h1 : f ≤ n) (h2 : n ≤ cap) (W : World) : Sem.run Try.prog (Instr.slice 42 (.slice A n cap) none (some (.int .i64 (f : Int))) none) W = .ok (.slice A f cap) W := by
  have hu : Try.prog.underlying 42 = some (.slice (Try.prog.elem 42)) := by kernel_rfl
  have hz := Try.sizeOf46
  rw [run_slice_h (P := Try.prog) W 42 A n cap hu .i64 (f : Int) (by omega) (by omega)]
  have he : Try.prog.elem 42 = 46 := by kernel_rfl
  rw [he]
  simp only [go_sem, Result.andThen_ok, sliced, Int.toNat_natCast]
  rw [hz]
  show Result.ok _ _ = _
  cases A with
  | none => simp
  | some ad => simp [Addr.add]
end Go.Proofs.Ytklmligfljakfaa.Pi
