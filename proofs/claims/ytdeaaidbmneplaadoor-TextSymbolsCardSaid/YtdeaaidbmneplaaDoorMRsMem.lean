/-
  Ranges in memory: two cells each; how a list of them lies; a range loaded.
-/
import Derived.Test.YtdeaaidbmneplaaDoorMSymMem
import Derived.Test.YtdeaaidbmneplaaDoorMPuA
import Derived.Test.YtdeaaidbmneplaaDoorRows
set_option linter.unusedSimpArgs false
set_option linter.unusedVariables false
namespace Go.Proofs.YtdeaaidbmneplaaDoor.Rs
open Go.RowKit Go.Proofs.YtdeaaidbmneplaaDoor.Mem
def i64 (x : Int) : Value := .int .i64 x
def agg (r : R) : Value := .agg #[.int .i64 r.1, .int .i64 r.2]
def enc (r : R) : List Value := [.int .i64 r.1, .int .i64 r.2]
def flat (l : List R) : List Value := l.flatMap enc
@[simp] theorem flat_nil : flat [] = [] := rfl
@[simp] theorem flat_cons (r : R) (l : List R) : flat (r :: l) = .int .i64 r.1 :: .int .i64 r.2 :: flat l := rfl
theorem flat_append (a b : List R) : flat (a ++ b) = flat a ++ flat b := by simp [flat]
theorem flat_len : ∀ l : List R, (flat l).length = l.length * 2
  | [] => rfl
  | r :: l => by simp only [flat_cons, List.length_cons, flat_len l]; omega
theorem flat_lo : ∀ (l : List R) (k : Nat), (flat l)[k * 2]? = (l[k]?).map fun r => .int .i64 r.1
  | [], k => by simp
  | r :: l, 0 => rfl
  | r :: l, k + 1 => by
    rw [show (k + 1) * 2 = k * 2 + 1 + 1 by omega, flat_cons, List.getElem?_cons_succ, List.getElem?_cons_succ, List.getElem?_cons_succ, flat_lo l k]
theorem flat_hi : ∀ (l : List R) (k : Nat), (flat l)[k * 2 + 1]? = (l[k]?).map fun r => .int .i64 r.2
  | [], k => by simp
  | r :: l, 0 => rfl
  | r :: l, k + 1 => by
    rw [show (k + 1) * 2 + 1 = k * 2 + 1 + 1 + 1 by omega, flat_cons, List.getElem?_cons_succ, List.getElem?_cons_succ, List.getElem?_cons_succ, flat_hi l k]
def Lst (w : World) (B : Nat) (A : Option Addr) (l : List R) : Prop := 0 < l.length → ∃ b off, A = some ⟨b, off, none⟩ ∧ b < B ∧ ∀ k r, l[k]? = some r → w.cell? ⟨b, off + k * 2, none⟩ = some (.int .i64 r.1) ∧ w.cell? ⟨b, off + k * 2 + 1, none⟩ = some (.int .i64 r.2)
section
variable {w w' : World} {B B' : Nat} {A : Option Addr} {l : List R}
theorem Lst.keep (h : Lst w B A l) (hk : ∀ p : Addr, p.block < B → w'.cell? p = w.cell? p) : Lst w' B A l := fun hn => by
  obtain ⟨b, off, e, hb, hc⟩ := h hn
  exact ⟨b, off, e, hb, fun k r hr => ⟨(hk ⟨b, _, none⟩ hb).trans (hc k r hr).1, (hk ⟨b, _, none⟩ hb).trans (hc k r hr).2⟩⟩
theorem Lst.below (h : Lst w B A l) (hb : Below B w w') : Lst w' B A l := h.keep fun _ hp => hb.cell hp
theorem Lst.more (h : Lst w B A l) (hB : B ≤ B') : Lst w B' A l := fun hn => by
  obtain ⟨b, off, e, hb, hc⟩ := h hn
  exact ⟨b, off, e, by omega, hc⟩
theorem Lst.nil : Lst w B A [] := fun h => absurd h (by simp)
theorem Lst.lt (h : Lst w B A l) : Lst w w.heap.size A l := fun hn => by
  obtain ⟨b, off, e, hb, hc⟩ := h hn
  exact ⟨b, off, e, cell_lt (hc 0 l[0] (List.getElem?_eq_getElem hn)).1, hc⟩
theorem Lst.reads (h : Lst w B A l) : Reads w B 2 A l.length (flat l) := by
  refine ⟨flat_len l, fun hn => ?_⟩
  obtain ⟨b, off, rfl, hb, hc⟩ := h hn
  refine ⟨_, rfl, hb, fun j u hu => ?_⟩
  rw [add_flat]
  have hj : j < (flat l).length := (List.getElem?_eq_some_iff.1 hu).1
  rw [flat_len] at hj
  have hl := List.getElem?_eq_getElem (l := l) (i := j / 2) (by omega)
  rcases Nat.mod_two_eq_zero_or_one j with h0 | h1
  · have e : j = (j / 2) * 2 := by omega
    rw [e, flat_lo, hl] at hu
    have := (hc _ _ hl).1
    rw [← e] at this
    exact this.trans hu
  · have e : j = (j / 2) * 2 + 1 := by omega
    rw [e, flat_hi, hl] at hu
    have := (hc _ _ hl).2
    rw [Nat.add_assoc, ← e] at this
    exact this.trans hu
theorem Lst.of_reads (h : Reads w B 2 A l.length (flat l)) : Lst w B A l := fun hn => by
  obtain ⟨ad, rfl, hb, hc⟩ := h.2 hn
  have h0 : (flat l)[0]? = some (.int .i64 (l[0]).1) := by
    have := flat_lo l 0
    rw [List.getElem?_eq_getElem hn] at this
    exact this
  obtain ⟨b, off, sp⟩ := ad
  have e : sp = none := cell_spot (by simpa [Addr.add] using hc 0 _ h0)
  subst e
  refine ⟨b, off, rfl, hb, fun k r hr => ⟨?_, ?_⟩⟩
  · have := hc (k * 2) (.int .i64 r.1) (by rw [flat_lo, hr]; rfl)
    rwa [add_flat] at this
  · have := hc (k * 2 + 1) (.int .i64 r.2) (by rw [flat_hi, hr]; rfl)
    rwa [add_flat] at this
end
theorem run_not_true {P : Program} (w : World) : Sem.run P (Op.unary UnOp.not (.bool true)) w = .ok (.bool false) w := rfl
theorem run_not_false {P : Program} (w : World) : Sem.run P (Op.unary UnOp.not (.bool false)) w = .ok (.bool true) w := rfl
theorem wrap_id (x : Int) (h : -9223372036854775808 ≤ x) (h2 : x ≤ 9223372036854775807) : IntKind.i64.wrap x = x := by simp [IntKind.wrap, IntKind.bits, IntKind.signed]; omega
theorem own_base {W : World} {base e size n : Nat} {v : Value} {xs : List Value} (h : W.ownsRow base e size v n xs) : ∀ k, v.ownBlock = some k → base ≤ k := by
  intro k hk
  rcases h.2 with ⟨rfl, _⟩ | ⟨g, cap, cur, rfl, hb, _, _⟩
  · simp [Value.ownBlock] at hk
  · obtain rfl : g = k := by simpa [Value.ownBlock] using hk
    exact hb
theorem reads_new (W : World) (C : Array Value) (t : TypeId) (n size : Nat) (hC : C.size = n * size) : Reads (W.alloc (.cells C t)) (W.heap.size + 1) size (some ⟨W.heap.size, 0, none⟩) n C.toList :=
  ⟨by simpa using hC, fun _ => ⟨_, rfl, Nat.lt_succ_self _, fun j u hj => by
    rw [add_flat, Nat.zero_add, World.cell?_alloc_new]
    simpa using hj⟩⟩
theorem reads_at {W : World} {g : Nat} (hg : g = W.heap.size) (C : Array Value) (t : TypeId) (n size : Nat) (hC : C.size = n * size) : Reads (W.alloc (.cells C t)) (g + 1) size (some ⟨g, 0, none⟩) n C.toList := by subst hg; exact reads_new W C t n size hC
theorem below_al {B : Nat} {a w : World} (h : Below B a w) (hB : B ≤ w.heap.size) (o : Obj) : Below B a (w.alloc o) := h.alloc hB o
theorem below_app {w0 W W' : World} {e n size : Nat} {v : Value} {xs : List Value} {t : Obj} (hB : Below w0.heap.size w0 W) (ho : W.ownsRow w0.heap.size e size v n xs) (hg : (W.alloc t).grownBy W' v.ownBlock) : Below w0.heap.size w0 W' :=
  (hB.alloc hB.size t).grown hg (by rw [World.size_alloc]; have := hB.size; omega) (own_base ho)
theorem own_lst2 {W : World} {base e : Nat} {v : Value} {l : List R} (h : W.ownsRow base e 2 v l.length (flat l)) : ∃ A cap, v = .slice A l.length cap ∧ Lst W W.heap.size A l ∧ l.length ≤ cap ∧ cap ≤ maxLen := by
  rcases h.2 with ⟨rfl, hn⟩ | ⟨g, cap, cur, rfl, hb, hh, hnc, hcm, hcs, ht⟩
  · exact ⟨none, 0, by rw [hn], fun hl => by omega, by omega, by unfold maxLen; omega⟩
  · exact ⟨_, cap, rfl, Lst.of_reads (Reads.of_own h), hnc, hcm⟩
theorem cells_get {w : World} {b off : Nat} {l : List R} (hc : ∀ k r, l[k]? = some r → w.cell? ⟨b, off + k * 2, none⟩ = some (.int .i64 r.1) ∧ w.cell? ⟨b, off + k * 2 + 1, none⟩ = some (.int .i64 r.2)) :
    ∀ j, j < l.length → ∀ i v, (enc l[j]!)[i]? = some v → w.cell? ⟨b, off + j * 2 + i, none⟩ = some v := by
  intro j hj i v hi
  have h := hc j l[j]! (by rw [getElem!_pos l j hj, List.getElem?_eq_getElem hj])
  generalize l[j]! = q at h hi
  match i, hi with
  | 0, hi => simp [enc] at hi; subst hi; exact h.1
  | 1, hi => simp [enc] at hi; subst hi; exact h.2
  | i + 2, hi => simp [enc] at hi
end Go.Proofs.YtdeaaidbmneplaaDoor.Rs
