/-
  Steps that come as an argument, how they lie; many Sets one behind the other, as plain data; numbers that lie as a whole row. No conditions.
-/
import Derived.Test.YtjnljhigaapalaaUnPart
import Derived.Test.YtjnljhigaapalaaUnSet
import Derived.Test.YtjnljhigaapalaaUnLike
set_option linter.unusedVariables false
set_option linter.unusedSimpArgs false
namespace Go.Proofs.Ytjnljhigaapalaa.Un
open Go.RowKit Go.Proofs.Ytjnljhigaapalaa.Mem
open Go.Proofs.Ytjnljhigaapalaa.Ev (CV intA)
abbrev Opn := Int × Int × Int
structure OV (l : List Opn) (A : Option Addr) (cap B : Nat) (w : World) : Prop where
  room : l.length ≤ cap
  top : cap ≤ 9223372036854775807
  lies : 0 < l.length → ∃ b off, A = some ⟨b, off, none⟩ ∧ b < B ∧ ∀ k o, l[k]? = some o → w.cell? ⟨b, off + k * 3, none⟩ = some (.int .i64 o.1) ∧ w.cell? ⟨b, off + k * 3 + 1, none⟩ = some (.int .i64 o.2.1) ∧ w.cell? ⟨b, off + k * 3 + 2, none⟩ = some (.int .i64 o.2.2)
theorem OV.keep {l : List Opn} {A : Option Addr} {cap B : Nat} {w w' : World} {K : Nat → Prop} (h : OV l A cap B w) (hk : Keep K w w') (hK : ∀ k, k < B → K k) : OV l A cap B w' :=
  ⟨h.room, h.top, fun hn => by
    obtain ⟨b, off, e, hb, hc⟩ := h.lies hn
    exact ⟨b, off, e, hb, fun k o ho => by
      obtain ⟨c0, c1, c2⟩ := hc k o ho
      exact ⟨(hk.cell (p := ⟨b, off + k * 3, none⟩) (hK _ hb)).trans c0, (hk.cell (p := ⟨b, off + k * 3 + 1, none⟩) (hK _ hb)).trans c1, (hk.cell (p := ⟨b, off + k * 3 + 2, none⟩) (hK _ hb)).trans c2⟩⟩⟩
def sets (s : List Int × List Ch) (l : List Opn) : List Int × List Ch := l.foldl (fun s o => (setN s.1 o.2.1 o.2.2, setT s.1 s.2 o.2.1 o.2.2)) s
theorem sets_step (s : List Int × List Ch) {l : List Opn} {k : Nat} {o : Opn} (h : l[k]? = some o) : sets s (l.take (k + 1)) = (setN (sets s (l.take k)).1 o.2.1 o.2.2, setT (sets s (l.take k)).1 (sets s (l.take k)).2 o.2.1 o.2.2) := by
  unfold sets
  rw [List.take_add_one, h, Option.toList_some, List.foldl_append]
  rfl
theorem sets_len (s : List Int × List Ch) (l : List Opn) : (sets s l).1.length = s.1.length ∧ (sets s l).2.length ≤ s.2.length + l.length ∧ s.2.length ≤ (sets s l).2.length := by
  induction l generalizing s with
  | nil => exact ⟨rfl, Nat.le_refl _, Nat.le_refl _⟩
  | cons o l ih =>
    have h := ih (setN s.1 o.2.1 o.2.2, setT s.1 s.2 o.2.1 o.2.2)
    have h2 := setT_len s.1 s.2 o.2.1 o.2.2
    have h3 := setN_len s.1 o.2.1 o.2.2
    have e : sets s (o :: l) = sets (setN s.1 o.2.1 o.2.2, setT s.1 s.2 o.2.1 o.2.2) l := rfl
    rw [e, List.length_cons]
    refine ⟨h.1.trans h3, ?_, ?_⟩
    · have := h.2.1; simp only at this; omega
    · have := h.2.2; simp only at this; omega
theorem sets_hist (s : List Int × List Ch) (l : List Opn) {k : Nat} (hk : k ≤ s.2.length) : back (sets s l).1 ((sets s l).2.drop k) = back s.1 (s.2.drop k) := by
  induction l generalizing s with
  | nil => rfl
  | cons o l ih =>
    have e : sets s (o :: l) = sets (setN s.1 o.2.1 o.2.2, setT s.1 s.2 o.2.1 o.2.2) l := rfl
    have h2 := setT_len s.1 s.2 o.2.1 o.2.2
    rw [e, ih _ (by simp only; omega)]
    exact set_hist s.1 s.2 o.2.1 o.2.2 hk
def LRel (K : Nat → Prop) (base bb : Nat) (s : List Int × List Ch) (l : List Opn) (w : World) (i : Value) (wr : World) : Prop :=
  ∃ k : Nat, i = .int .i64 k ∧ k ≤ l.length ∧ BV K base bb (sets s (l.take k)).1 (sets s (l.take k)).2 wr ∧ Keep K w wr
def NV (l : List Int) (A : Option Addr) (w : World) : Prop := 0 < l.length → ∃ g, A = some ⟨g, 0, none⟩ ∧ Blk w g 3 (intA l)
theorem NV.cv {l : List Int} {A : Option Addr} {w : World} (h : NV l A w) (hl : l.length ≤ 9223372036854775807) : CV l A l.length w :=
  ⟨Nat.le_refl _, hl, by rw [List.length_map, Nat.mul_one], fun hn => by
    obtain ⟨g, rfl, hb⟩ := h hn
    refine ⟨_, rfl, hb.lt, fun j u hj => ?_⟩
    rw [add_flat, Nat.zero_add, hb.cell j]
    unfold intA
    rw [List.getElem?_toArray]
    exact hj⟩
theorem BX.setK {K : Nat → Prop} {base bb nb : Nat} {tv : Value} {ns : List Int} {tr : List Ch} {w : World} (h : BX K base bb nb tv ns tr w) {p : Addr} (hp : K p.block) (u : Value) : BX K base bb nb tv ns tr (w.setCell p u) :=
  ⟨h.box.far (fun e => h.kb (e ▸ hp)) u, h.nums.far (fun e => h.kn (e ▸ hp)) u, ownsRow_setCell_other h.trail (fun e => h.kt _ e hp) u, h.kb, h.kn, h.kt, h.places, h.lo, fun k hk => by simpa [World.setCell] using h.hi k hk, h.small⟩
theorem BV.setK {K : Nat → Prop} {base bb : Nat} {ns : List Int} {tr : List Ch} {w : World} (h : BV K base bb ns tr w) {p : Addr} (hp : K p.block) (u : Value) : BV K base bb ns tr (w.setCell p u) := by
  obtain ⟨nb, tv, h⟩ := h
  exact ⟨nb, tv, h.setK hp u⟩
theorem BV.hi {K : Nat → Prop} {base bb : Nat} {ns : List Int} {tr : List Ch} {w : World} (h : BV K base bb ns tr w) : ∀ k, K k → k < w.heap.size := by
  obtain ⟨nb, tv, h⟩ := h
  exact h.hi
end Go.Proofs.Ytjnljhigaapalaa.Un
