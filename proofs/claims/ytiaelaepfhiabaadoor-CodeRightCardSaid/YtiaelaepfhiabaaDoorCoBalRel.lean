/-
  How it stands within a round of code.balanced (the inner loop over the steps). No conditions.
-/
import Derived.Test.YtiaelaepfhiabaaDoorCoMap
set_option linter.unusedVariables false
set_option linter.unusedSimpArgs false
namespace Go.Proofs.YtiaelaepfhiabaaDoor.Co
open Go.RowKit Go.Maps Go.Proofs.YtiaelaepfhiabaaDoor.Mem Go.Proofs.YtiaelaepfhiabaaDoor.Rs

structure IR (l : List In) (a : Nat) (m : Int) (S : List (Int × Int)) (M : Nat) (A5 : Option Addr) (cs : Array Value) (w : World) (v : Value) (j : Nat) (L : List (Int × Int)) (st : List Int) (D : DataW Unit) (wr : World) : Prop where
  le : j ≤ S.length
  map : wr.ownsMap Tryd.prog 3 (plainElem (H := Unit) Tryd.prog 3) (w.heap.size + 1) L.length D
  tie : Tie D L
  row : wr.ownsRow (w.heap.size + 2) 3 1 v st.length (ints st)
  inv : Inv l L st (some (a : Int))
  la : look L (a : Int) = some m
  done : ∀ q s, q < j → S[q]? = some s → look L s.1 = some s.2
  mea : 2 * U l.length L + st.length ≤ M
  be : Below w.heap.size w wr
  blk : Blk wr w.heap.size 26 cs
  lst : Lst wr wr.heap.size A5 S
  far : ∀ ad, A5 = some ad → w.heap.size + 2 ≤ ad.block ∧ v.ownBlock ≠ some ad.block
theorem lst_grown {w w' : World} {B : Nat} {A : Option Addr} {l : List R} {row : Option Nat} (h : Lst w B A l) (hB : B ≤ w.heap.size) (hg : w.grownBy w' row) (hne : ∀ ad, A = some ad → row ≠ some ad.block) : Lst w' B A l := fun hn => by
  obtain ⟨b, off, rfl, hb, hc⟩ := h hn
  have hk : ∀ i, w'.cell? ⟨b, i, none⟩ = w.cell? ⟨b, i, none⟩ := fun i => World.cell?_of_block (hg.block b (by omega) (fun e => hne _ rfl e.symm))
  exact ⟨b, off, rfl, hb, fun k r hr => ⟨(hk _).trans (hc k r hr).1, (hk _).trans (hc k r hr).2⟩⟩
section
variable {l : List In} {a : Nat} {m : Int} {S : List (Int × Int)} {M : Nat} {A5 : Option Addr} {cs : Array Value} {w : World} {v : Value} {j : Nat} {L : List (Int × Int)} {st : List Int} {D : DataW Unit} {wr : World}
theorem IR.same (h : IR l a m S M A5 cs w v j L st D wr) (o : Obj) {s : Int × Int} (hs : S[j]? = some s) (hk : look L s.1 = some s.2) : IR l a m S M A5 cs w v (j + 1) L st D (wr.alloc o) where
  le := (List.getElem?_eq_some_iff.1 hs).1
  map := h.map.alloc o
  tie := h.tie
  row := own_below h.row (below_al (Below.refl _ _) (Nat.le_refl _) _)
  inv := h.inv
  la := h.la
  done := fun q t hq ht => by
    rcases Nat.lt_or_ge q j with h1 | h1
    · exact h.done q t h1 ht
    · obtain rfl : q = j := by omega
      rw [hs] at ht; obtain rfl := Option.some.inj ht; exact hk
  mea := h.mea
  be := below_al h.be h.be.size o
  blk := h.blk.alloc o
  lst := (h.lst.below (below_al (Below.refl _ _) (Nat.le_refl _) _)).more (by simp)
  far := h.far
theorem IR.step {i : In} (hwf : Wf l) (hi : l[a]? = some i) (hb : bearsB i.op m = true) (hS : S = stepsP i a m) (h : IR l a m S M A5 cs w v j L st D wr) {o : Obj} {s : Int × Int} (hs : S[j]? = some s) (hk : look L s.1 = none) {w6 w8 : World} {v' : Value}
    (h6 : w6.ownsMap Tryd.prog 3 (plainElem (H := Unit) Tryd.prog 3) (w.heap.size + 1) (L.length + 1) (D.put (li s.1) (.lit (li s.2)))) (g6 : (wr.alloc o).grownBy w6 (some (w.heap.size + 1)))
    {o2 : Obj} (h8 : w8.ownsRow (w.heap.size + 2) 3 1 v' (st.length + 1) (ints st ++ [.int .i64 s.1])) (g8 : (w6.alloc o2).grownBy w8 v.ownBlock) (n8 : v'.ownBlock = v.ownBlock ∨ v'.ownBlock = some (w6.alloc o2).heap.size) :
    IR l a m S M A5 cs w v' (j + 1) (s :: L) (st ++ [s.1]) (D.put (li s.1) (.lit (li s.2))) w8 := by
  subst hS
  obtain ⟨hinv, hU⟩ := inv_new hwf h.inv h.la hi hb (List.mem_of_getElem? hs) hk
  have hbe : Below w.heap.size w w6 := (below_al h.be h.be.size o).grown g6 (by simp; have := h.be.size; omega) (fun j hj => by injection hj; omega)
  have hob := own_base h.row
  have hbe8 : Below w.heap.size w w8 := (below_al hbe hbe.size o2).grown g8 (by have := hbe.size; simp; omega) (fun j hj => by have := hob j hj; omega)
  have gg : wr.heap.size ≤ w6.heap.size := by have := g6.size; simp at this; omega
  have g8s := g8.size
  simp at g8s
  have hlt := h.map.lt
  refine ⟨(List.getElem?_eq_some_iff.1 hs).1, ?_, tie_put h.tie _ _ hk, ?_, hinv, look_old hk h.la, fun q t hq ht => ?_, ?_, hbe8, ?_, ?_, ?_⟩
  · exact (h6.alloc o2).kept g8 (fun e => by have := hob _ e.symm; omega)
  · rw [List.length_append, List.length_singleton]
    simpa [ints] using h8
  · rcases Nat.lt_or_ge q j with h1 | h1
    · exact look_old hk (h.done q t h1 ht)
    · obtain rfl : q = j := by omega
      rw [hs] at ht; obtain rfl := Option.some.inj ht; rw [look_cons, if_pos rfl]
  · have := h.mea
    simp only [List.length_append, List.length_singleton]
    omega
  · exact (((h.blk.alloc o).grown g6 (by simp)).alloc o2).grown g8 (fun e => by have := hob _ e.symm; omega)
  · have l1 : Lst (wr.alloc o) wr.heap.size A5 (stepsP i a m) := h.lst.below (below_al (Below.refl _ _) (Nat.le_refl _) _)
    have l2 : Lst w6 wr.heap.size A5 (stepsP i a m) := lst_grown l1 (by simp) g6 (fun ad e he => by have := (h.far ad e).1; injection he; omega)
    have l3 : Lst (w6.alloc o2) wr.heap.size A5 (stepsP i a m) := l2.keep fun p hp => World.cell?_alloc_lt w6 o2 p (by omega)
    exact (lst_grown l3 (by simp; omega) g8 (fun ad e => (h.far ad e).2)).more (by omega)
  · intro ad e
    have hf := h.far ad e
    refine ⟨hf.1, ?_⟩
    rcases n8 with n8 | n8
    · rw [n8]; exact hf.2
    · rw [n8]
      intro he
      injection he with he
      have h0 : 0 < (stepsP i a m).length := by have := (List.getElem?_eq_some_iff.1 hs).1; omega
      obtain ⟨b, off, e2, hb2, _⟩ := h.lst h0
      rw [e2] at e
      injection e with e
      subst e
      simp at he
      omega
end
end Go.Proofs.YtiaelaepfhiabaaDoor.Co
