/-
  What is asked of a tree's calls, as functions on trees; the document's example. Pure: no program.
-/
import Derived.Test.YtckgbalmpddblaaDoorAsTree
set_option linter.unusedVariables false
set_option linter.unusedSimpArgs false
namespace Go.Proofs.YtckgbalmpddblaaDoor.As
open Go.Proofs.YtckgbalmpddblaaDoor.Rs

def endI (L : List Nd) (i : Int) : Int := if 0 ≤ i ∧ i < L.length then E L i.toNat else 0
/-- is i in the part of the node f? -/
def insideI (L : List Nd) (i f : Int) : Bool := decide (0 ≤ f) && decide (f ≤ i) && decide (i < L.length) && decide (i < E L f.toNat)
/-- what a call of a tree is given: not too great to be read -/
def Fit (t : Tr) : Prop := t.nodes.length ≤ 100000 ∧ (∀ nd ∈ t.nodes, nd.set.length ≤ 8796093021952) ∧ TrIn t
theorem endI_in {L : List Nd} {i : Nat} (h : i < L.length) : endI L i = E L i := by unfold endI; rw [if_pos (by omega)]; rfl
theorem endI_out {L : List Nd} {i : Int} (h : i < 0 ∨ (L.length : Int) ≤ i) : endI L i = 0 := by unfold endI; rw [if_neg (by omega)]
theorem insideI_out {L : List Nd} {i f : Int} (h : f < 0 ∨ i < f ∨ (L.length : Int) ≤ i) : insideI L i f = false := by
  unfold insideI
  rcases h with h | h | h
  · simp; omega
  · simp; omega
  · simp; omega
theorem insideI_anc {L : List Nd} {i : Int} {k : Nat} (hi : i < L.length) : insideI L i k = anc L i k := by
  unfold insideI anc
  simp [hi]
def nd0 (kind num : Int) (kids : List Int) : Nd := ⟨kind, 0, 0, num, 0, 0, 0, [], [], kids⟩
def smallT : Tr := ⟨[nd0 5 0 [1, 2], nd0 1 0 [], nd0 7 1 [3], nd0 1 0 []], 1, [[], []]⟩
theorem small_laid : Laid smallT.nodes := ⟨by decide, by decide⟩
theorem small_fit : Fit smallT := by
  refine ⟨by decide, by decide, ⟨fun nd hnd => ?_, by simp [smallT, in64]⟩⟩
  simp only [smallT, List.mem_cons, List.not_mem_nil, or_false] at hnd
  rcases hnd with rfl | rfl | rfl | rfl <;> simp [NdIn, nd0, in64]
theorem small_parent : parentN smallT.nodes 3 = 2 := by decide
theorem small_end : endI smallT.nodes 0 = 4 := by decide
theorem small_in : insideI smallT.nodes 3 2 = true := by decide
theorem small_out : insideI smallT.nodes 1 2 = false := by decide
/-- two nodes are the same, but for where they stand -/
def alikeN (a b : Nd) : Bool := decide (a.kind = b.kind ∧ a.num = b.num ∧ a.mn = b.mn ∧ a.mx = b.mx ∧ a.mode = b.mode ∧ a.name = b.name ∧ a.set = b.set ∧ a.kids = b.kids)
def alikeL : List Nd → List Nd → Bool
  | [], [] => true
  | a :: l, b :: m => alikeN a b && alikeL l m
  | _, _ => false
/-- two trees are the same, but for where their nodes stand -/
def sameT (a b : Tr) : Bool := decide (a.groups = b.groups) && decide (a.names = b.names) && alikeL a.nodes b.nodes
end Go.Proofs.YtckgbalmpddblaaDoor.As
