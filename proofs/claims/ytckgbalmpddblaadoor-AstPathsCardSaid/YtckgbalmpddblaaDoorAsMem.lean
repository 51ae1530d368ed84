/-
  Trees as data: a node, a list of nodes, a list of names, as they lie in memory. No conditions.
-/
import Derived.Test.YtckgbalmpddblaaDoorSymMem
import Derived.Test.YtckgbalmpddblaaDoorRsPure
import Derived.Test.YtckgbalmpddblaaDoorRsMem
set_option linter.unusedVariables false
set_option linter.unusedSimpArgs false
namespace Go.Proofs.YtckgbalmpddblaaDoor.As
open Go.RowKit Go.Proofs.YtckgbalmpddblaaDoor.Mem Go.Proofs.YtckgbalmpddblaaDoor.Rs

structure Nd where
  kind : Int
  from_ : Int
  to_ : Int
  num : Int
  mn : Int
  mx : Int
  mode : Int
  name : List UInt8
  set : List R
  kids : List Int
structure Tr where
  nodes : List Nd
  groups : Int
  names : List (List UInt8)
abbrev str (l : List UInt8) : Value := .string ⟨l.toArray⟩
def in64 (x : Int) : Prop := -9223372036854775808 ≤ x ∧ x ≤ 9223372036854775807

def SetV (w : World) (B : Nat) (l : List R) (v : Value) : Prop := ∃ A cap, v = .slice A l.length cap ∧ l.length ≤ cap ∧ cap ≤ 9223372036854775807 ∧ Lst w B A l
def KidsV (w : World) (B : Nat) (l : List Int) (v : Value) : Prop := ∃ A cap, v = .slice A l.length cap ∧ l.length ≤ cap ∧ cap ≤ 9223372036854775807 ∧ Reads w B 1 A l.length (l.map Mem.i64)
/-- ten cells that are a node -/
def NodeV (w : World) (B : Nat) (nd : Nd) (c : Nat → Option Value) : Prop :=
  c 0 = some (.int .i64 nd.kind) ∧ c 1 = some (.int .i64 nd.from_) ∧ c 2 = some (.int .i64 nd.to_) ∧ c 3 = some (.int .i64 nd.num) ∧ c 4 = some (.int .i64 nd.mn) ∧ c 5 = some (.int .i64 nd.mx) ∧ c 6 = some (.int .i64 nd.mode) ∧
  c 7 = some (str nd.name) ∧ (∃ v, c 8 = some v ∧ SetV w B nd.set v) ∧ (∃ v, c 9 = some v ∧ KidsV w B nd.kids v)
def NodesV (w : World) (B : Nat) (l : List Nd) (v : Value) : Prop := ∃ A cap, v = .slice A l.length cap ∧ l.length ≤ cap ∧ cap ≤ 9223372036854775807 ∧
  (0 < l.length → ∃ b off, A = some ⟨b, off, none⟩ ∧ b < B ∧ ∀ k nd, l[k]? = some nd → NodeV w B nd fun j => w.cell? ⟨b, off + k * 10 + j, none⟩)
def NamesV (w : World) (B : Nat) (l : List (List UInt8)) (v : Value) : Prop := ∃ A cap, v = .slice A l.length cap ∧ l.length ≤ cap ∧ cap ≤ 9223372036854775807 ∧
  (0 < l.length → ∃ b off, A = some ⟨b, off, none⟩ ∧ b < B ∧ ∀ k s, l[k]? = some s → w.cell? ⟨b, off + k, none⟩ = some (str s))
/-- a tree as a value -/
def TreeV (w : World) (B : Nat) (t : Tr) (v : Value) : Prop := ∃ a c, v = .agg #[a, .int .i64 t.groups, c] ∧ NodesV w B t.nodes a ∧ NamesV w B t.names c
def NdIn (nd : Nd) : Prop := in64 nd.kind ∧ in64 nd.from_ ∧ in64 nd.to_ ∧ in64 nd.num ∧ in64 nd.mn ∧ in64 nd.mx ∧ in64 nd.mode ∧ (∀ r ∈ nd.set, in64 r.1) ∧ ∀ k ∈ nd.kids, in64 k
def TrIn (t : Tr) : Prop := (∀ nd ∈ t.nodes, NdIn nd) ∧ in64 t.groups

section
variable {w w' : World} {B B' : Nat}
theorem SetV.keep {l : List R} {v : Value} (h : SetV w B l v) (hk : ∀ p : Addr, p.block < B → w'.cell? p = w.cell? p) : SetV w' B l v := by
  obtain ⟨A, cap, h1, h2, h3, h4⟩ := h
  exact ⟨A, cap, h1, h2, h3, h4.keep hk⟩
theorem KidsV.keep {l : List Int} {v : Value} (h : KidsV w B l v) (hk : ∀ p : Addr, p.block < B → w'.cell? p = w.cell? p) : KidsV w' B l v := by
  obtain ⟨A, cap, h1, h2, h3, h4⟩ := h
  exact ⟨A, cap, h1, h2, h3, h4.keep hk⟩
theorem NodeV.keep {nd : Nd} {c c' : Nat → Option Value} (h : NodeV w B nd c) (hk : ∀ p : Addr, p.block < B → w'.cell? p = w.cell? p) (hc : ∀ j, c' j = c j) : NodeV w' B nd c' := by
  obtain ⟨h0, h1, h2, h3, h4, h5, h6, h7, ⟨v8, h8, h8'⟩, v9, h9, h9'⟩ := h
  simp only [NodeV, hc]
  exact ⟨h0, h1, h2, h3, h4, h5, h6, h7, ⟨v8, h8, h8'.keep hk⟩, v9, h9, h9'.keep hk⟩
theorem NodesV.keep {l : List Nd} {v : Value} (h : NodesV w B l v) (hk : ∀ p : Addr, p.block < B → w'.cell? p = w.cell? p) : NodesV w' B l v := by
  obtain ⟨A, cap, h1, h2, h3, h4⟩ := h
  refine ⟨A, cap, h1, h2, h3, fun hn => ?_⟩
  obtain ⟨b, off, e, hb, hc⟩ := h4 hn
  exact ⟨b, off, e, hb, fun k nd hnd => (hc k nd hnd).keep hk fun j => hk ⟨b, _, none⟩ hb⟩
theorem NamesV.keep {l : List (List UInt8)} {v : Value} (h : NamesV w B l v) (hk : ∀ p : Addr, p.block < B → w'.cell? p = w.cell? p) : NamesV w' B l v := by
  obtain ⟨A, cap, h1, h2, h3, h4⟩ := h
  refine ⟨A, cap, h1, h2, h3, fun hn => ?_⟩
  obtain ⟨b, off, e, hb, hc⟩ := h4 hn
  exact ⟨b, off, e, hb, fun k s hs => (hk ⟨b, _, none⟩ hb).trans (hc k s hs)⟩
theorem TreeV.keep {t : Tr} {v : Value} (h : TreeV w B t v) (hk : ∀ p : Addr, p.block < B → w'.cell? p = w.cell? p) : TreeV w' B t v := by
  obtain ⟨a, c, h1, h2, h3⟩ := h
  exact ⟨a, c, h1, h2.keep hk, h3.keep hk⟩
theorem TreeV.below {t : Tr} {v : Value} (h : TreeV w B t v) (hb : Below B w w') : TreeV w' B t v := h.keep fun _ hp => hb.cell hp
end
end Go.Proofs.YtckgbalmpddblaaDoor.As
