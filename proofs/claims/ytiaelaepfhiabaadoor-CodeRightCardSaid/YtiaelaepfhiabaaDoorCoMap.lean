/-
  The map of barriers in memory, tied to a list of pairs; a literal's entry; a row of waiting places that is cut by one. No conditions.
-/
import Derived.Test.YtiaelaepfhiabaaDoorCoSteps
import Derived.Test.YtiaelaepfhiabaaDoorCoBalPure
import Derived.Maps.OwnOps
import Derived.Maps.OwnSet
import Derived.Maps.Own
import Derived.Maps.Views
set_option linter.unusedVariables false
set_option linter.unusedSimpArgs false
namespace Go.Proofs.YtiaelaepfhiabaaDoor.Co
open Go.RowKit Go.Maps Go.Proofs.YtiaelaepfhiabaaDoor.Mem Go.Proofs.YtiaelaepfhiabaaDoor.Rs

theorem wpList_insert_own {H : Type} {P : Program} (w : World) {ops : Array Oper} {rest : List Oper} {o : Oper} {a : Act} {Q : Exit → Act → World → Prop}
    (hg : o.guard = none) (m x v : Operand) (t : TypeId) (hop : o.op = Op.insert t m x v)
    (k e : TypeId) (K : Keyed P k) (ht : P.underlying t = some (.map k e)) (R : Value → Option (DataW H × List MemPlace)) (b n : Nat) (D : DataW H)
    (hm : a.eval m = .map (some b)) (hown : w.ownsMap P k R b n D) (hn : n < maxLen) (key val : Value) (kl : Lit) (hx : a.eval x = key) (hv : a.eval v = val) (hkey : keyOf P k key = some kl)
    (d : DataW H) (ps : List MemPlace) (hval : R val = some (d, ps))
    (hK : ∀ w', w'.ownsMap P k R b (n + 1) (D.put kl d) → w.grownBy w' (some b) → wpList P ops Q rest (a.put o.dst undef) w') :
    wpList P ops Q (o :: rest) a w := by
  refine wpList_plain hg fun K' hK' => ?_
  obtain ⟨w', hrun, r1, r2⟩ := hown.update K ht hn hkey hval
  unfold Oper.wp
  simp [execOp, hop, hm, hx, hv, hrun, Result.andThen]
  exact hK' _ _ (hK w' r1 r2)

theorem lawI : Keyed Tryd.prog 3 := int_keyed Tryd.underlying3
theorem zeroI (w : World) : (zeroValue 3).run Tryd.prog w = .ok (.int .i64 0) w := by kernel_rfl
abbrev li (x : Int) : Lit := .int .i64 x
theorem wfI {k : Int} (h0 : -9223372036854775808 ≤ k) (h1 : k ≤ 9223372036854775807) : (Lit.int .i64 k).wf = true := by simp [Lit.wf, IntKind.min, IntKind.max, IntKind.signed, IntKind.bits]; omega
theorem isLi (k : Int) : WideAt.IsKeyLit (li k) := show WideAt.IsKeyLit (Lit.int .i64 k) by trivial
theorem keyI {k : Int} (h0 : -9223372036854775808 ≤ k) (h1 : k ≤ 9223372036854775807) : keyOf Tryd.prog 3 (.int .i64 k) = some (li k) := keyOf_int_mk Tryd.underlying3 (wfI h0 h1)
theorem elemI {k : Int} (h0 : -9223372036854775808 ≤ k) (h1 : k ≤ 9223372036854775807) : plainElem (H := Unit) Tryd.prog 3 (.int .i64 k) = some (.lit (li k), []) := plainElem_int Tryd.underlying3 (wfI h0 h1)

/-- THE MAP READS AS THE LIST L -/
def Tie (D : DataW Unit) (L : List (Int × Int)) : Prop := Tidy D ∧ Maps.size D = L.length ∧ ∀ k : Int, Maps.has D (li k) = (look L k).isSome ∧ D.atKey (li k) (.lit (li 0)) = .lit (li ((look L k).getD 0))
theorem li_ne {a b : Int} (h : a ≠ b) : li a ≠ li b := fun e => h (by injection e)
theorem tie_nil : Tie (.map []) [] := ⟨tidy_empty, rfl, fun k => ⟨rfl, rfl⟩⟩
theorem tie_put {D : DataW Unit} {L : List (Int × Int)} (h : Tie D L) (k v : Int) (hk : look L k = none) : Tie (D.put (li k) (.lit (li v))) ((k, v) :: L) := by
  obtain ⟨ht, hs, hr⟩ := h
  refine ⟨ht.put (isLi k) _, ?_, fun j => ?_⟩
  · rw [size_put ht, if_neg (by rw [(hr k).1, hk]; simp), hs]; rfl
  · rw [look_cons]
    by_cases e : k = j
    · subst e
      rw [if_pos rfl]
      exact ⟨has_put_same ht.isMap (isLi k) _, atKey_put_same ht.isMap (isLi k) _ _⟩
    · rw [if_neg e, has_put_other (li_ne (Ne.symm e)), atKey_put_other (li_ne (Ne.symm e))]
      exact hr j
/-- how many entries a block's map has -/
def mapLen (w : World) (b : Nat) : Nat := match w.heap[b]? with | some (.map es _) => es.size | _ => 0
theorem mapLen_own {w : World} {b n : Nat} {D : DataW Unit} {R : Value → Option (DataW Unit × List MemPlace)} {k : TypeId} (h : w.ownsMap Tryd.prog k R b n D) : mapLen w b = Maps.size D := by
  obtain ⟨es, clock, hb, F, _, rfl⟩ := h
  unfold mapLen
  rw [hb, size_eq, length_sorted]
  simp
def lenOf : Value → Nat | .slice _ n _ => n | _ => 0
def ints (st : List Int) : List Value := st.map fun x => .int .i64 x
theorem ints_len (st : List Int) : (ints st).length = st.length := by simp [ints]
theorem ints_one (st : List Int) : ∀ u ∈ ints st, u.oneCell' = true := by
  intro u hu
  simp only [ints, List.mem_map] at hu
  obtain ⟨x, _, rfl⟩ := hu
  rfl
/-- the last of a row, and the row less it -/
theorem own_pop {W : World} {base e : Nat} {v : Value} {st : List Int} {a : Int} (h : W.ownsRow base e 1 v (st.length + 1) (ints (st ++ [a]))) : ∃ g cap, v = .slice (some ⟨g, 0, none⟩) (st.length + 1) cap ∧ base ≤ g ∧ st.length + 1 ≤ cap ∧ cap ≤ maxLen ∧ W.cell? ⟨g, st.length, none⟩ = some (.int .i64 a) ∧ W.ownsRow base e 1 (.slice (some ⟨g, 0, none⟩) st.length cap) st.length (ints st) := by
  obtain ⟨hl, h | ⟨g, cap, cur, rfl, hb, hh, hc, hcm, hcs, ht⟩⟩ := h
  · exact absurd h.2 (by omega)
  · have h1 : cur.toList[st.length]? = some (.int .i64 a) := by
      have e1 : (cur.toList.take ((st.length + 1) * 1))[st.length]? = some (.int .i64 a) := by rw [ht]; simp [ints]
      rwa [List.getElem?_take, if_pos (by omega)] at e1
    refine ⟨g, cap, rfl, hb, hc, hcm, ?_, by simp [ints_len], .inr ⟨g, cap, cur, rfl, hb, hh, by omega, hcm, hcs, ?_⟩⟩
    · rw [cell_of_row W g _ cur e (0, 0) hh]; simpa using h1
    · have e2 := congrArg (List.take (st.length * 1)) ht
      rw [List.take_take, Nat.min_eq_left (by omega)] at e2
      rw [e2]
      simp [ints]
theorem own_one {W : World} {base e : Nat} {g : Nat} {a : Int} (hg : g = W.heap.size) (hb : base ≤ g) : (W.alloc (.cells #[.int .i64 a] e)).ownsRow base e 1 (.slice (some ⟨g, 0, none⟩) 1 1) 1 (ints [a]) := by
  subst hg
  exact ⟨rfl, .inr ⟨_, 1, _, rfl, hb, heap_alloc_new W _, Nat.le_refl _, by unfold maxLen; omega, rfl, rfl⟩⟩
end Go.Proofs.YtiaelaepfhiabaaDoor.Co
