/-
  A region that draws its order, within a round of a loop over a function: shown without the fence, where it leaves by its end alone. No conditions. No program.
-/
import Derived.Deep.RegionHeld3
import Derived.OrdersIn
import Derived.TacticsIn
set_option linter.unusedVariables false
set_option linter.unusedSimpArgs false
namespace Go.Proofs.Ytjnljhigaapalaa.RegTail
open Go
def Only (R : Act → World → Prop) : Exit → Act → World → Prop
  | .normal, a, w => R a w
  | _, _, _ => False
theorem only_norm {R : Act → World → Prop} {a : Act} {w : World} (h : R a w) : Only R .normal a w := h
theorem only_out {R : Act → World → Prop} : ¬ LetsOut (Only R) := fun ⟨_, _, h⟩ => h
def isDefer (o : Oper) : Bool := match o.op with
  | .defer _ => true
  | _ => false
theorem not_defer {o : Oper} (h : isDefer o = false) : ∀ c, o.op ≠ .defer c := fun c e => by
  unfold isDefer at h
  rw [e] at h
  cases h
section
variable {P : Program} {ops : Array Oper} {md : Region.Mode} {m l : Nat} {R : Act → World → Prop} {Q : Exit → Act → World → Prop}
theorem wpIn_of_wp {o : Oper} {a : Act} {w : World} {K K' : Act → World → Prop} (hd : isDefer o = false) (hK : ∀ a w, K a w → K' a w) (h : o.wp P a w K (Only R)) : o.wpIn (Fence.wide.inRound l) m P a w K' Q := by
  refine ⟨fun _ _ => trivial, ?_⟩
  rw [Fence.inRound_round, Oper.semAt_some l _ _ (not_defer hd)]
  unfold Oper.wp at h
  generalize (execOp a.eval o).run P w = r at *
  cases r with
  | ok n w' =>
    cases n <;> simp only [Oper.upon] at h <;> simp only [Oper.uponIn]
    case enter f args =>
      refine ⟨(fun hd => by cases hd), ?_⟩
      have h2 := callsIn_wide (n := m - 1) |>.2 h
      exact CallsIn.mono (show CallsIn (Fence.wide.inRound l) (m - 1) P f args w' _ from h2) (fun e w'' he => by
        cases e with
        | returned v => exact hK _ _ he
        | panicked c => exact he.elim
        | outgrown => exact (only_out he).elim)
    case row row args =>
      refine ⟨(fun hd => by cases hd), fun c cs _ => ?_⟩
      obtain ⟨v, w', r, s⟩ := h c cs
      exact ⟨v, w', hK _ _ r, stepsIn_wide.2 s⟩
    all_goals (first | exact hK _ _ h | exact h.elim)
  | halt x w' => cases x <;> simp only [Oper.upon] at h <;> exact h.elim
theorem wpOpIn_of_wpOp {i : Nat} {a : Act} {w : World} {K K' : Act → World → Prop} (hd : ops.any isDefer = false) (hK : ∀ a w, K a w → K' a w) (h : wpOp P ops (Only R) i K a w) : wpOpIn (Fence.wide.inRound l) m P ops Q i K' a w := by
  unfold wpOp at h
  unfold wpOpIn
  cases ho : ops[i]? with
  | none => simp only [ho] at h ⊢; exact hK _ _ h
  | some o =>
    simp only [ho] at h ⊢
    have hdo : isDefer o = false := by
      obtain ⟨hlt, e⟩ := Array.getElem?_eq_some_iff.1 ho
      have := Array.any_eq_false.1 hd i hlt
      rw [e] at this
      simpa using this
    split
    · rename_i hw
      rw [if_pos hw] at h
      rcases h with h | h
      · exact wpIn_of_wp hdo hK h
      · exact (only_out h.2).elim
    · rename_i hw
      rw [if_neg hw] at h
      exact ⟨fun _ _ => trivial, hK _ _ h⟩
theorem wpAnyIn_of_wpAny (hd : ops.any isDefer = false) (hR : ∀ a w, R a w → Q .normal a w) : ∀ (fuel : Nat) (listed : Array Bool) (a : Act) (w : World), wpAny P md ops (Only R) fuel listed a w → wpAnyIn (Fence.wide.inRound l) m P md ops Q fuel listed a w
  | 0, _, _, _, h => ⟨h.1, hR _ _ h.2⟩
  | fuel + 1, _, _, _, h => ⟨fun h0 => hR _ _ (h.1 h0), fun i hi => wpOpIn_of_wpOp hd (fun a' w' h' => wpAnyIn_of_wpAny hd hR fuel _ a' w' h') (h.2 i hi)⟩
end
end Go.Proofs.Ytjnljhigaapalaa.RegTail
