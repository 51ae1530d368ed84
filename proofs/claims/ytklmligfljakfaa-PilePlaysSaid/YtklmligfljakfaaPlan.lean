/-
  A region that draws its order, walked by a plan: what yields in whatever world, loads that a condition on the world settles, calls that keep the condition, and an end that need not keep it. No conditions.
-/
import Derived.StillTail
import Derived.Deep.RegionHeld3
set_option linter.unusedVariables false
namespace Go.Proofs.Ytklmligfljakfaa.Plan
open Go
inductive PK where
  | t | l | k | e
def pick : List Oper → Nat → Oper
  | [], _ => default
  | o :: _, 0 => o
  | _ :: r, n + 1 => pick r n
section
variable {P : Program} {ops : Array Oper} {Q : Exit → Act → World → Prop} {md : Region.Mode} {S R : World → Prop} {es : List Nat}
def closed (md : Region.Mode) (ops : Array Oper) (L : Array Bool) : Prop := ∀ j o, ops[j]? = some o → L.getD j false = true → ∀ e ∈ o.after, Region.binds md e = true → L.getD e.on false = true
def wt (md : Region.Mode) (ops : Array Oper) : Nat → Nat → Nat → Bool
  | 0, _, _ => false
  | n + 1, j, i => match ops[j]? with
    | some o => o.after.any fun e => Region.binds md e && (e.on == i || wt md ops n e.on i)
    | none => false
theorem wt_listed {L : Array Bool} (hc : closed md ops L) : ∀ (n j i : Nat), (∀ o, ops[j]? = some o → ∀ e ∈ o.after, Region.binds md e = true → L.getD e.on false = true) → wt md ops n j i = true → L.getD i false = true
  | 0, _, _, _, h => by cases h
  | n + 1, j, i, hj, h => by
    unfold wt at h
    split at h
    · rename_i o ho
      obtain ⟨e, he, hb⟩ := Array.any_eq_true'.1 h
      simp only [Bool.and_eq_true, Bool.or_eq_true, beq_iff_eq] at hb
      have h1 := hj o ho e he hb.1
      rcases hb.2 with h2 | h2
      · exact h2 ▸ h1
      · exact wt_listed hc n e.on i (fun o' ho' => hc _ o' ho' h1) h2
    · cases h
theorem closed_set {L : Array Bool} {i : Nat} (hc : closed md ops L) (hi : i ∈ Region.ready md ops L) : closed md ops (L.setIfInBounds i true) := by
  obtain ⟨_, oi, hoi, hall⟩ := mem_ready.1 hi
  intro j o hj hl e he hb
  by_cases hij : i = j
  · subst hij
    have : o = oi := Option.some.inj (hj.symm.trans hoi)
    subst this
    exact getD_set_true (hall e he hb)
  · rw [getD_set_ne false hij] at hl
    exact getD_set_true (hc j o hj hl e he hb)
def wpN (P : Program) (md : Region.Mode) (ops : Array Oper) (Q : Exit → Act → World → Prop) (S : World → Prop) (es : List Nat) : Nat → Array Bool → Act → World → Prop
  | 0, L, a, w => Region.ready md ops L = [] ∧ Q .normal a w
  | f + 1, L, a, w => (Region.ready md ops L = [] → Q .normal a w) ∧
    ∀ i ∈ Region.ready md ops L, wpOp P ops Q i (fun a' w' => (es.contains i = false → S w → S w') ∧ wpN P md ops Q S es f (L.setIfInBounds i true) a' w') a w
theorem wpN_any : ∀ (f : Nat) (L : Array Bool) (a : Act) (w : World), wpN P md ops Q S es f L a w → wpAny P md ops Q f L a w
  | 0, _, _, _, h => h
  | f + 1, _, _, _, h => ⟨h.1, fun i hi => wpOp_mono (fun a' w' h' => wpN_any f _ a' w' h'.2) (h.2 i hi)⟩
theorem wpN_first {i : Nat} {oi : Oper} {v : Value} (hi : ops[i]? = some oi) (hsel : ∀ (j : Nat) (o : Oper) cs b, ops[j]? = some o → o.op ≠ .select cs b)
    (hQ : ∀ c a d v w, Q (.panic c) (Act.put a d v) w → Q (.panic c) a w) :
    ∀ (f : Nat) (L : Array Bool) (a : Act) (w : World), closed md ops L →
      (∀ j oj, ops[j]? = some oj → j ≠ i → L.getD j true = false → (∀ e ∈ oj.after, Region.binds md e = true → e.on ≠ i) → oi.apart ops oj = true) →
      (∀ j, L.getD j true = false → j ≠ i → wt md ops ops.size j i = false → ∀ w w', (es.contains j = false → S w → S w') → R w → R w') →
      i ∈ Region.ready md ops L → YieldsIf P ops R oi v a → R w →
      wpN P md ops Q S es f (L.setIfInBounds i true) (a.put oi.dst v) w → wpN P md ops Q S es (f + 1) L a w := by
  intro f
  induction f with
  | zero =>
    intro L a w _ _ _ hr hy hR H
    refine ⟨fun h => (by rw [h] at hr; cases hr), fun j hj => ?_⟩
    by_cases hji : j = i
    · subst hji; exact hy.wpOp hi hR ⟨fun _ h => h, H⟩
    · have := ready_mono hj hji
      rw [H.1] at this
      cases this
  | succ f ih =>
    intro L a w hc hfree hst hr hy hR H
    refine ⟨fun h => (by rw [h] at hr; cases hr), fun j hj => ?_⟩
    by_cases hji : j = i
    · subst hji; exact hy.wpOp hi hR ⟨fun _ h => h, H⟩
    · have h1 := H.2 j (ready_mono hj hji)
      obtain ⟨hjun, oj, hoj, hall⟩ := mem_ready.1 hj
      have hiun := getD_both (mem_ready.1 hr).1
      have hnot : ∀ e ∈ oj.after, Region.binds md e = true → e.on ≠ i := fun e he hb heq => by
        have h1 := hall e he hb
        rw [heq, hiun] at h1
        cases h1
      have hnw : wt md ops ops.size j i = false := by
        cases hw : wt md ops ops.size j i with
        | false => rfl
        | true =>
          have := wt_listed hc _ j i (fun o ho => by rw [show o = oj from Option.some.inj (ho.symm.trans hoj)]; exact hall) hw
          rw [hiun] at this
          cases this
      have h2 := wpOp_putIf hoj (hfree j oj hoj hji hjun hnot) (fun cs b => hsel i oi cs b hi) (fun cs b => hsel j oj cs b hoj) (fun c a w => hQ c a _ _ w) hy h1
      have hsub : ∀ k, k ≠ j → (L.setIfInBounds j true).getD k true = false → L.getD k true = false := fun k hk h => by rwa [getD_set_ne true (Ne.symm hk)] at h
      have hun : ∀ k, (L.setIfInBounds j true).getD k true = false → L.getD k true = false := fun k h => by
        by_cases hk : k = j
        · subst hk; exact hjun
        · exact hsub k hk h
      refine wpOp_mono (fun a' w' h3 => ⟨h3.2.1, ih (L.setIfInBounds j true) a' w' (closed_set hc hj) (fun k ok hk hki h hno => hfree k ok hk hki (hun k h) hno)
        (fun k h hki hw => hst k (hun k h) hki hw) (ready_mono hr (Ne.symm hji)) h3.1 (hst j hjun hji hnw w w' h3.2.1 hR) ?_⟩) h2
      rw [Array.setIfInBounds_comm _ _ hji]
      exact h3.2.2
def pl (P : Program) (ops : Array Oper) (Q : Exit → Act → World → Prop) (S : World → Prop) (E : Act → World → Prop) : List (PK × Oper) → Act → World → Prop
  | [], a, w => E a w
  | (.t, o) :: p, a, w => ∃ v, YieldsIf P ops (fun _ => True) o v a ∧ pl P ops Q S E p (a.put o.dst v) w
  | (.l, o) :: p, a, w => ∃ v, YieldsIf P ops S o v a ∧ S w ∧ pl P ops Q S E p (a.put o.dst v) w
  | (.k, o) :: p, a, w => ∀ K : Act → World → Prop, (∀ a w, S w → pl P ops Q S E p a w → K a w) → if Region.wanted o (yielded ops a.tmps) = true then Oper.wp P o a w K Q else K (a.put o.dst undef) w
  | (.e, o) :: p, a, w => ∀ K : Act → World → Prop, (∀ a w, pl P ops Q S E p a w → K a w) → if Region.wanted o (yielded ops a.tmps) = true then Oper.wp P o a w K Q else K (a.put o.dst undef) w
def stB (es : List Nat) : PK → Nat → Bool
  | .k, _ => true
  | .e, i => es.contains i
  | _, _ => false
def plB (md : Region.Mode) (ops : Array Oper) (es : List Nat) (fin : Array Bool → Bool) : List (PK × Nat) → Array Bool → Bool
  | [], L => fin L
  | (.t, i) :: p, L => decide (i < ops.size) && ((Region.ready md ops L).contains i && (Region.free md ops L i && plB md ops es fin p (L.setIfInBounds i true)))
  | (.l, i) :: p, L => decide (i < ops.size) && ((Region.ready md ops L).contains i && (Region.free md ops L i && ((es.all fun j => j == i || L.getD j true || wt md ops ops.size j i) && plB md ops es fin p (L.setIfInBounds i true))))
  | (c, i) :: p, L => decide (i < ops.size) && (decide (Region.ready md ops L = [i]) && (stB es c i && plB md ops es fin p (L.setIfInBounds i true)))
def done (md : Region.Mode) (ops : Array Oper) (L : Array Bool) : Bool := (Region.ready md ops L).isEmpty
end
def ends : List (PK × Nat) → List Nat
  | [] => []
  | (.e, i) :: p => i :: ends p
  | _ :: p => ends p
def planB (md : Region.Mode) (ops : Array Oper) (p : List (PK × Nat)) : Bool := Region.noSelect ops && (decide (p.length = ops.size) && plB md ops (ends p) (done md ops) p (Array.replicate ops.size false))
def plan (l : List Oper) : List (PK × Nat) → List (PK × Oper)
  | [] => []
  | (c, i) :: p => (c, pick l i) :: plan l p
theorem pick_get : ∀ (l : List Oper) (i : Nat), i < l.length → l[i]? = some (pick l i)
  | [], _, h => by simp at h
  | o :: _, 0, _ => rfl
  | _ :: r, n + 1, h => by simpa [pick] using pick_get r n (by simpa using h)
section
variable {P : Program} {l : List Oper} {Q : Exit → Act → World → Prop} {md : Region.Mode} {S : World → Prop} {es : List Nat}
theorem pick_at {i : Nat} (h : i < l.toArray.size) : l.toArray[i]? = some (pick l i) := by simpa using pick_get l i (by simpa using h)
theorem step_of {E : Act → World → Prop} {c : PK} {i f : Nat} {p : List (PK × Oper)} {L : Array Bool} {a : Act} {w : World} (hc : stB es c i = true) (hi : i < l.toArray.size)
    (IH : ∀ a w, pl P l.toArray Q S E p a w → wpN P md l.toArray Q S es f (L.setIfInBounds i true) a w) (h : pl P l.toArray Q S E ((c, pick l i) :: p) a w) :
    wpOp P l.toArray Q i (fun a' w' => (es.contains i = false → S w → S w') ∧ wpN P md l.toArray Q S es f (L.setIfInBounds i true) a' w') a w := by
  cases c with
  | t => cases hc
  | l => cases hc
  | k => exact wpOp_step (pick_at hi) (fun K hK => h K (fun a w hS hp => hK a w ⟨fun _ _ => hS, IH a w hp⟩))
  | e =>
    have hc : es.contains i = true := hc
    exact wpOp_step (pick_at hi) (fun K hK => h K (fun a w hp => hK a w ⟨fun hn => (by rw [hc] at hn; cases hn), IH a w hp⟩))
theorem wpN_of_pl {E : Act → World → Prop} {fin : Array Bool → Bool} {f : Nat} (hs : Region.noSelect l.toArray = true) (hQ : ∀ c a d v w, Q (.panic c) (Act.put a d v) w → Q (.panic c) a w)
    (hE : ∀ L a w, closed md l.toArray L → fin L = true → E a w → wpN P md l.toArray Q S es f L a w) :
    ∀ (p : List (PK × Nat)) (L : Array Bool) (a : Act) (w : World), closed md l.toArray L → plB md l.toArray es fin p L = true → pl P l.toArray Q S E (plan l p) a w → wpN P md l.toArray Q S es (f + p.length) L a w
  | [], L, a, w, hc, hB, h => hE L a w hc hB h
  | (.t, i) :: p, L, a, w, hc, hB, h => by
    simp only [plB, Bool.and_eq_true, decide_eq_true_eq] at hB
    obtain ⟨v, hy, h⟩ := h
    have hr : i ∈ Region.ready md l.toArray L := by simpa using hB.2.1
    exact wpN_first (R := fun _ => True) (pick_at hB.1) (Region.noSelect_spec hs) hQ (f + p.length) L a w hc (Region.free_spec (pick_at hB.1) hB.2.2.1) (fun _ _ _ _ _ _ _ h => h) hr hy trivial (wpN_of_pl hs hQ hE p _ _ w (closed_set hc hr) hB.2.2.2 h)
  | (.l, i) :: p, L, a, w, hc, hB, h => by
    simp only [plB, Bool.and_eq_true, decide_eq_true_eq] at hB
    obtain ⟨v, hy, hS, h⟩ := h
    have hr : i ∈ Region.ready md l.toArray L := by simpa using hB.2.1
    refine wpN_first (R := S) (pick_at hB.1) (Region.noSelect_spec hs) hQ (f + p.length) L a w hc (Region.free_spec (pick_at hB.1) hB.2.2.1) (fun j hj hji hw w w' h hS => h ?_ hS) hr hy hS (wpN_of_pl hs hQ hE p _ _ w (closed_set hc hr) hB.2.2.2.2 h)
    cases he : es.contains j with
    | false => rfl
    | true =>
      have h1 := List.all_eq_true.1 hB.2.2.2.1 j (by simpa using he)
      simp only [Bool.or_eq_true, beq_iff_eq] at h1
      rcases h1 with (h1 | h1) | h1
      · exact absurd h1 hji
      · rw [hj] at h1; cases h1
      · rw [hw] at h1; cases h1
  | (.k, i) :: p, L, a, w, hc, hB, h => by
    simp only [plB, Bool.and_eq_true, decide_eq_true_eq] at hB
    have hr : i ∈ Region.ready md l.toArray L := by rw [hB.2.1]; simp
    refine ⟨fun h0 => (by rw [h0] at hr; cases hr), fun j hj => ?_⟩
    rw [hB.2.1, List.mem_singleton] at hj
    subst hj
    exact step_of hB.2.2.1 hB.1 (fun a w hp => wpN_of_pl hs hQ hE p _ a w (closed_set hc hr) hB.2.2.2 hp) h
  | (.e, i) :: p, L, a, w, hc, hB, h => by
    simp only [plB, Bool.and_eq_true, decide_eq_true_eq] at hB
    have hr : i ∈ Region.ready md l.toArray L := by rw [hB.2.1]; simp
    refine ⟨fun h0 => (by rw [h0] at hr; cases hr), fun j hj => ?_⟩
    rw [hB.2.1, List.mem_singleton] at hj
    subst hj
    exact step_of hB.2.2.1 hB.1 (fun a w hp => wpN_of_pl hs hQ hE p _ a w (closed_set hc hr) hB.2.2.2 hp) h
theorem wpN_done (L : Array Bool) (a : Act) (w : World) (_ : closed md l.toArray L) (h : done md l.toArray L = true) (hQ : Q .normal a w) : wpN P md l.toArray Q S es 0 L a w := ⟨by simpa [done] using h, hQ⟩
theorem wp_plan {id : Nat} {a : Act} {w : World} (S : World → Prop) (p : List (PK × Nat)) (hm : P.follows .mixedOrders = true) (hB : planB .any l.toArray p = true)
    (hQ : ∀ c a d v w, Q (.panic c) (Act.put a d v) w → Q (.panic c) a w) (h : pl P l.toArray Q S (Q .normal) (plan l p) a w.drew) : (Code.region id l.toArray true).wp P Q a w := by
  simp only [planB, Bool.and_eq_true, decide_eq_true_eq] at hB
  refine wp_region_any hm (wpN_any (S := S) (es := ends p) _ _ _ _ ?_)
  have := wpN_of_pl hB.1 hQ wpN_done p _ a _ (fun j o hj hl => by rw [getD_replicate_false] at hl; cases hl) hB.2.2 h
  rwa [Nat.zero_add, hB.2.1] at this
end
section
variable {P : Program} {ops : Array Oper} {Q : Exit → Act → World → Prop} {S : World → Prop} {E : Act → World → Prop} {o : Oper} {p : List (PK × Oper)} {a : Act} {w : World}
theorem pl_t {v : Value} (h0 : Region.wanted o (yielded ops a.tmps) = true) (h1 : ∀ w, (execOp a.eval o).run P w = .ok (.value v) w) (h : pl P ops Q S E p (a.put o.dst v) w) : pl P ops Q S E ((.t, o) :: p) a w := ⟨v, .inl ⟨h0, fun w _ => h1 w⟩, h⟩
theorem pl_s (h0 : Region.wanted o (yielded ops a.tmps) = false) (h : pl P ops Q S E p (a.put o.dst undef) w) : pl P ops Q S E ((.t, o) :: p) a w := ⟨undef, .inr ⟨h0, rfl⟩, h⟩
theorem pl_ls (h0 : Region.wanted o (yielded ops a.tmps) = false) (hS : S w) (h : pl P ops Q S E p (a.put o.dst undef) w) : pl P ops Q S E ((.l, o) :: p) a w := ⟨undef, .inr ⟨h0, rfl⟩, hS, h⟩
theorem pl_l {v : Value} (h0 : Region.wanted o (yielded ops a.tmps) = true) (hS : S w) (h1 : ∀ w, S w → (execOp a.eval o).run P w = .ok (.value v) w) (h : pl P ops Q S E p (a.put o.dst v) w) : pl P ops Q S E ((.l, o) :: p) a w := ⟨v, .inl ⟨h0, h1⟩, hS, h⟩
theorem pl_k (h : ∀ K : Act → World → Prop, Shut (∀ a w, S w → pl P ops Q S E p a w → K a w) → if Region.wanted o (yielded ops a.tmps) = true then Oper.wp P o a w K Q else K (a.put o.dst undef) w) : pl P ops Q S E ((.k, o) :: p) a w := fun K hK => h K hK
theorem pl_e (h : ∀ K : Act → World → Prop, Shut (∀ a w, pl P ops Q S E p a w → K a w) → if Region.wanted o (yielded ops a.tmps) = true then Oper.wp P o a w K Q else K (a.put o.dst undef) w) : pl P ops Q S E ((.e, o) :: p) a w := fun K hK => h K hK
theorem pl_n (h : E a w) : pl P ops Q S E [] a w := h
end
end Go.Proofs.Ytklmligfljakfaa.Plan
