/-
  clewref11's barred: what holds while it looks (pure), and its two rows in memory. No conditions.
-/
import Derived.Test.YtiaelaepfhiabaaDoorCoBal
import Derived.Test.YtiaelaepfhiabaaDoorCoRight
import Derived.Test.YtiaelaepfhiabaaDoorCoREdges
set_option linter.unusedVariables false
set_option linter.unusedSimpArgs false
namespace Go.Proofs.YtiaelaepfhiabaaDoor.Co
open Go.RowKit Go.Proofs.YtiaelaepfhiabaaDoor.Mem Go.Proofs.YtiaelaepfhiabaaDoor.Rs

/-- a way that isn't there is -1 -/
def okX (i : In) : Prop := (i.op = 4 → 0 ≤ i.x) ∧ (i.op = 5 ∨ i.op = 13 → i.x = -1 ∨ 0 ≤ i.x)
theorem okX_of {l : List In} {ns nk : Nat} {g : Int} (hf : formedB l ns nk g = true) {a : Nat} {i : In} (hi : l[a]? = some i) : okX i := by
  unfold formedB at hf
  rw [List.all_eq_true] at hf
  have hF := hf a (List.mem_range.2 (List.getElem?_eq_some_iff.1 hi).1)
  rw [getD_at hi] at hF
  simp only [formB, Bool.and_eq_true] at hF
  have hfit := hF.2
  unfold fitsB at hfit
  refine ⟨fun h => ?_, fun h => ?_⟩
  · simp [h, wayB, aheadB] at hfit; omega
  · rcases h with h | h <;> simp [h, wayB, aheadB] at hfit <;> omega
theorem steps_edges {i : In} {a : Nat} {m : Int} (h : okX i) : stepsP i a m = (edgesP i a).map fun s => (s.1, m + s.2) := by
  obtain ⟨h4, h5⟩ := h
  unfold stepsP edgesP
  by_cases e18 : i.op = 18 ∨ i.op = 19
  · rcases e18 with e | e <;> simp [e]
  by_cases e6 : i.op = 6
  · simp [e6]
  by_cases e10 : i.op = 10
  · simp [e10]
  by_cases e8 : i.op = 8
  · simp [e8]
  by_cases e16 : i.op = 16 ∨ i.op = 17
  · rcases e16 with e | e <;> simp [e] <;> omega
  by_cases e13 : i.op = 13
  · rcases h5 (.inr e13) with hx | hx
    · simp [e13, hx]
    · have : ¬ i.x = -1 := by omega
      simp [e13, hx, this]
  by_cases e4 : i.op = 4
  · simp [e4, h4 e4]
  by_cases e5 : i.op = 5
  · rcases h5 (.inl e5) with hx | hx
    · simp [e5, hx]
    · have : ¬ i.x = -1 := by omega
      simp [e5, hx, this]
  · simp [e18, e6, e10, e8, e16, e13, e4, e5]
/-- what is counted so far; each place that is, may yet be looked at -/
def InvA (l : List In) (L : List (Int × Int)) : Prop := ∃ st, (∀ k m, look L k = some m → k ∈ st) ∧ Inv l L st none
theorem invA_start {l : List In} (h : 0 < l.length) : InvA l [(0, 0)] := ⟨[0], fun k m hk => by
  rw [look_cons] at hk
  split at hk
  · rename_i e; simp [e]
  · simp [look] at hk, inv_start h⟩
theorem invA_new {l : List In} {L : List (Int × Int)} {a : Nat} {m : Int} {i : In} (hwf : Wf l) (h : InvA l L) (ha : look L (a : Int) = some m) (hi : l[a]? = some i) (hb : bearsB i.op m = true) {s : Int × Int} (hs : s ∈ stepsP i a m) (hn : look L s.1 = none) :
    InvA l (s :: L) ∧ U l.length (s :: L) + 1 = U l.length L := by
  obtain ⟨st, hst, hinv⟩ := h
  have h1 : Inv l L st (some (a : Int)) := ⟨hinv.zero, hinv.ok, hinv.inn, hinv.cnt, fun k m hk => .inl (hst k m hk)⟩
  obtain ⟨h2, hU⟩ := inv_new hwf h1 ha hi hb hs hn
  have hst2 : ∀ k m, look (s :: L) k = some m → k ∈ st ++ [s.1] := fun k m hk => by
    obtain ⟨s1, s2⟩ := s
    rw [look_cons] at hk
    split at hk
    · rename_i e; simp [e]
    · simp [hst k m hk]
  exact ⟨⟨_, hst2, h2.zero, h2.ok, h2.inn, h2.cnt, fun k m hk => .inl (hst2 k m hk)⟩, hU⟩
theorem invA_end {l : List In} {L : List (Int × Int)} (h : InvA l L) (hc : ∀ a : Nat, ∀ m, a < l.length → look L (a : Int) = some m → Closed l L a m) : Good l := by
  obtain ⟨st, hst, hinv⟩ := h
  refine inv_end (L := L) ⟨hinv.zero, hinv.ok, by simp, hinv.cnt, fun k m hk => .inr (.inr ?_)⟩
  obtain ⟨a, rfl, ha, -⟩ := hinv.ok k m hk
  exact hc a m ha hk

/-- the two rows read as the list -/
structure AR (n : Nat) (L : List (Int × Int)) (B S : Array Value) : Prop where
  bs : B.size = n
  ss : S.size = n
  b : ∀ k, k < n → B[k]? = some (.int .i64 ((look L (k : Int)).getD 0))
  s : ∀ k, k < n → S[k]? = some (.bool (look L (k : Int)).isSome)
theorem ar_set {n : Nat} {L : List (Int × Int)} {B S : Array Value} (h : AR n L B S) {t : Nat} (ht : t < n) (v : Int) : AR n (((t : Int), v) :: L) (B.setIfInBounds t (.int .i64 v)) (S.setIfInBounds t (.bool true)) := by
  refine ⟨by simp [h.bs], by simp [h.ss], fun k hk => ?_, fun k hk => ?_⟩
  · rw [look_cons, Array.getElem?_setIfInBounds]
    by_cases e : t = k
    · subst e; simp [h.bs, hk]
    · have e2 : ¬ (t : Int) = (k : Int) := by omega
      rw [if_neg e, if_neg e2]; exact h.b k hk
  · rw [look_cons, Array.getElem?_setIfInBounds]
    by_cases e : t = k
    · subst e; simp [h.ss, hk]
    · have e2 : ¬ (t : Int) = (k : Int) := by omega
      rw [if_neg e, if_neg e2]; exact h.s k hk
theorem ar_start {n : Nat} (h : 0 < n) : AR n [(0, 0)] (Array.replicate n (.int .i64 0)) ((Array.replicate n (.bool false)).setIfInBounds 0 (.bool true)) := by
  refine ⟨by simp, by simp, fun k hk => ?_, fun k hk => ?_⟩
  · rw [look_cons]
    by_cases e : (0 : Int) = (k : Int)
    · rw [if_pos e]; simp [hk]
    · rw [if_neg e]; simp [hk, look]
  · rw [look_cons, Array.getElem?_setIfInBounds]
    by_cases e : 0 = k
    · subst e; simp [h]
    · have e2 : ¬ (0 : Int) = (k : Int) := by omega
      rw [if_neg e, if_neg e2]; simp [hk, look]
/-- how many places are not seen -/
def falses (wr : World) (g n : Nat) : Nat := (List.range n).countP fun k => match wr.cell? ⟨g, k, none⟩ with | some (.bool false) => true | _ => false
theorem falses_U {wr : World} {g n : Nat} {T : TypeId} {L : List (Int × Int)} {B S : Array Value} (h : AR n L B S) (hb : Blk wr g T S) : falses wr g n = U n L := by
  unfold falses U
  refine List.countP_congr fun k hk => ?_
  rw [hb.cell k, h.s k (List.mem_range.1 hk)]
  cases look L (k : Int) <;> simp
def boolN : Value → Nat | .bool true => 1 | _ => 0
theorem blk_made {W : World} {base e g n : Nat} {xs : List Value} (h : W.ownsRow base e 1 (.slice (some ⟨g, 0, none⟩) n n) n xs) : Blk W g e xs.toArray := by
  rcases h.2 with ⟨h, _⟩ | ⟨g', cap, cur, e1, _, hh, _, _, hs, ht⟩
  · cases h
  · injection e1 with e2 e3 e4
    injection e2 with e5
    injection e5 with e6
    subst e6 e4
    unfold Blk
    rw [hh]
    have : cur.toList = xs := by
      rw [← ht, List.take_of_length_le (by simp; omega)]
    rw [← this]
end Go.Proofs.YtiaelaepfhiabaaDoor.Co
