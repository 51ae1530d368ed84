/-
  The reference's Least, walked, at lists of any length. Condition: the lower ends are ints.
-/
import Derived.Test.YtiaelaepfhiabaaDoorRsMem
import Derived.IntWalk
import Derived.Lib.Walk
import Derived.RegionTactic
import Derived.Deep.QuietTactic
import Derived.BigQuiet
set_option linter.unusedVariables false
set_option linter.unusedSimpArgs false
namespace Go.Proofs.YtiaelaepfhiabaaDoor.Rs
open Go.RowKit Go.Proofs.YtiaelaepfhiabaaDoor.Mem

/- the least list, place by place -/
def okAt (l : List R) (k : Nat) : Prop := ∀ r, l[k]? = some r → 0 ≤ r.1 ∧ r.2 ≤ 1114367 ∧ r.1 ≤ r.2 ∧ (∀ j q, k = j + 1 → l[j]? = some q → q.2 < r.1 - 1)
theorem leastF_iff : ∀ (l : List R) (p : Int), -2 ≤ p → (LeastF p l ↔ ((∀ r, l[0]? = some r → p < r.1 - 1) ∧ ∀ k, okAt l k))
  | [], p, hp => ⟨fun _ => ⟨fun r h => by simp at h, fun k r h => by simp at h⟩, fun _ => trivial⟩
  | a :: t, p, hp => by
    constructor
    · rintro ⟨h1, h2, h3, h4⟩
      have ih := (leastF_iff t a.2 (by omega)).1 h4
      refine ⟨fun r h => by simp at h; subst h; exact h1, fun k r h => ?_⟩
      cases k with
      | zero =>
        simp at h; subst h
        exact ⟨by omega, h3, h2, fun j q hj => by omega⟩
      | succ k =>
        have h' : t[k]? = some r := by simpa using h
        obtain ⟨e1, e2, e3, e4⟩ := ih.2 k r h'
        refine ⟨e1, e2, e3, fun j q hj hq => ?_⟩
        obtain rfl : k = j := by omega
        cases k with
        | zero =>
          simp at hq; subst hq
          exact ih.1 r h'
        | succ k => exact e4 k q rfl (by simpa using hq)
    · rintro ⟨h1, h2⟩
      have ha := h2 0 a (by simp)
      refine ⟨h1 a (by simp), ha.2.2.1, ha.2.1, (leastF_iff t a.2 (by omega)).2 ⟨fun r hr => ?_, fun k r hr => ?_⟩⟩
      · exact (h2 1 r (by simpa using hr)).2.2.2 0 a rfl (by simp)
      · obtain ⟨e1, e2, e3, e4⟩ := h2 (k + 1) r (by simpa using hr)
        refine ⟨e1, e2, e3, fun j q hj hq => ?_⟩
        exact e4 (j + 1) q (by omega) (by simpa using hq)
theorem least_iff (l : List R) : Least l ↔ ∀ k, okAt l k := by
  rw [Least, leastF_iff l (-2) (by omega)]
  refine ⟨fun h => h.2, fun h => ⟨fun r hr => ?_, h⟩⟩
  have := (h 0 r hr).1
  omega
def LRel (l : List R) (w : World) (i : Value) (wr : World) : Prop := ∃ k n : Nat, i = .int .i64 k ∧ k ≤ l.length ∧ (∀ j, j < k → okAt l j) ∧ wr = w.drewN n

set_option maxHeartbeats 4000000 in
theorem refLeast_any (l : List R) (A : Option Addr) (cap : Nat) (w : World) (hlen : l.length ≤ 8796093021952) (hint : ∀ r ∈ l, -9223372036854775808 ≤ r.1 ∧ r.1 ≤ 9223372036854775807) (h : Lst w w.heap.size A l) :
    Calls Tryd.prog 18 #[.slice A l.length cap] w fun e w' => e = .returned (.bool (decide (Least l))) ∧ Below w.heap.size w w' := by
  have H := hide h
  have HI := hide hint
  clear h hint
  have hfin : ∀ k, ¬ okAt l k → decide (Least l) = false := fun k hk => by
    rw [decide_eq_false_iff_not, least_iff]; exact fun h => hk (h k)
  have HF := hide hfin
  clear hfin
  go_enter Tryd.func18, Tryd.ntmps18
  go_wp2
  go_loopw [3] (fun i wr => LRel l w i wr) (fun i _ => l.length - (intOf i).toNat)
  case atStart => exact ⟨0, 0, rfl, Nat.zero_le _, (fun j hj => by omega), rfl⟩
  case round =>
    obtain ⟨k, n, rfl, hk, hok, rfl⟩ := hrel
    by_cases hlt : k < l.length
    · obtain ⟨b, off, rfl, hb, hc⟩ := (unhide H) (by omega)
      obtain ⟨r, hr⟩ : ∃ r, l[k]? = some r := ⟨_, List.getElem?_eq_getElem hlt⟩
      obtain ⟨c1, c2⟩ := hc k r hr
      have hri := (unhide HI) r (List.mem_of_getElem? hr)
      have hlt' : (k : Int) < (l.length : Int) := by omega
      have hk0 : (0 : Int) ≤ (k : Int) := by omega
      have HOK := hide hok
      have HR := hide hr
      have HC := hide hc
      clear hok hr hc
      by_cases h0 : r.1 < 0
      · have hbad := hide ((unhide HF) k fun hk' => by have := ((hk' r (unhide HR)).1); omega)
        go_wp2_with fail
        go_quiet (fail)
        go_wp2
        go_ret
        exact ⟨by rw [unhide hbad]; rfl, below_drewN (below_drewN (Below.refl _ _) _) _⟩
      · have d0 : decide (r.1 < 0) = false := by simp; omega
        by_cases h1 : 1114367 < r.2
        · have hbad := hide ((unhide HF) k fun hk' => by have := ((hk' r (unhide HR)).2.1); omega)
          go_wp2_with fail
          go_quiet (fail)
          go_wp2
          go_ret
          exact ⟨by rw [unhide hbad]; rfl, below_drewN (below_drewN (Below.refl _ _) _) _⟩
        · have d1 : decide (1114367 < r.2) = false := by simp; omega
          by_cases h2 : r.2 < r.1
          · have hbad := hide ((unhide HF) k fun hk' => by have := ((hk' r (unhide HR)).2.2.1); omega)
            go_wp2_with fail
            go_quiet (fail)
            go_wp2
            go_ret
            exact ⟨by rw [unhide hbad]; rfl, below_drewN (below_drewN (Below.refl _ _) _) _⟩
          · have d2 : decide (r.2 < r.1) = false := by simp; omega
            by_cases hk1 : k = 0
            · have HOK1 := hide (show okAt l k from fun r' hr' => by
                rw [unhide HR] at hr'; obtain rfl := Option.some.inj hr'
                exact ⟨by omega, by omega, by omega, fun j q hj => by omega⟩)
              have HK1 := hide hk1
              have d3 : decide (0 < k) = false := by simp; omega
              clear hk1
              go_wp2_with fail
              go_quiet (fail)
              go_wp2
              go_roundw
              case rel => exact ⟨k + 1, _, by go_num, by omega, (fun j hj => by
                rcases Nat.lt_succ_iff_lt_or_eq.1 hj with h | rfl
                · exact (unhide HOK) j h
                · exact unhide HOK1), rfl⟩
              case measure => simp [intOf]; omega
            · obtain ⟨j, rfl⟩ : ∃ j, k = j + 1 := ⟨k - 1, by omega⟩
              obtain ⟨q, hq⟩ : ∃ q, l[j]? = some q := ⟨_, List.getElem?_eq_getElem (by omega)⟩
              have e2 := ((unhide HC) j q hq).2
              have hw1 : IntKind.i64.wrap (j : Int) = j := wrap_id _ (by omega) (by omega)
              have hw2 : IntKind.i64.wrap (r.1 - 1) = r.1 - 1 := wrap_id _ (by omega) (by omega)
              have hjl : (j : Int) < (l.length : Int) := by omega
              have hj0 : (0 : Int) ≤ (j : Int) := by omega
              have HQ := hide hq
              clear hq hk1
              by_cases h3 : r.1 - 1 ≤ q.2
              · have hbad := hide ((unhide HF) (j + 1) fun hk' => by have := ((hk' r (unhide HR)).2.2.2 j q rfl (unhide HQ)); omega)
                go_wp2_with fail
                go_quiet (fail)
                go_wp2
                go_ret
                exact ⟨by rw [unhide hbad]; rfl, below_drewN (below_drewN (Below.refl _ _) _) _⟩
              · have d4 : decide (r.1 - 1 ≤ q.2) = false := by simp; omega
                have HOK1 := hide (show okAt l (j + 1) from fun r' hr' => by
                  rw [unhide HR] at hr'; obtain rfl := Option.some.inj hr'
                  refine ⟨by omega, by omega, by omega, fun j' q' hj hq' => ?_⟩
                  obtain rfl : j = j' := by omega
                  rw [unhide HQ] at hq'; obtain rfl := Option.some.inj hq'
                  omega)
                go_wp2_with fail
                go_quiet (fail)
                go_wp2
                go_roundw
                case rel => exact ⟨j + 1 + 1, _, by go_num, by omega, (fun i hj => by
                  rcases Nat.lt_succ_iff_lt_or_eq.1 hj with h | rfl
                  · exact (unhide HOK) i h
                  · exact unhide HOK1), rfl⟩
                case measure => simp [intOf]; omega
    · obtain rfl : k = l.length := by omega
      have ht : decide (Least l) = true := by
        rw [decide_eq_true_iff, least_iff]
        intro k r hr
        exact hok k (List.getElem?_eq_some_iff.1 hr).1 r hr
      have HT := hide ht
      clear ht hok
      go_wp2
      go_ret
      exact ⟨by rw [unhide HT]; rfl, below_drewN (Below.refl _ _) _⟩
end Go.Proofs.YtiaelaepfhiabaaDoor.Rs
