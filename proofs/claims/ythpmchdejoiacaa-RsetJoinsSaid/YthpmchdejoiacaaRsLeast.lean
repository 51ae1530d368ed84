/-
  The reference's Least, walked.
-/
import Derived.Test.YthpmchdejoiacaaRsRef
set_option linter.unusedVariables false
set_option linter.unusedSimpArgs false
namespace Go.Proofs.Ythpmchdejoiacaa.Rs
open Go.RowKit Go.Proofs.Ythpmchdejoiacaa.Mem

def LRel (l : List R) (w : World) (i : Value) (wr : World) : Prop := ∃ k n : Nat, i = .int .i64 k ∧ k ≤ l.length ∧ (∀ j, j < k → okAt l j) ∧ wr = w.drewN n

set_option maxHeartbeats 4000000 in
theorem refLeast_any (l : List R) (A : Option Addr) (cap : Nat) (w : World) (hlen : l.length ≤ 1000000) (hint : ∀ r ∈ l, -9223372036854775808 ≤ r.1 ∧ r.1 ≤ 9223372036854775807) (h : Lst w w.heap.size A l) :
    Calls Try.prog 13 #[.slice A l.length cap] w fun e w' => e = .returned (.bool (decide (Least l))) ∧ Below w.heap.size w w' := by
  have H := hide h
  have HI := hide hint
  clear h hint
  have hfin : ∀ k, ¬ okAt l k → decide (Least l) = false := fun k hk => by
    rw [decide_eq_false_iff_not, least_iff]; exact fun h => hk (h k)
  have HF := hide hfin
  clear hfin
  go_enter Try.func13, Try.ntmps13
  go_wp2
  go_loopw [3] (fun i wr => LRel l w i wr) (fun i _ => l.length - (intOf i).toNat)
  case atStart => exact ⟨0, 0, rfl, Nat.zero_le _, (fun j hj => by omega), rfl⟩
  case round =>
    obtain ⟨k, n, rfl, hk, hok, rfl⟩ := hrel
    by_cases hlt : k < l.length
    · obtain ⟨b, off, rfl, hb, hc⟩ := (unhide H) (by omega)
      obtain ⟨r, hr⟩ : ∃ r, l[k]? = some r := ⟨_, List.getElem?_eq_getElem hlt⟩
      obtain ⟨c1, c2⟩ := hc k r hr
      have hri := (unhide HI) r (List.mem_of_getElem? hr)
      have hlt' : (k : Int) < (l.length : Int) := by omega
      have hk0 : (0 : Int) ≤ (k : Int) := by omega
      have HOK := hide hok
      have HR := hide hr
      have HC := hide hc
      clear hok hr hc
      by_cases h0 : r.1 < 0
      · have hbad := hide ((unhide HF) k fun hk' => by have := ((hk' r (unhide HR)).1); omega)
        go_wp2_with fail
        go_quiet (fail)
        go_wp2
        go_ret
        exact ⟨by rw [unhide hbad]; rfl, below_drewN (below_drewN (Below.refl _ _) _) _⟩
      · have d0 : decide (r.1 < 0) = false := by simp; omega
        by_cases h1 : 1114367 < r.2
        · have hbad := hide ((unhide HF) k fun hk' => by have := ((hk' r (unhide HR)).2.1); omega)
          go_wp2_with fail
          go_quiet (fail)
          go_wp2
          go_ret
          exact ⟨by rw [unhide hbad]; rfl, below_drewN (below_drewN (Below.refl _ _) _) _⟩
        · have d1 : decide (1114367 < r.2) = false := by simp; omega
          by_cases h2 : r.2 < r.1
          · have hbad := hide ((unhide HF) k fun hk' => by have := ((hk' r (unhide HR)).2.2.1); omega)
            go_wp2_with fail
            go_quiet (fail)
            go_wp2
            go_ret
            exact ⟨by rw [unhide hbad]; rfl, below_drewN (below_drewN (Below.refl _ _) _) _⟩
          · have d2 : decide (r.2 < r.1) = false := by simp; omega
            by_cases hk1 : k = 0
            · have HOK1 := hide (show okAt l k from fun r' hr' => by
                rw [unhide HR] at hr'; obtain rfl := Option.some.inj hr'
                exact ⟨by omega, by omega, by omega, fun j q hj => by omega⟩)
              have HK1 := hide hk1
              have d3 : decide (0 < k) = false := by simp; omega
              clear hk1
              go_wp2_with fail
              go_quiet (fail)
              go_wp2
              go_roundw
              case rel => exact ⟨k + 1, _, by go_num, by omega, (fun j hj => by
                rcases Nat.lt_succ_iff_lt_or_eq.1 hj with h | rfl
                · exact (unhide HOK) j h
                · exact unhide HOK1), rfl⟩
              case measure => simp [intOf]; omega
            · obtain ⟨j, rfl⟩ : ∃ j, k = j + 1 := ⟨k - 1, by omega⟩
              obtain ⟨q, hq⟩ : ∃ q, l[j]? = some q := ⟨_, List.getElem?_eq_getElem (by omega)⟩
              have e2 := ((unhide HC) j q hq).2
              have hw1 : IntKind.i64.wrap (j : Int) = j := wrap_id _ (by omega) (by omega)
              have hw2 : IntKind.i64.wrap (r.1 - 1) = r.1 - 1 := wrap_id _ (by omega) (by omega)
              have hjl : (j : Int) < (l.length : Int) := by omega
              have hj0 : (0 : Int) ≤ (j : Int) := by omega
              have HQ := hide hq
              clear hq hk1
              by_cases h3 : r.1 - 1 ≤ q.2
              · have hbad := hide ((unhide HF) (j + 1) fun hk' => by have := ((hk' r (unhide HR)).2.2.2 j q rfl (unhide HQ)); omega)
                go_wp2_with fail
                go_quiet (fail)
                go_wp2
                go_ret
                exact ⟨by rw [unhide hbad]; rfl, below_drewN (below_drewN (Below.refl _ _) _) _⟩
              · have d4 : decide (r.1 - 1 ≤ q.2) = false := by simp; omega
                have HOK1 := hide (show okAt l (j + 1) from fun r' hr' => by
                  rw [unhide HR] at hr'; obtain rfl := Option.some.inj hr'
                  refine ⟨by omega, by omega, by omega, fun j' q' hj hq' => ?_⟩
                  obtain rfl : j = j' := by omega
                  rw [unhide HQ] at hq'; obtain rfl := Option.some.inj hq'
                  omega)
                go_wp2_with fail
                go_quiet (fail)
                go_wp2
                go_roundw
                case rel => exact ⟨j + 1 + 1, _, by go_num, by omega, (fun i hj => by
                  rcases Nat.lt_succ_iff_lt_or_eq.1 hj with h | rfl
                  · exact (unhide HOK) i h
                  · exact unhide HOK1), rfl⟩
                case measure => simp [intOf]; omega
    · obtain rfl : k = l.length := by omega
      have ht : decide (Least l) = true := by
        rw [decide_eq_true_iff, least_iff]
        intro k r hr
        exact hok k (List.getElem?_eq_some_iff.1 hr).1 r hr
      have HT := hide ht
      clear ht hok
      go_wp2
      go_ret
      exact ⟨by rw [unhide HT]; rfl, below_drewN (Below.refl _ _) _⟩
end Go.Proofs.Ythpmchdejoiacaa.Rs
