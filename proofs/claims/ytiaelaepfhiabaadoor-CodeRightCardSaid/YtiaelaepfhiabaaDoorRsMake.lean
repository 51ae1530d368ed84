/-
  rset.Make, walked.
-/
import Derived.Test.YtiaelaepfhiabaaDoorRsCut
import Derived.Test.YtiaelaepfhiabaaDoorRsSort
import Derived.Test.YtiaelaepfhiabaaDoorRsJoin
set_option linter.unusedVariables false
set_option linter.unusedSimpArgs false
namespace Go.Proofs.YtiaelaepfhiabaaDoor.Rs
open Go.RowKit Go.Proofs.YtiaelaepfhiabaaDoor.Mem

theorem made_sort {l s : List R} (hp : s.Perm (withinL l)) : ∀ r ∈ s, okR r := fun r hr => ok_withinL l r (hp.mem_iff.1 hr)

set_option maxHeartbeats 1000000 in
/-- **Make**: a new row with the least list. -/
theorem make_any (l : List R) (A : Option Addr) (cap : Nat) (w : World) (hlen : l.length ≤ 8796093021952) (hcap : l.length ≤ cap) (h : Lst w w.heap.size A l) :
    Calls Tryd.prog 39 #[.slice A l.length cap] w fun e w' => ∃ v, e = .returned v ∧ Cut w (mk l) v w' := by
  have H := hide h
  clear h
  go_enter Tryd.func39, Tryd.ntmps39
  go_wp2_with fail
  refine (within_any l A cap w hlen hcap (unhide H)).mono ?_
  rintro e w1 ⟨v1, rfl, hcut⟩
  have hl1 := within_len l
  have HC := hide hcut
  clear hcut
  go_wp2_with fail
  refine (sort_own (withinL l) w.heap.size v1 w1 (by omega) (unhide HC).1).mono ?_
  rintro e w2 ⟨rfl, s, hp, hs, hsl, ho, hg⟩
  have HP := hide hp
  have HS := hide hs
  have HO := hide ho
  have HG := hide hg
  clear hp hs ho hg
  go_wp2_with fail
  refine (join_any s w.heap.size v1 w2 (by omega) (made_sort (unhide HP)) (by rw [hsl]; exact unhide HO)).mono ?_
  rintro e w3 ⟨v3, rfl, ho3, hg3⟩
  have HO3 := hide ho3
  have HG3 := hide hg3
  clear ho3 hg3
  go_wp2
  go_ret
  refine ⟨_, rfl, by rw [← join_mk (unhide HP) (unhide HS)]; exact unhide HO3, ?_⟩
  have hb := own_base (unhide HC).1
  have h2 := (unhide HC).2.grown (unhide HG) (unhide HC).2.size hb
  exact h2.grown (unhide HG3) h2.size hb

/-- a row of the call's own lies as a list -/
theorem own_lst {W : World} {base e : Nat} {v : Value} {l : List R} (h : W.ownsRow base e 2 v l.length (flat l)) : ∃ A cap, v = .slice A l.length cap ∧ Lst W W.heap.size A l ∧ l.length ≤ cap ∧ cap ≤ maxLen := by
  rcases h.2 with ⟨rfl, hn⟩ | ⟨g, cap, cur, rfl, hb, hh, hnc, hcm, hcs, ht⟩
  · refine ⟨none, 0, by rw [hn], fun hl => by omega, by omega, by unfold maxLen; omega⟩
  · exact ⟨_, cap, rfl, Lst.of_reads (Reads.of_own h), hnc, hcm⟩

theorem mk_len (l : List R) : (mk l).length ≤ l.length := by
  unfold mk
  refine Nat.le_trans (joinL_len _) ?_
  rw [List.length_mergeSort]
  exact within_len l
end Go.Proofs.YtiaelaepfhiabaaDoor.Rs
