/-
  rset.Make, Count, Of, walked.
-/
import Derived.Test.YthpmchdejoiacaaRsCut
import Derived.Test.YthpmchdejoiacaaRsSort
import Derived.Test.YthpmchdejoiacaaRsJoin
set_option linter.unusedVariables false
set_option linter.unusedSimpArgs false
namespace Go.Proofs.Ythpmchdejoiacaa.Rs
open Go.RowKit Go.Proofs.Ythpmchdejoiacaa.Mem

theorem made_sort {l s : List R} (hp : s.Perm (withinL l)) : ∀ r ∈ s, okR r := fun r hr => ok_withinL l r (hp.mem_iff.1 hr)

set_option maxHeartbeats 1000000 in
/-- **Make**: a new row with the least list. -/
theorem make_any (l : List R) (A : Option Addr) (cap : Nat) (w : World) (hlen : l.length ≤ 100000) (hcap : l.length ≤ cap) (h : Lst w w.heap.size A l) :
    Calls Try.prog 9 #[.slice A l.length cap] w fun e w' => ∃ v, e = .returned v ∧ Cut w (mk l) v w' := by
  have H := hide h
  clear h
  go_enter Try.func9, Try.ntmps9
  go_wp2_with fail
  refine (within_any l A cap w hlen hcap (unhide H)).mono ?_
  rintro e w1 ⟨v1, rfl, hcut⟩
  have hl1 := within_len l
  have HC := hide hcut
  clear hcut
  go_wp2_with fail
  refine (sort_own (withinL l) w.heap.size v1 w1 (by omega) (unhide HC).1).mono ?_
  rintro e w2 ⟨rfl, s, hp, hs, hsl, ho, hg⟩
  have HP := hide hp
  have HS := hide hs
  have HO := hide ho
  have HG := hide hg
  clear hp hs ho hg
  go_wp2_with fail
  refine (join_any s w.heap.size v1 w2 (by omega) (made_sort (unhide HP)) (by rw [hsl]; exact unhide HO)).mono ?_
  rintro e w3 ⟨v3, rfl, ho3, hg3⟩
  have HO3 := hide ho3
  have HG3 := hide hg3
  clear ho3 hg3
  go_wp2
  go_ret
  refine ⟨_, rfl, by rw [← join_mk (unhide HP) (unhide HS)]; exact unhide HO3, ?_⟩
  have hb := own_base (unhide HC).1
  have h2 := (unhide HC).2.grown (unhide HG) (unhide HC).2.size hb
  exact h2.grown (unhide HG3) h2.size hb

/-- a row of the call's own lies as a list -/
theorem own_lst {W : World} {base e : Nat} {v : Value} {l : List R} (h : W.ownsRow base e 2 v l.length (flat l)) : ∃ A cap, v = .slice A l.length cap ∧ Lst W W.heap.size A l ∧ l.length ≤ cap ∧ cap ≤ maxLen := by
  rcases h.2 with ⟨rfl, hn⟩ | ⟨g, cap, cur, rfl, hb, hh, hnc, hcm, hcs, ht⟩
  · refine ⟨none, 0, by rw [hn], fun hl => by omega, by omega, by unfold maxLen; omega⟩
  · exact ⟨_, cap, rfl, Lst.of_reads (Reads.of_own h), hnc, hcm⟩

theorem mk_len (l : List R) : (mk l).length ≤ l.length := by
  unfold mk
  refine Nat.le_trans (joinL_len _) ?_
  rw [List.length_mergeSort]
  exact within_len l

theorem sumL_take_bound {m : List R} (hok : ∀ r ∈ m, okR r) (k : Nat) (hk : k ≤ m.length) : 0 ≤ sumL (m.take k) ∧ sumL (m.take k) ≤ k * 1114368 := by
  induction k with
  | zero => simp
  | succ k ih =>
    have hlt : k < m.length := by omega
    have h := ih (by omega)
    rw [List.take_succ_eq_append_getElem hlt, sumL_append]
    have hr := hok _ (List.getElem_mem hlt)
    unfold okR at hr
    simp only [sumL_cons, sumL_nil]
    omega

def CRel (m : List R) (W : World) (n i : Value) (wr : World) : Prop := ∃ k : Nat, i = .int .i64 k ∧ n = .int .i64 (sumL (m.take k)) ∧ k ≤ m.length ∧ Below W.heap.size W wr

set_option maxHeartbeats 2000000 in
theorem count_any (l : List R) (A : Option Addr) (cap : Nat) (w : World) (hlen : l.length ≤ 100000) (hcap : l.length ≤ cap) (h : Lst w w.heap.size A l) :
    Calls Try.prog 19 #[.slice A l.length cap] w fun e w' => e = .returned (.int .i64 (cntL l)) ∧ Below w.heap.size w w' := by
  have H := hide h
  clear h
  go_enter Try.func19, Try.ntmps19
  go_wp2_with fail
  refine (make_any l A cap w hlen hcap (unhide H)).mono ?_
  rintro e w1 ⟨v1, rfl, hcut⟩
  obtain ⟨A1, cap1, rfl, hlst, hc1, hcm⟩ := own_lst hcut.1
  have hml := mk_len l
  have hok := (mk_least l).ok
  have hsum : sumL (mk l) = cntL l := rfl
  have HB := hide hcut.2
  have HSUM := hide hsum
  generalize mk l = m at *
  have HL := hide hlst
  have HOK := hide hok
  clear hcut hlst hok hsum
  go_wp2
  go_loopw [3, 9] (fun n i wr => CRel m w1 n i wr) (fun _ i _ => m.length - (intOf i).toNat)
  case atStart => exact ⟨0, rfl, rfl, Nat.zero_le _, Below.refl _ _⟩
  case round =>
    obtain ⟨k, rfl, rfl, hk, hbl⟩ := hrel
    by_cases hlt : k < m.length
    · obtain ⟨b, off, rfl, hb, hc⟩ := (unhide HL) (by omega)
      obtain ⟨r, hr⟩ : ∃ r, m[k]? = some r := ⟨_, List.getElem?_eq_getElem hlt⟩
      have c1 : wr.cell? ⟨b, off + k * 2, none⟩ = some (.int .i64 r.1) := (hbl.cell (p := ⟨b, off + k * 2, none⟩) hb).trans (hc k r hr).1
      have c2 : wr.cell? ⟨b, off + k * 2 + 1, none⟩ = some (.int .i64 r.2) := (hbl.cell (p := ⟨b, off + k * 2 + 1, none⟩) hb).trans (hc k r hr).2
      have hlt' : (k : Int) < (m.length : Int) := by omega
      have hrok := (unhide HOK) r (List.mem_of_getElem? hr)
      have hbd := sumL_take_bound (unhide HOK) k hk
      have htk : sumL (m.take (k + 1)) = sumL (m.take k) + (r.2 - r.1 + 1) := by
        have e : m[k] = r := by simpa [List.getElem?_eq_getElem hlt] using hr
        rw [List.take_succ_eq_append_getElem hlt, e, sumL_append]; simp
      have hw1 : IntKind.i64.wrap (r.2 - r.1) = r.2 - r.1 := wrap_id _ (by unfold okR at hrok; omega) (by unfold okR at hrok; omega)
      have hw2 : IntKind.i64.wrap (r.2 - r.1 + 1) = r.2 - r.1 + 1 := wrap_id _ (by unfold okR at hrok; omega) (by unfold okR at hrok; omega)
      have hw3 : IntKind.i64.wrap (sumL (m.take k) + (r.2 - r.1 + 1)) = sumL (m.take k) + (r.2 - r.1 + 1) := wrap_id _ (by unfold okR at hrok; omega) (by unfold okR at hrok; omega)
      have HBL := hide hbl
      have HTK := hide htk
      clear hbl hr hc htk hbd hrok
      generalize sumL (m.take k) = t at *
      go_wp2
      go_roundw
      case rel => exact ⟨k + 1, by go_num, by rw [unhide HTK], by omega, below_al (unhide HBL) (unhide HBL).size _⟩
      case measure => simp [intOf]; omega
    · obtain rfl : k = m.length := by omega
      rw [List.take_length, unhide HSUM]
      have HBL := hide hbl
      clear hbl
      go_wp2
      go_ret
      exact ⟨rfl, (unhide HB).trans ((unhide HBL).mono (unhide HB).size)⟩

set_option maxHeartbeats 1000000 in
theorem of_any (x : Int) (w : World) : Calls Try.prog 20 #[.int .i64 x] w fun e w' => ∃ v, e = .returned v ∧ Cut w (ofL x) v w' := by
  have hl : Lst (w.alloc (.cells #[.int .i64 x, .int .i64 x] 36)) (w.alloc (.cells #[.int .i64 x, .int .i64 x] 36)).heap.size (some ⟨w.heap.size, 0, none⟩) [(x, x)] :=
    Lst.of_reads ((reads_new w #[.int .i64 x, .int .i64 x] 36 1 2 rfl).more (by simp))
  have HL := hide hl
  clear hl
  go_enter Try.func20, Try.ntmps20
  go_wp2_with fail
  refine (make_any [(x, x)] (some ⟨w.heap.size, 0, none⟩) 1 _ (by simp) (by simp) (unhide HL)).mono ?_
  rintro e w1 ⟨v1, rfl, hcut⟩
  have HC := hide hcut
  clear hcut
  go_wp2
  go_ret
  refine ⟨_, rfl, own_lower (unhide HC).1 (by simp), ?_⟩
  exact (below_al (Below.refl _ _) (Nat.le_refl _) _).trans ((unhide HC).2.mono (by simp))
end Go.Proofs.Ythpmchdejoiacaa.Rs
