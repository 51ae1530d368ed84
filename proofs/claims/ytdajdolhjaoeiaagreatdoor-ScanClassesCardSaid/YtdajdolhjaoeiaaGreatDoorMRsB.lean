/-
  rset.Make, walked.
  rset.Not, walked.
  rset.Of, walked.
-/
import Derived.Test.YtdajdolhjaoeiaaGreatDoorMRsCut
import Derived.Test.YtdajdolhjaoeiaaGreatDoorMRsSort
import Derived.Test.YtdajdolhjaoeiaaGreatDoorMRsJoin
set_option linter.unusedVariables false
set_option linter.unusedSimpArgs false
namespace Go.Proofs.YtdajdolhjaoeiaaGreatDoor.Rs
open Go.RowKit Go.Proofs.YtdajdolhjaoeiaaGreatDoor.Mem

theorem made_sort {l s : List R} (hp : s.Perm (withinL l)) : ∀ r ∈ s, okR r := fun r hr => ok_withinL l r (hp.mem_iff.1 hr)

set_option maxHeartbeats 1000000 in
/-- **Make**: a new row with the least list. -/
theorem make_any (l : List R) (A : Option Addr) (cap : Nat) (w : World) (hlen : l.length ≤ 8796093021952) (hcap : l.length ≤ cap) (h : Lst w w.heap.size A l) :
    Calls Tryz.prog 51 #[.slice A l.length cap] w fun e w' => ∃ v, e = .returned v ∧ Cut w (mk l) v w' := by
  have H := hide h
  clear h
  go_enter Tryz.func51, Tryz.ntmps51
  go_wp2_with fail
  refine (within_any l A cap w hlen hcap (unhide H)).mono ?_
  rintro e w1 ⟨v1, rfl, hcut⟩
  have hl1 := within_len l
  have HC := hide hcut
  clear hcut
  go_wp2_with fail
  refine (sort_own (withinL l) w.heap.size v1 w1 (by omega) (unhide HC).1).mono ?_
  rintro e w2 ⟨rfl, s, hp, hs, hsl, ho, hg⟩
  have HP := hide hp
  have HS := hide hs
  have HO := hide ho
  have HG := hide hg
  clear hp hs ho hg
  go_wp2_with fail
  refine (join_any s w.heap.size v1 w2 (by omega) (made_sort (unhide HP)) (by rw [hsl]; exact unhide HO)).mono ?_
  rintro e w3 ⟨v3, rfl, ho3, hg3⟩
  have HO3 := hide ho3
  have HG3 := hide hg3
  clear ho3 hg3
  go_wp2
  go_ret
  refine ⟨_, rfl, by rw [← join_mk (unhide HP) (unhide HS)]; exact unhide HO3, ?_⟩
  have hb := own_base (unhide HC).1
  have h2 := (unhide HC).2.grown (unhide HG) (unhide HC).2.size hb
  exact h2.grown (unhide HG3) h2.size hb

/-- a row of the call's own lies as a list -/
theorem own_lst {W : World} {base e : Nat} {v : Value} {l : List R} (h : W.ownsRow base e 2 v l.length (flat l)) : ∃ A cap, v = .slice A l.length cap ∧ Lst W W.heap.size A l ∧ l.length ≤ cap ∧ cap ≤ maxLen := by
  rcases h.2 with ⟨rfl, hn⟩ | ⟨g, cap, cur, rfl, hb, hh, hnc, hcm, hcs, ht⟩
  · refine ⟨none, 0, by rw [hn], fun hl => by omega, by omega, by unfold maxLen; omega⟩
  · exact ⟨_, cap, rfl, Lst.of_reads (Reads.of_own h), hnc, hcm⟩

theorem mk_len (l : List R) : (mk l).length ≤ l.length := by
  unfold mk
  refine Nat.le_trans (joinL_len _) ?_
  rw [List.length_mergeSort]
  exact within_len l
end Go.Proofs.YtdajdolhjaoeiaaGreatDoor.Rs
set_option linter.unusedVariables false
set_option linter.unusedSimpArgs false
namespace Go.Proofs.YtdajdolhjaoeiaaGreatDoor.Rs
open Go.RowKit Go.Proofs.YtdajdolhjaoeiaaGreatDoor.Mem

attribute [local go_sem] build_range
def NRel (m : List R) (W : World) (v f i : Value) (wr : World) : Prop :=
  ∃ (k : Nat) (g : List R) (from_ : Int), i = .int .i64 k ∧ f = .int .i64 from_ ∧ k ≤ m.length ∧ notF 0 m = g ++ notF from_ (m.drop k) ∧ g.length ≤ k ∧ 0 ≤ from_ ∧ from_ ≤ 1114368 ∧ Cut W g v wr

set_option maxRecDepth 100000 in
set_option maxHeartbeats 4000000 in
theorem not_any (l : List R) (A : Option Addr) (cap : Nat) (w : World) (hlen : l.length ≤ 100000) (hcap : l.length ≤ cap) (h : Lst w w.heap.size A l) :
    Calls Tryz.prog 78 #[.slice A l.length cap] w fun e w' => ∃ v, e = .returned v ∧ Cut w (notL l) v w' := by
  have H := hide h
  clear h
  obtain ⟨i0, hi, hz0, hz1, hz2⟩ := info_parts info_range
  go_enter Tryz.func78, Tryz.ntmps78
  go_wp2_with fail
  refine (make_any l A cap w (by omega) hcap (unhide H)).mono ?_
  rintro e w1 ⟨v1, rfl, hcut⟩
  obtain ⟨A1, cap1, rfl, hlst, hc1, hcm⟩ := own_lst hcut.1
  have hml := mk_len l
  have hok := (mk_least l).ok
  have hnot : notL l = notF 0 (mk l) := rfl
  have HB := hide hcut.2
  have HNOT := hide hnot
  generalize mk l = m at *
  have HL := hide hlst
  have HOK := hide hok
  clear hcut hlst hok hnot
  go_wp2
  go_loopw [3, 4, 10] (fun v f i wr => NRel m w1 v f i wr) (fun _ _ i _ => m.length - (intOf i).toNat)
  case atStart => exact ⟨0, [], 0, rfl, rfl, Nat.zero_le _, rfl, Nat.le_refl _, by omega, by omega, World.ownsRow_nil _ _ _ _, Below.refl _ _⟩
  case round =>
    obtain ⟨k, g, fr, rfl, rfl, hk, hnf, hgk, hf0, hf1, hcut⟩ := hrel
    by_cases hlt : k < m.length
    · obtain ⟨b, off, rfl, hb, hc⟩ := (unhide HL) (by omega)
      obtain ⟨r, hr⟩ : ∃ r, m[k]? = some r := ⟨_, List.getElem?_eq_getElem hlt⟩
      have hr1 : wr.cell? ⟨b, off + k * 2, none⟩ = some (.int .i64 r.1) := (hcut.2.cell (p := ⟨b, off + k * 2, none⟩) hb).trans (hc k r hr).1
      have hr2 : wr.cell? ⟨b, off + k * 2 + 1, none⟩ = some (.int .i64 r.2) := (hcut.2.cell (p := ⟨b, off + k * 2 + 1, none⟩) hb).trans (hc k r hr).2
      have hlt' : (k : Int) < (m.length : Int) := by omega
      have hrok := (unhide HOK) r (List.mem_of_getElem? hr)
      have h1 := hrok.1; have h2 := hrok.2.1; have h3 := hrok.2.2
      have e : m[k] = r := by simpa [List.getElem?_eq_getElem hlt] using hr
      have hd : m.drop k = r :: m.drop (k + 1) := by rw [List.drop_eq_getElem_cons hlt, e]
      rw [hd] at hnf
      have hw1 : IntKind.i64.wrap (r.1 - 1) = r.1 - 1 := wrap_id _ (by omega) (by omega)
      have hw2 : IntKind.i64.wrap (r.2 + 1) = r.2 + 1 := wrap_id _ (by omega) (by omega)
      have hwz := hcut.2.size
      have hne : some wr.heap.size ≠ u3.ownBlock := fun e => by have := (hcut.1.lt _ e.symm).2; omega
      have hcut2 : Cut w1 g u3 (wr.alloc (.cells #[.int .i64 r.1, .int .i64 r.2] 90)) := ⟨hcut.1.alloc _, below_al hcut.2 hcut.2.size _⟩
      have HCUT := hide hcut2
      have HNF := hide hnf
      clear hcut hcut2 hnf hr hc hrok hd e
      by_cases hlo : fr < r.1
      · have hmx : g.length + 1 ≤ maxLen := by unfold maxLen; omega
        have hone : ∀ u ∈ (#[.int .i64 fr, .int .i64 (r.1 - 1)] : Array Value).toList, u.oneCell' = true := by simp [Value.oneCell']
        go_wp2_with (at_builtin; refine wpList_append_any _ rfl (.tmp 18) (.tmp 24) 24 rfl w1.heap.size 90 i0 (.agg #[.int .i64 0, .int .i64 0]) 2 16 Tryz.underlying24 hi hz0 hz1 hz2 rfl (by decide) _ g.length _ rfl ((unhide HCUT).1.alloc _) _ _ 1 1 _ rfl (reads_at (by rw [World.size_alloc]) #[.int .i64 fr, .int .i64 (r.1 - 1)] 90 1 2 rfl) hone hmx (by omega) (by rw [World.size_alloc, World.size_alloc]; omega) ?_; intro v5 w5 ho5 hg5 hn5; have hb5 := below_app (unhide HCUT).2 (unhide HCUT).1 hg5; have hblk := (((Blk.new wr 90 #[.int .i64 r.1, .int .i64 r.2]).alloc (.cells #[.int .i64 fr, .int .i64 (r.1 - 1)] 90))).grown hg5 hne; have hx1 := hblk.cell 1; have HO5 := hide ho5; have HB5 := hide hb5; clear ho5 hg5 hn5 hb5 hblk)
        first | go_roundw | refine ⟨⟨_, _, _, _, ?rel, rfl, rfl, rfl, rfl⟩, ?measure⟩
        case rel =>
          refine ⟨k + 1, g ++ [(fr, r.1 - 1)], r.2 + 1, by go_num, by go_num, by omega, ?_, by simp; omega, by omega, by omega, by rw [flat_append, List.length_append]; exact unhide HO5, unhide HB5⟩
          rw [unhide HNF, List.append_assoc]
          congr 1
          conv => lhs; unfold notF
          rw [if_pos hlo]
        case measure => simp [intOf]; omega
      · go_wp2
        go_roundw
        case rel =>
          refine ⟨k + 1, g, r.2 + 1, by go_num, by go_num, by omega, ?_, by omega, by omega, by omega, unhide HCUT⟩
          rw [unhide HNF]
          congr 1
          conv => lhs; unfold notF
          rw [if_neg hlo, List.nil_append]
        case measure => simp [intOf]; omega
    · obtain rfl : k = m.length := by omega
      rw [List.drop_length] at hnf
      have hwz := hcut.2.size
      have HCUT := hide hcut
      have HNF := hide hnf
      clear hcut hnf
      by_cases hlo : fr ≤ 1114367
      · have hmx : g.length + 1 ≤ maxLen := by unfold maxLen; omega
        have hone : ∀ u ∈ (#[.int .i64 fr, .int .i64 1114367] : Array Value).toList, u.oneCell' = true := by simp [Value.oneCell']
        go_wp2_with (at_builtin; refine wpList_append_any _ rfl (.tmp 32) (.tmp 35) 24 rfl w1.heap.size 90 i0 (.agg #[.int .i64 0, .int .i64 0]) 2 16 Tryz.underlying24 hi hz0 hz1 hz2 rfl (by decide) _ g.length _ rfl ((unhide HCUT).1.alloc _) _ _ 1 1 _ rfl (reads_at rfl #[.int .i64 fr, .int .i64 1114367] 90 1 2 rfl) hone hmx (by omega) (by rw [World.size_alloc]; omega) ?_; intro v5 w5 ho5 hg5 hn5; have hb5 := below_app (unhide HCUT).2 (unhide HCUT).1 hg5; have HO5 := hide ho5; have HB5 := hide hb5; clear ho5 hg5 hn5 hb5)
        go_ret
        refine ⟨_, rfl, own_lower (?_ : World.ownsRow _ w1.heap.size _ _ _ _ _) (unhide HB).size, (unhide HB).trans ((unhide HB5).mono (unhide HB).size)⟩
        rw [unhide HNOT, unhide HNF]
        have e : notF fr [] = [(fr, 1114367)] := by unfold notF; rw [if_pos hlo]
        rw [e, flat_append, List.length_append]
        exact unhide HO5
      · go_wp2
        go_ret
        refine ⟨_, rfl, own_lower (?_ : World.ownsRow _ w1.heap.size _ _ _ _ _) (unhide HB).size, (unhide HB).trans ((unhide HCUT).2.mono (unhide HB).size)⟩
        rw [unhide HNOT, unhide HNF]
        have e : notF fr [] = [] := by unfold notF; rw [if_neg (by omega)]
        rw [e, List.append_nil]
        exact (unhide HCUT).1
end Go.Proofs.YtdajdolhjaoeiaaGreatDoor.Rs
set_option linter.unusedVariables false
set_option linter.unusedSimpArgs false
namespace Go.Proofs.YtdajdolhjaoeiaaGreatDoor.Rs
open Go.RowKit Go.Proofs.YtdajdolhjaoeiaaGreatDoor.Mem

set_option maxHeartbeats 1000000 in
theorem of_any (x : Int) (w : World) : Calls Tryz.prog 76 #[.int .i64 x] w fun e w' => ∃ v, e = .returned v ∧ Cut w (ofL x) v w' := by
  have hl : Lst (w.alloc (.cells #[.int .i64 x, .int .i64 x] 90)) (w.alloc (.cells #[.int .i64 x, .int .i64 x] 90)).heap.size (some ⟨w.heap.size, 0, none⟩) [(x, x)] :=
    Lst.of_reads ((reads_new w #[.int .i64 x, .int .i64 x] 90 1 2 rfl).more (by simp))
  have HL := hide hl
  clear hl
  go_enter Tryz.func76, Tryz.ntmps76
  go_wp2_with fail
  refine (make_any [(x, x)] (some ⟨w.heap.size, 0, none⟩) 1 _ (by simp) (by simp) (unhide HL)).mono ?_
  rintro e w1 ⟨v1, rfl, hcut⟩
  have HC := hide hcut
  clear hcut
  go_wp2
  go_ret
  refine ⟨_, rfl, own_lower (unhide HC).1 (by simp), ?_⟩
  exact (below_al (Below.refl _ _) (Nat.le_refl _) _).trans ((unhide HC).2.mono (by simp))
end Go.Proofs.YtdajdolhjaoeiaaGreatDoor.Rs
