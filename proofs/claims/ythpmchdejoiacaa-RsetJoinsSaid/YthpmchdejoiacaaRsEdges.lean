/-
  The reference's Edges and the law's edges, walked: some numbers.
-/
import Derived.Test.YthpmchdejoiacaaRsRef
set_option linter.unusedVariables false
set_option linter.unusedSimpArgs false
namespace Go.Proofs.Ythpmchdejoiacaa.Rs
open Go.RowKit Go.Proofs.Ythpmchdejoiacaa.Mem

def CutI (w : World) (zs : List Int) (v : Value) (w' : World) : Prop := w'.ownsRow w.heap.size 3 1 v zs.length (zs.map i64) ∧ Below w.heap.size w w'
theorem one_i64 (zs : List Int) : ∀ u ∈ zs.map i64, u.oneCell' = true := by
  intro u hu
  obtain ⟨z, _, rfl⟩ := List.mem_map.1 hu
  rfl
theorem one_i (z : Int) : ∀ u ∈ (#[.int .i64 z] : Array Value).toList, u.oneCell' = true := by simp [Value.oneCell']
theorem cutI_app {w W W' : World} {zs : List Int} {z : Int} {v v' : Value} {o : Obj} (h : CutI w zs v W) (ho : W'.ownsRow w.heap.size 3 1 v' (zs.length + 1) (zs.map i64 ++ #[Value.int .i64 z].toList)) (hg : (W.alloc o).grownBy W' v.ownBlock) : CutI w (zs ++ [z]) v' W' := by
  refine ⟨?_, below_app h.2 h.1 hg⟩
  rw [List.length_append, List.map_append]
  exact ho

def InB (zs : List Int) : Prop := ∀ z ∈ zs, 0 ≤ z ∧ z ≤ 1114367
theorem InB.app {zs : List Int} {z : Int} (h : InB zs) (h0 : 0 ≤ z) (h1 : z ≤ 1114367) : InB (zs ++ [z]) := by
  intro y hy
  rcases List.mem_append.1 hy with h' | h'
  · exact h y h'
  · rw [List.mem_singleton.1 h']; exact ⟨h0, h1⟩
theorem InB.apps {zs ys : List Int} (h : InB zs) (h' : InB ys) : InB (zs ++ ys) := fun y hy => by
  rcases List.mem_append.1 hy with k | k
  · exact h y k
  · exact h' y k
def ERel (l : List R) (w : World) (v i : Value) (wr : World) : Prop := ∃ (k : Nat) (zs : List Int), i = .int .i64 k ∧ k ≤ l.length ∧ zs.length ≤ 1 + 2 * k ∧ InB zs ∧ CutI w zs v wr

set_option maxHeartbeats 8000000 in
theorem refEdges_any (l : List R) (A : Option Addr) (cap : Nat) (w : World) (hlen : l.length ≤ 1000) (h : Lst w w.heap.size A l) :
    Calls Try.prog 26 #[.slice A l.length cap] w fun e w' => ∃ v zs, e = .returned v ∧ zs.length ≤ 1 + 2 * l.length ∧ InB zs ∧ CutI w zs v w' := by
  have H := hide h
  clear h
  obtain ⟨i0, hi, hz0, hz1, hz2⟩ := info_parts info_int
  have hst : CutI w [0] (.slice (some ⟨w.heap.size, 0, none⟩) 1 1) (w.alloc (.cells #[.int .i64 0] 3)) := by
    refine ⟨?_, below_al (Below.refl _ _) (Nat.le_refl _) _⟩
    have h := World.ownsRow_lit (base := w.heap.size) (e := 3) (size := 1) w #[.int .i64 0] 1 (Nat.le_refl _) (by unfold maxLen; omega) (by simp)
    simpa [i64] using h
  have HST := hide hst
  clear hst
  go_enter Try.func26, Try.ntmps26
  go_wp2
  go_loopw [3, 4] (fun v i wr => ERel l w v i wr) (fun _ i _ => l.length - (intOf i).toNat)
  case atStart => exact ⟨0, [0], rfl, Nat.zero_le _, by simp, fun z hz => by simp at hz; omega, unhide HST⟩
  case round =>
    obtain ⟨k, zs, rfl, hk, hzs, hin, hcut⟩ := hrel
    have HIN := hide hin
    clear hin
    by_cases hlt : k < l.length
    · obtain ⟨b, off, rfl, hb, hc⟩ := (unhide H) (by omega)
      obtain ⟨r, hr⟩ : ∃ r, l[k]? = some r := ⟨_, List.getElem?_eq_getElem hlt⟩
      have d1 := (hc k r hr).1
      have d2 := (hc k r hr).2
      have c1 : wr.cell? ⟨b, off + k * 2, none⟩ = some (.int .i64 r.1) := (hcut.2.cell (p := ⟨b, off + k * 2, none⟩) hb).trans d1
      have c2 : wr.cell? ⟨b, off + k * 2 + 1, none⟩ = some (.int .i64 r.2) := (hcut.2.cell (p := ⟨b, off + k * 2 + 1, none⟩) hb).trans d2
      have D2 := hide d2
      have HB := hide hb
      have hlt' : (k : Int) < (l.length : Int) := by omega
      have hmx : zs.length + 1 ≤ maxLen := by unfold maxLen; omega
      have hmx2 : (zs ++ [r.1]).length + 1 ≤ maxLen := by unfold maxLen; simp; omega
      have hmb : ((zs ++ [r.1]).length + 1) * 8 ≤ 140737488355328 := by simp; omega
      have hwz := hcut.2.size
      have HM2 := hide hmx2
      have HMB := hide hmb
      have HCUT := hide hcut
      clear hcut hr hc d1 d2 hb hmx2 hmb
      go_wp2_with (first | (at_builtin; refine wpList_append_any _ rfl (.tmp 26) (.tmp 32) 25 rfl w.heap.size 3 i0 (.int .i64 0) 1 8 Try.underlying25 hi hz0 hz1 hz2 rfl (by decide) _ zs.length _ rfl ((unhide HCUT).1.alloc _) _ _ 1 1 _ rfl (reads_new wr #[.int .i64 r.1] 3 1 1 rfl) (one_i r.1) hmx (by omega) (by rw [World.size_alloc]; omega) ?_; intro v1 w1 ho1 hg1 hn1; have hf := cutI_app (unhide HCUT) ho1 hg1; have c3 : w1.cell? ⟨b, off + k * 2 + 1, none⟩ = some (.int .i64 r.2) := (hf.2.cell (p := ⟨b, off + k * 2 + 1, none⟩) (unhide HB)).trans (unhide D2); have hw1 := hf.2.size; have HF := hide hf; clear ho1 hg1 hn1 hf) | (at_builtin; refine wpList_append_any _ rfl (.tmp 48) (.tmp 55) 25 rfl w.heap.size 3 i0 (.int .i64 0) 1 8 Try.underlying25 hi hz0 hz1 hz2 rfl (by decide) _ (zs ++ [r.1]).length _ rfl ((unhide HF).1.alloc _) _ _ 1 1 _ rfl (reads_new w1 #[.int .i64 (r.2 + 1)] 3 1 1 rfl) (one_i _) (unhide HM2) (unhide HMB) (by rw [World.size_alloc]; omega) ?_; intro v2 w2 ho2 hg2 hn2; have HG := hide (cutI_app (unhide HF) ho2 hg2); clear ho2 hg2 hn2) | (at_builtin; refine wpList_append_any _ rfl (.tmp 48) (.tmp 55) 25 rfl w.heap.size 3 i0 (.int .i64 0) 1 8 Try.underlying25 hi hz0 hz1 hz2 rfl (by decide) _ zs.length _ rfl ((unhide HCUT).1.alloc _) _ _ 1 1 _ rfl (reads_new wr #[.int .i64 (r.2 + 1)] 3 1 1 rfl) (one_i _) hmx (by omega) (by rw [World.size_alloc]; omega) ?_; intro v2 w2 ho2 hg2 hn2; have HG' := hide (cutI_app (unhide HCUT) ho2 hg2); clear ho2 hg2 hn2))
      all_goals (first | go_roundw | refine ⟨⟨_, _, ?rel, rfl, rfl⟩, ?measure⟩)
      any_goals (simp [intOf]; omega)
      all_goals first | exact ⟨k + 1, _, by go_num, by omega, by simp; omega, ((unhide HIN).app (by omega) (by omega)).app (by omega) (by omega), unhide HG⟩ | exact ⟨k + 1, _, by go_num, by omega, by simp; omega, (unhide HIN).app (by omega) (by omega), unhide HG'⟩ | exact ⟨k + 1, _, by go_num, by omega, by simp; omega, (unhide HIN).app (by omega) (by omega), unhide HF⟩ | exact ⟨k + 1, zs, by go_num, by omega, by omega, unhide HIN, unhide HCUT⟩
    · obtain rfl : k = l.length := by omega
      have HCUT := hide hcut
      clear hcut
      go_wp2
      go_ret
      exact ⟨_, zs, rfl, hzs, unhide HIN, unhide HCUT⟩

def EsRel (ls : List (Option Addr × List R × Nat)) (w : World) (v i : Value) (wr : World) : Prop := ∃ (k : Nat) (zs : List Int), i = .int .i64 k ∧ k ≤ ls.length ∧ zs.length ≤ 3000 * k ∧ InB zs ∧ CutI w zs v wr

set_option maxHeartbeats 4000000 in
theorem edges_any (ls : List (Option Addr × List R × Nat)) (g cap : Nat) (w : World) (hn : ls.length ≤ 10) (hg : g < w.heap.size)
    (hc : ∀ k x, ls[k]? = some x → w.cell? ⟨g, k, none⟩ = some (.slice x.1 x.2.1.length x.2.2)) (hl : ∀ x ∈ ls, Lst w w.heap.size x.1 x.2.1 ∧ x.2.1.length ≤ 1000) :
    Calls Try.prog 10 #[.slice (some ⟨g, 0, none⟩) ls.length cap] w fun e w' => ∃ v zs, e = .returned v ∧ zs.length ≤ 30000 ∧ InB zs ∧ CutI w zs v w' := by
  have HC := hide hc
  have HL := hide hl
  have HG := hide hg
  clear hc hl hg
  obtain ⟨i0, hi, hz0, hz1, hz2⟩ := info_parts info_int
  go_enter Try.func10, Try.ntmps10
  go_wp2
  go_loopw [3, 8] (fun v i wr => EsRel ls w v i wr) (fun _ i _ => ls.length - (intOf i).toNat)
  case atStart => exact ⟨0, [], rfl, Nat.zero_le _, by simp, (fun z hz => by cases hz), World.ownsRow_nil _ _ _ _, Below.refl _ _⟩
  case round =>
    obtain ⟨k, zs, rfl, hk, hzs, hin, hcut⟩ := hrel
    have HIN := hide hin
    clear hin
    by_cases hlt : k < ls.length
    · obtain ⟨x, hx⟩ : ∃ x, ls[k]? = some x := ⟨_, List.getElem?_eq_getElem hlt⟩
      obtain ⟨hlst, hxl⟩ := (unhide HL) x (List.mem_of_getElem? hx)
      have c1 : wr.cell? ⟨g, k, none⟩ = some (.slice x.1 x.2.1.length x.2.2) := (hcut.2.cell (p := ⟨g, k, none⟩) (unhide HG)).trans ((unhide HC) k x hx)
      obtain ⟨A, l, cp⟩ := x
      dsimp only at hlst hxl c1
      have hlt' : (k : Int) < (ls.length : Int) := by omega
      have hwz := hcut.2.size
      have HLST := hide (hlst.below hcut.2 |>.more hwz)
      have HCUT := hide hcut
      clear hcut hx hlst
      go_wp2_with fail
      refine (lawOf_any l A cp wr (by omega) (unhide HLST)).mono ?_
      rintro e w2 ⟨v2, rfl, hcut2⟩
      obtain ⟨A2, cap2, rfl, hl2, hc2, hcm2⟩ := own_lst2 hcut2.1
      have HB2 := hide hcut2.2
      have HL2 := hide hl2
      clear hcut2 hl2 c1
      go_wp2_with fail
      refine (refEdges_any l A2 cap2 w2 hxl (unhide HL2)).mono ?_
      rintro e w3 ⟨v3, ys, rfl, hys, hyin, hcut3⟩
      have HYIN := hide hyin
      clear hyin
      obtain ⟨A3, cap3, rfl, hr3, hc3⟩ := own_reads hcut3.1
      have hb3 : Below wr.heap.size wr w3 := (unhide HB2).trans (hcut3.2.mono (unhide HB2).size)
      have ho3 : w3.ownsRow w.heap.size 3 1 u3 zs.length (zs.map i64) := own_below (unhide HCUT).1 hb3
      have hb4 : Below w.heap.size w w3 := (unhide HCUT).2.trans (hb3.mono hwz)
      have hw4 := hb4.size
      have hmx : zs.length + ys.length ≤ maxLen := by unfold maxLen; omega
      have HR3 := hide hr3
      have HO3 := hide ho3
      have HB4 := hide hb4
      clear hcut3 hr3 hb3 ho3 hb4
      go_wp2_with (at_builtin; refine wpList_append_any _ rfl (.tmp 12) (.tmp 15) 25 rfl w.heap.size 3 i0 (.int .i64 0) 1 8 Try.underlying25 hi hz0 hz1 hz2 rfl (by decide) _ zs.length _ rfl (unhide HO3) _ _ _ _ (ys.map i64) rfl (unhide HR3) (one_i64 ys) hmx (by omega) hw4 ?_; intro v5 w5 ho5 hg5 hn5; have HO5 := hide ho5; have HG5 := hide hg5; clear ho5 hg5 hn5)
      first | go_roundw | refine ⟨⟨_, _, _, ?rel, rfl, rfl, rfl⟩, ?measure⟩
      case rel => exact ⟨k + 1, zs ++ ys, by go_num, by omega, by simp; omega, (unhide HIN).apps (unhide HYIN), by rw [List.length_append, List.map_append]; exact unhide HO5, below_app' (unhide HB4) (unhide HO3) (unhide HG5)⟩
      case measure => simp [intOf]; omega
    · obtain rfl : k = ls.length := by omega
      have HCUT := hide hcut
      clear hcut
      go_wp2
      go_ret
      exact ⟨_, zs, rfl, by omega, unhide HIN, unhide HCUT⟩
end Go.Proofs.Ythpmchdejoiacaa.Rs
