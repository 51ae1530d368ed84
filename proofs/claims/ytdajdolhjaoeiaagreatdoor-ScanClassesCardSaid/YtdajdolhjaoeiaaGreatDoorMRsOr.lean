/-
  The library's slices.Grow (by its contract) and slices.Concat at lists of ranges, and rset.Or, walked.
-/
import Derived.Shelf.Spec.SlicesGrow
import Derived.Ground.Names8Prog
import Derived.Shelf.Lay
import Derived.Shelf.SlGeneric
import Derived.Test.YtdajdolhjaoeiaaGreatDoorMRsB
set_option linter.unusedVariables false
set_option linter.unusedSimpArgs false
namespace Go.Proofs
shelf_lay_g Lays8.n4 Nm8 4 at Tryz 156 as Tryz.growRg
end Go.Proofs
namespace Go.Proofs.YtdajdolhjaoeiaaGreatDoor.Rs
open Go.Shelf Go.RowKit Go.Proofs.YtdajdolhjaoeiaaGreatDoor.Mem

/-- Grow of a nil slice: a row without elements. -/
theorem grow_nil (n : Nat) (w : World) (hn : n ≤ 1000000) :
    Calls Tryz.prog 156 #[.slice none 0 0, .int .i64 n] w fun e w' => ∃ v, e = .returned v ∧ Cut w [] v w' := by
  by_cases h0 : n = 0
  · subst h0
    have hcon := Any8.slices_Grow_room Tryz.growRg none 0 0 0 w (Nat.le_refl _) (by omega) (by omega) (by omega)
    change Calls Tryz.prog 156 _ _ _ at hcon
    refine hcon.mono ?_
    rintro e w' ⟨rfl, rfl⟩
    exact ⟨_, rfl, World.ownsRow_nil _ _ _ _, Below.refl _ _⟩
  · obtain ⟨i0, hi, hz0, hz1, hz2⟩ := info_parts info_range
    have hcon := Any8.slices_Grow_grow Tryz.growRg i0 _ hi hz0 (by omega) none 0 0 n [] w (Nat.le_refl _) (by omega) (by rw [hz2]; omega) (by omega) (by simp) (fun _ => rfl) (fun a h => by cases h)
    change Calls Tryz.prog 156 _ _ _ at hcon
    refine hcon.mono ?_
    rintro e w' ⟨rfl, rfl⟩
    have hge := grownCap_ge w (0 + n) 0 90
    have hle := grownCap_le_maxLen w (0 + n) 0 90 (by unfold maxLen; omega)
    refine ⟨_, rfl, ⟨rfl, .inr ⟨w.heap.size, _, _, rfl, Nat.le_refl _, heap_alloc_new w.drew _, Nat.zero_le _, hle, ?_, rfl⟩⟩, (Below.refl _ _).drew.alloc (Nat.le_refl _) _⟩
    have e36 : Tryz.growRg_ren.t 25 = 90 := rfl
    rw [e36]
    generalize grownCap w (0 + n) 0 90 = G at hge hle ⊢
    simp only [Array.size_append, size_zeroCells, Value.cells]
    simp
    omega

abbrev Ls := List (Option Addr × List R × Nat)
def tot (ls : Ls) : Nat := (ls.map fun x => x.2.1.length).sum
def cat (ls : Ls) : List R := ls.flatMap fun x => x.2.1
theorem tot_snoc (ls : Ls) (x : Option Addr × List R × Nat) : tot (ls ++ [x]) = tot ls + x.2.1.length := by simp [tot]
theorem cat_snoc (ls : Ls) (x : Option Addr × List R × Nat) : cat (ls ++ [x]) = cat ls ++ x.2.1 := by simp [cat]
theorem cat_len : ∀ ls : Ls, (cat ls).length = tot ls
  | [] => rfl
  | x :: ls => by
    have := cat_len ls
    simp [cat, tot] at this ⊢
theorem tot_le (M : Nat) : ∀ (ls : Ls), (∀ x ∈ ls, x.2.1.length ≤ M) → tot ls ≤ ls.length * M
  | [], _ => by simp [tot]
  | x :: ls, h => by
    have h1 := tot_le M ls (fun y hy => h y (by simp [hy]))
    have h2 := h x (by simp)
    have e : tot (x :: ls) = x.2.1.length + tot ls := by simp [tot]
    rw [e, List.length_cons, Nat.succ_mul]
    omega
theorem tot_take (ls : Ls) (h : ∀ x ∈ ls, x.2.1.length ≤ 100000) (k : Nat) : tot (ls.take k) ≤ ls.length * 100000 := by
  refine Nat.le_trans (tot_le 100000 (ls.take k) fun x hx => h x (List.mem_of_mem_take hx)) ?_
  exact Nat.mul_le_mul_right _ (List.length_take_le' _ _)

def C1 (ls : Ls) (w : World) (sz i : Value) (wr : World) : Prop := ∃ k : Nat, i = .int .i64 k ∧ k ≤ ls.length ∧ sz = .int .i64 (tot (ls.take k) : Nat) ∧ w = wr
def C2 (ls : Ls) (w : World) (v i : Value) (wr : World) : Prop := ∃ k : Nat, i = .int .i64 k ∧ k ≤ ls.length ∧ Cut w (cat (ls.take k)) v wr

set_option maxRecDepth 100000 in
set_option maxHeartbeats 4000000 in
theorem concat_any (ls : Ls) (g cap : Nat) (w : World) (hn : ls.length ≤ 10) (hg : g < w.heap.size)
    (hc : ∀ k x, ls[k]? = some x → w.cell? ⟨g, k, none⟩ = some (.slice x.1 x.2.1.length x.2.2)) (hl : ∀ x ∈ ls, Lst w w.heap.size x.1 x.2.1) (hl2 : ∀ x ∈ ls, x.2.1.length ≤ 100000) :
    Calls Tryz.prog 134 #[.slice (some ⟨g, 0, none⟩) ls.length cap] w fun e w' => ∃ v, e = .returned v ∧ Cut w (cat ls) v w' := by
  have HC := hide hc
  have HL := hide hl
  have HL2 := hide hl2
  have HG := hide hg
  clear hc hl hl2 hg
  obtain ⟨i0, hi, hz0, hz1, hz2⟩ := info_parts info_range
  go_enter Tryz.func134, Tryz.ntmps134
  go_wp2
  go_loopw [3, 11] (fun v i wr => C1 ls w v i wr) (fun _ i _ => ls.length - (intOf i).toNat)
  case atStart => exact ⟨0, rfl, Nat.zero_le _, rfl, rfl⟩
  case round =>
    obtain ⟨k, rfl, hk, rfl, rfl⟩ := hrel
    by_cases hlt : k < ls.length
    · obtain ⟨x, hx⟩ : ∃ x, ls[k]? = some x := ⟨_, List.getElem?_eq_getElem hlt⟩
      have c1 := (unhide HC) k x hx
      have hxl := (unhide HL2) x (List.mem_of_getElem? hx)
      have e : ls[k] = x := by simpa [List.getElem?_eq_getElem hlt] using hx
      have htk : tot (ls.take (k + 1)) = tot (ls.take k) + x.2.1.length := by rw [List.take_succ_eq_append_getElem hlt, e, tot_snoc]
      have htl := tot_take ls (unhide HL2) k
      obtain ⟨A, l, cp⟩ := x
      dsimp only at c1 hxl htk
      have hlt' : (k : Int) < (ls.length : Int) := by omega
      have HTK := hide htk
      generalize tot (ls.take k) = t at *
      have hw1 : IntKind.i64.wrap ((t : Int) + (l.length : Int)) = (t : Int) + (l.length : Int) := wrap_id _ (by omega) (by omega)
      have hnn : ¬ ((t : Int) + (l.length : Int) < 0) := by omega
      have hd0 : decide ((t : Int) + (l.length : Int) < 0) = false := by simpa using hnn
      clear hx e htk
      go_wp2
      first | go_roundw | refine ⟨⟨_, _, _, ?rel, rfl, rfl, rfl⟩, ?measure⟩
      case rel => exact ⟨k + 1, by go_num, by omega, by rw [unhide HTK]; simp, rfl⟩
      case measure => simp [intOf]; omega
    · obtain rfl : k = ls.length := by omega
      have htl := tot_take ls (unhide HL2) ls.length
      rw [List.take_length] at htl ⊢
      have hcl := cat_len ls
      generalize hT : tot ls = T at *
      go_wp2_with fail
      refine (grow_nil T w (by omega)).mono ?_
      rintro e w1 ⟨v1, rfl, hcut⟩
      have HCUT := hide hcut
      clear hcut
      go_wp2
      go_loopw [6, 27] (fun v i wx => C2 ls w v i wx) (fun _ i _ => ls.length - (intOf i).toNat)
      case atStart => exact ⟨0, rfl, Nat.zero_le _, unhide HCUT⟩
      case round =>
        obtain ⟨k, rfl, hk, hcut⟩ := hrel
        by_cases hlt : k < ls.length
        · obtain ⟨x, hx⟩ : ∃ x, ls[k]? = some x := ⟨_, List.getElem?_eq_getElem hlt⟩
          have c1 := (hcut.2.cell (p := ⟨g, k, none⟩) (unhide HG)).trans ((unhide HC) k x hx)
          have hlst := ((unhide HL) x (List.mem_of_getElem? hx)).below hcut.2
          have hxl := (unhide HL2) x (List.mem_of_getElem? hx)
          have e : ls[k] = x := by simpa [List.getElem?_eq_getElem hlt] using hx
          have htk : cat (ls.take (k + 1)) = cat (ls.take k) ++ x.2.1 := by rw [List.take_succ_eq_append_getElem hlt, e, cat_snoc]
          have htl := tot_take ls (unhide HL2) k
          rw [← cat_len] at htl
          obtain ⟨A, l, cp⟩ := x
          dsimp only at c1 hlst hxl htk
          have hlt' : (k : Int) < (ls.length : Int) := by omega
          have hwz := hcut.2.size
          generalize cat (ls.take k) = pre at *
          have hmx : pre.length + l.length ≤ maxLen := by unfold maxLen; omega
          have HTK := hide htk
          have HR := hide hlst.reads
          have HCUT2 := hide hcut
          clear hx e htk hlst hcut
          go_wp2_with (at_builtin; refine wpList_append_any _ rfl (.tmp 31) (.tmp 32) 24 rfl w.heap.size 90 i0 (.agg #[.int .i64 0, .int .i64 0]) 2 16 Tryz.underlying24 hi hz0 hz1 hz2 rfl (by decide) _ pre.length _ rfl (unhide HCUT2).1 _ _ _ _ (flat l) rfl (unhide HR) (flat_one l) hmx (by omega) hwz ?_; intro v5 w5 ho5 hg5 hn5; have HO5 := hide ho5; have HG5 := hide hg5; clear ho5 hg5 hn5)
          first | go_roundw | refine ⟨⟨_, _, _, ?rel, rfl, rfl, rfl⟩, ?measure⟩
          case rel =>
            refine ⟨k + 1, by go_num, by omega, ?_⟩
            rw [unhide HTK]
            exact ⟨by rw [flat_append, List.length_append]; exact unhide HO5, below_app' (unhide HCUT2).2 (unhide HCUT2).1 (unhide HG5)⟩
          case measure => simp [intOf]; omega
        · obtain rfl : k = ls.length := by omega
          rw [List.take_length] at hcut
          have HCUT2 := hide hcut
          clear hcut
          go_wp2
          go_ret
          exact ⟨_, rfl, unhide HCUT2⟩

set_option maxRecDepth 100000 in
set_option maxHeartbeats 1000000 in
theorem or_any (a b : List R) (A B : Option Addr) (ca cb : Nat) (w : World) (hla : a.length ≤ 50000) (hlb : b.length ≤ 50000) (ha : Lst w w.heap.size A a) (hb : Lst w w.heap.size B b) :
    Calls Tryz.prog 108 #[.slice A a.length ca, .slice B b.length cb] w fun e w' => ∃ v, e = .returned v ∧ Cut w (orL a b) v w' := by
  have hbl := below_al (Below.refl w.heap.size w) (Nat.le_refl _) (.cells #[.slice A a.length ca, .slice B b.length cb] 24)
  have hcc := concat_any [(A, a, ca), (B, b, cb)] w.heap.size 2 (w.alloc (.cells #[.slice A a.length ca, .slice B b.length cb] 24)) (by simp) (by simp)
    (fun k x hx => by
      rw [World.cell?_alloc_new]
      match k, hx with
      | 0, hx => simp at hx; subst hx; rfl
      | 1, hx => simp at hx; subst hx; rfl
      | k + 2, hx => simp at hx)
    (fun x hx => by
      simp at hx
      rcases hx with rfl | rfl
      · exact (ha.below hbl).more (by simp)
      · exact (hb.below hbl).more (by simp))
    (fun x hx => by
      simp at hx
      rcases hx with rfl | rfl <;> simp only <;> omega)
  have HCC := hide hcc
  have HBL := hide hbl
  clear hcc hbl ha hb
  go_enter Tryz.func108, Tryz.ntmps108
  go_wp2_with fail
  refine (unhide HCC).mono ?_
  rintro e w1 ⟨v1, rfl, hcut⟩
  have ec : cat [(A, a, ca), (B, b, cb)] = a ++ b := by simp [cat]
  rw [ec] at hcut
  obtain ⟨A1, c1, rfl, hl1, hc1, hcm1⟩ := own_lst hcut.1
  have hb1 : Below w.heap.size w w1 := (unhide HBL).trans (hcut.2.mono (by simp))
  have HB1 := hide hb1
  have HL1 := hide hl1
  clear hcut hl1 hb1 HCC
  have hll : (a ++ b).length ≤ 100000 := by simp; omega
  have HOR := hide (show orL a b = mk (a ++ b) from rfl)
  generalize a ++ b = ab at *
  go_wp2_with fail
  refine (make_any ab A1 c1 w1 (by omega) hc1 (unhide HL1)).mono ?_
  rintro e w2 ⟨v2, rfl, hcut2⟩
  have HC2 := hide hcut2
  clear hcut2
  go_wp2
  go_ret
  exact ⟨_, rfl, by rw [unhide HOR]; exact own_lower (unhide HC2).1 (unhide HB1).size, (unhide HB1).trans ((unhide HC2).2.mono (unhide HB1).size)⟩
end Go.Proofs.YtdajdolhjaoeiaaGreatDoor.Rs
