/-
  Do two rows of symbols go together, one by one: the closure of Again, and the library's EqualFunc at it, walke
-/
import Derived.Test.YtdeaaidbmneplaaDoorMTxEdge
import Derived.Test.YtdeaaidbmneplaaDoorMFoFold
set_option linter.unusedSimpArgs false
set_option linter.unusedVariables false
namespace Go.Proofs.YtdeaaidbmneplaaDoor.Tx
open Go.RowKit Go.Proofs.YtdeaaidbmneplaaDoor.Mem
attribute [local go_sem] Go.Proofs.YtdeaaidbmneplaaDoor.Rs.run_not_true Go.Proofs.YtdeaaidbmneplaaDoor.Rs.run_not_false
def Bd (x : Int) : Prop := -9223372036854775808 ≤ x ∧ x ≤ 9223372036854775807
theorem sm_bd {l : List Int} (h : Sm l) : ∀ x ∈ l, Bd x := fun x hx => by have := h x hx; unfold Bd; omega
set_option maxHeartbeats 1000000 in
theorem same_any (x y mode : Int) (p : Nat) (w : World) (hp : w.cell? ⟨p, 0, none⟩ = some (.int .i64 mode)) (hT : Tl w) (hx : Bd x) (hy : Bd y) :
    Calls Tryd.prog 29 #[.int .i64 x, .int .i64 y, .pointer (some ⟨p, 0, none⟩)] w fun e w' => e = .returned (.bool (sameZ mode x y)) ∧ Below w.heap.size w w' := by
  by_cases h0 : x = y
  · have HE := hide (show true = sameZ mode x y by rw [h0, sameZ_self])
    have e0 : (x == y) = true := by rw [beq_iff_eq]; exact h0
    clear h0 hT hx hy
    go_enter Tryd.func29, Tryd.ntmps29
    go_wp2
    go_ret
    exact ⟨ret_b (unhide HE), Below.refl _ _⟩
  · have e0 : (x == y) = false := by rw [beq_eq_false_iff_ne]; exact h0
    by_cases h1 : mode = 1
    · have HE := hide (show (Fo.foldZ x == Fo.foldZ y) = sameZ mode x y by unfold sameZ; rw [if_pos h1])
      obtain ⟨tb, toff, tcap, hTab⟩ := hT.rows
      have C := hide (Fo.psame_any x y w hTab hx hy)
      have e1 : (mode == 1) = true := by rw [beq_iff_eq]; exact h1
      clear h0 h1 hT hTab hx hy
      go_enter Tryd.func29, Tryd.ntmps29
      go_wp2_with fail
      refine (unhide C).mono ?_
      rintro e w1 ⟨rfl, hB⟩
      have HB := hide hB
      clear hB C
      generalize (Fo.foldZ x == Fo.foldZ y) = q at *
      go_wp2
      go_ret
      exact ⟨ret_b (unhide HE), unhide HB⟩
    · have HE := hide (show false = sameZ mode x y by unfold sameZ; rw [if_neg h1]; exact e0.symm)
      have e1 : (mode == 1) = false := by rw [beq_eq_false_iff_ne]; exact h1
      clear h0 h1 hT hx hy
      go_enter Tryd.func29, Tryd.ntmps29
      go_wp2
      go_ret
      exact ⟨ret_b (unhide HE), Below.refl _ _⟩
set_option maxHeartbeats 1000000 in
theorem equal_none (A1 A2 : Option Addr) (c1 c2 : Nat) (fv : Value) (w : World) : Calls Tryd.prog 31 #[.slice A1 0 c1, .slice A2 0 c2, fv] w fun e w' => e = .returned (.bool true) ∧ Below w.heap.size w w' := by
  go_enter Tryd.func31, Tryd.ntmps31
  go_wp2
  go_loop [17] (fun i => i = .int .i64 0) (fun _ => 0)
  case atStart => exact rfl
  case round =>
    obtain rfl := hrel
    go_wp2
    go_ret
    exact ⟨rfl, Below.refl _ _⟩
def QRel (mode : Int) (xs ys : List Int) (w : World) (i : Value) (wr : World) : Prop := ∃ k : Nat, i = .int .i64 k ∧ k ≤ xs.length ∧ runL mode xs ys k = true ∧ Below w.heap.size w wr
set_option maxHeartbeats 2000000 in
theorem equal_some (mode : Int) (xs ys : List Int) (n b1 o1 c1 b2 o2 c2 p : Nat) (w : World) (hn : xs.length = n) (hn2 : ys.length = n) (hc1 : n ≤ c1) (hc2 : n ≤ c2) (hm1 : c1 ≤ 9223372036854775807) (hm2 : c2 ≤ 9223372036854775807) (hs : n ≤ 100000)
    (hx : ∀ x ∈ xs, Bd x) (hy : ∀ x ∈ ys, Bd x) (hb1 : b1 < w.heap.size) (hb2 : b2 < w.heap.size) (h1 : ∀ j u, (xs.map Mem.i64)[j]? = some u → w.cell? ⟨b1, o1 + j, none⟩ = some u) (h2 : ∀ j u, (ys.map Mem.i64)[j]? = some u → w.cell? ⟨b2, o2 + j, none⟩ = some u)
    (hp : w.cell? ⟨p, 0, none⟩ = some (.int .i64 mode)) (hT : Tl w) :
    Calls Tryd.prog 31 #[.slice (some ⟨b1, o1, none⟩) n c1, .slice (some ⟨b2, o2, none⟩) n c2, .func (.func 29) #[] #[.pointer (some ⟨p, 0, none⟩)]] w fun e w' => e = .returned (.bool (runL mode xs ys n)) ∧ Below w.heap.size w w' := by
  have HX := hide hx
  have HY := hide hy
  have H1 := hide h1
  have H2 := hide h2
  have HP := hide hp
  have HPL := hide (cell_lt hp)
  have HT := hide hT
  have HN := hide hn
  have HN2 := hide hn2
  have HL1 := hide hb1
  have HL2 := hide hb2
  clear hx hy h1 h2 hp hT hn hn2 hb1 hb2
  go_enter Tryd.func31, Tryd.ntmps31
  go_wp2
  go_loopw [17] (fun i wr => QRel mode xs ys w i wr) (fun i _ => n - (intOf i).toNat)
  case atStart => exact ⟨0, rfl, by omega, rfl, Below.refl _ _⟩
  case round =>
    obtain ⟨k, rfl, hk, hrun, hB⟩ := hrel
    go_hideQ
    rw [unhide HN] at hk
    have HRUN := hide hrun
    have HB := hide hB
    clear hrun hB
    by_cases hlt : k < n
    · obtain ⟨x, hx⟩ : ∃ x, xs[k]? = some x := ⟨_, List.getElem?_eq_getElem (by rw [unhide HN]; exact hlt)⟩
      obtain ⟨y, hy⟩ : ∃ y, ys[k]? = some y := ⟨_, List.getElem?_eq_getElem (by rw [unhide HN2]; exact hlt)⟩
      have d1 : wr.cell? ⟨b1, o1 + k, none⟩ = some (.int .i64 x) := ((unhide HB).cell (p := ⟨b1, o1 + k, none⟩) (unhide HL1)).trans ((unhide H1) k _ (by rw [List.getElem?_map, hx]; rfl))
      have d2 : wr.cell? ⟨b2, o2 + k, none⟩ = some (.int .i64 y) := ((unhide HB).cell (p := ⟨b2, o2 + k, none⟩) (unhide HL2)).trans ((unhide H2) k _ (by rw [List.getElem?_map, hy]; rfl))
      have d3 : wr.cell? ⟨p, 0, none⟩ = some (.int .i64 mode) := ((unhide HB).cell (p := ⟨p, 0, none⟩) (unhide HPL)).trans (unhide HP)
      have C := hide (same_any x y mode p wr d3 ((unhide HT).below (unhide HB)) ((unhide HX) x (List.mem_of_getElem? hx)) ((unhide HY) y (List.mem_of_getElem? hy)))
      have HST := hide (runL_step (unhide HRUN) hx hy)
      have hki : (k : Int) < (n : Int) := by omega
      clear hx hy d3
      cases hq : sameZ mode x y with
      | true =>
        rw [hq] at C HST
        clear hq
        go_wp2_with fail
        refine (unhide C).mono ?_
        rintro e w1 ⟨rfl, hB1⟩
        have HB1 := hide ((unhide HB).trans (hB1.mono (unhide HB).size))
        clear hB1 C HB
        go_wp2_with fail
        have hR : QRel mode xs ys w (.int .i64 ((k : Int) + 1)) w1 := ⟨k + 1, by go_num, by rw [unhide HN]; omega, unhide HST, unhide HB1⟩
        have hme : n - (intOf (.int .i64 ((k : Int) + 1))).toNat < n - k := by simp [intOf]; omega
        first | exact ⟨hR, hme⟩ | exact ⟨⟨_, _, _, hR, rfl, rfl, rfl⟩, hme⟩ | (go_roundw; exact hR; exact hme)
      | false =>
        rw [hq] at C HST
        have HE := hide (show runL mode xs ys n = false from runL_false (unhide HST) n hlt)
        clear hq
        go_wp2_with fail
        refine (unhide C).mono ?_
        rintro e w1 ⟨rfl, hB1⟩
        have HB1 := hide ((unhide HB).trans (hB1.mono (unhide HB).size))
        clear hB1 C HB
        go_wp2
        go_ret
        exact ⟨ret_b (unhide HE).symm, unhide HB1⟩
    · obtain rfl : k = n := by omega
      go_wp2
      go_ret
      exact ⟨ret_b (unhide HRUN).symm, unhide HB⟩
end Go.Proofs.YtdeaaidbmneplaaDoor.Tx
