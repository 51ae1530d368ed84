/-
  The library's decoder of one symbol's bytes (unicode/utf8.DecodeRune), whole: at every slice of bytes that is 
-/
import Derived.Test.YtdeaaidbmneplaaDoorMSymUtf
set_option linter.unusedSimpArgs false
set_option linter.unusedVariables false
namespace Go.Proofs.YtdeaaidbmneplaaDoor.Utf
open Go.RowKit Go.Lib Go.Proofs.YtdeaaidbmneplaaDoor.Sy Go.Proofs.YtdeaaidbmneplaaDoor.Mem
theorem first_ne {b : Nat} (hb : ¬ b < 128) : firstT b ≠ 240 := by
  unfold firstT
  rw [if_neg hb]
  repeat' split
  all_goals decide
theorem first_bad {b : Nat} (h : firstT b = 241) (hb : ¬ b < 128) : b < 194 ∨ 244 < b := by
  refine Decidable.byContradiction fun hn => absurd h ?_
  have h1 : 194 ≤ b ∧ b ≤ 244 := by omega
  clear h hn
  unfold firstT
  rw [if_neg hb, if_neg (by omega)]
  repeat' split
  all_goals first | decide | (exfalso; omega)
theorem dec_bad (n a b c d : Nat) (ha : ¬ a < 128) (h : a < 194 ∨ 244 < a) : dec n a b c d = (65533, 1) := by
  unfold dec decodeN
  repeat' split
  all_goals first | rfl | (exfalso; omega)
theorem slow_any (n x0 x1 x2 x3 b off cap : Nat) (w : World) (hT : Tabs w) (hn : 0 < n) (l0 : x0 < 256) (l1 : x1 < 256) (l2 : x2 < 256) (l3 : x3 < 256) (ha : ¬ x0 < 128)
    (hs0 : w.cell? ⟨b, off, none⟩ = some (.int .u8 (x0 : Int))) (hq1 : 1 < n → w.cell? ⟨b, off + 1, none⟩ = some (.int .u8 (x1 : Int)))
    (hq2 : 2 < n → w.cell? ⟨b, off + 2, none⟩ = some (.int .u8 (x2 : Int))) (hq3 : 3 < n → w.cell? ⟨b, off + 3, none⟩ = some (.int .u8 (x3 : Int))) :
    Calls Tryd.prog 42 #[.slice (some ⟨b, off, none⟩) n cap] w (Gives (dec n x0 x1 x2 x3) w) := by
  have hz : ¬ ((n : Int) < 1) := by omega
  have hz0 : (0 : Int) < (n : Int) := by omega
  have hb : b < w.heap.size := cell_lt hs0
  have hc0 := hT.1 x0 l0
  have heq : firstT x0 < 240 → slowN n x0 x1 x2 x3 (firstT x0 % 8) (accLo (firstT x0 / 16)) (accHi (firstT x0 / 16)) = dec n x0 x1 x2 x3 := fun h => slow_eq n x0 x1 x2 x3 (by omega) l1 l2 l3 h
  rcases first_cases x0 with hX | hX | hX | hX | hX | hX | hX | hX | hX
  · exact absurd hX (first_ne ha)
  · have hbad : dec n x0 x1 x2 x3 = (65533, 1) := dec_bad n x0 x1 x2 x3 ha (first_bad hX ha)
    rw [hbad]
    rw [hX] at hc0
    exact slow_bad n x0 b off cap w hz hz0 l0 hs0 hc0
  · rw [hX] at hc0 heq
    rw [← heq (by omega)]
    have ha0 := (hT.2 0 (by omega)).1
    have ha1 := (hT.2 0 (by omega)).2
    by_cases hn2 : n < 2
    · exact slow_C2_short n x0 x1 x2 x3 b off cap w hz hz0 (by omega) hb l0 l1 l2 l3 hs0 hc0 ha0 ha1
    · exact slow_C2_long n x0 x1 x2 x3 b off cap w hz hz0 (by omega) (hq1 (by omega)) hb l0 l1 l2 l3 hs0 hc0 ha0 ha1
  · rw [hX] at hc0 heq
    rw [← heq (by omega)]
    have ha0 := (hT.2 1 (by omega)).1
    have ha1 := (hT.2 1 (by omega)).2
    by_cases hn2 : n < 3
    · exact slow_E0_short n x0 x1 x2 x3 b off cap w hz hz0 (by omega) hb l0 l1 l2 l3 hs0 hc0 ha0 ha1
    · exact slow_E0_long n x0 x1 x2 x3 b off cap w hz hz0 (by omega) (by omega) (hq1 (by omega)) (hq2 (by omega)) hb l0 l1 l2 l3 hs0 hc0 ha0 ha1
  · rw [hX] at hc0 heq
    rw [← heq (by omega)]
    have ha0 := (hT.2 0 (by omega)).1
    have ha1 := (hT.2 0 (by omega)).2
    by_cases hn2 : n < 3
    · exact slow_E1_short n x0 x1 x2 x3 b off cap w hz hz0 (by omega) hb l0 l1 l2 l3 hs0 hc0 ha0 ha1
    · exact slow_E1_long n x0 x1 x2 x3 b off cap w hz hz0 (by omega) (by omega) (hq1 (by omega)) (hq2 (by omega)) hb l0 l1 l2 l3 hs0 hc0 ha0 ha1
  · rw [hX] at hc0 heq
    rw [← heq (by omega)]
    have ha0 := (hT.2 2 (by omega)).1
    have ha1 := (hT.2 2 (by omega)).2
    by_cases hn2 : n < 3
    · exact slow_ED_short n x0 x1 x2 x3 b off cap w hz hz0 (by omega) hb l0 l1 l2 l3 hs0 hc0 ha0 ha1
    · exact slow_ED_long n x0 x1 x2 x3 b off cap w hz hz0 (by omega) (by omega) (hq1 (by omega)) (hq2 (by omega)) hb l0 l1 l2 l3 hs0 hc0 ha0 ha1
  · rw [hX] at hc0 heq
    rw [← heq (by omega)]
    have ha0 := (hT.2 3 (by omega)).1
    have ha1 := (hT.2 3 (by omega)).2
    by_cases hn2 : n < 4
    · exact slow_F0_short n x0 x1 x2 x3 b off cap w hz hz0 (by omega) hb l0 l1 l2 l3 hs0 hc0 ha0 ha1
    · exact slow_F0_long n x0 x1 x2 x3 b off cap w hz hz0 (by omega) (by omega) (by omega) (hq1 (by omega)) (hq2 (by omega)) (hq3 (by omega)) hb l0 l1 l2 l3 hs0 hc0 ha0 ha1
  · rw [hX] at hc0 heq
    rw [← heq (by omega)]
    have ha0 := (hT.2 0 (by omega)).1
    have ha1 := (hT.2 0 (by omega)).2
    by_cases hn2 : n < 4
    · exact slow_F1_short n x0 x1 x2 x3 b off cap w hz hz0 (by omega) hb l0 l1 l2 l3 hs0 hc0 ha0 ha1
    · exact slow_F1_long n x0 x1 x2 x3 b off cap w hz hz0 (by omega) (by omega) (by omega) (hq1 (by omega)) (hq2 (by omega)) (hq3 (by omega)) hb l0 l1 l2 l3 hs0 hc0 ha0 ha1
  · rw [hX] at hc0 heq
    rw [← heq (by omega)]
    have ha0 := (hT.2 4 (by omega)).1
    have ha1 := (hT.2 4 (by omega)).2
    by_cases hn2 : n < 4
    · exact slow_F4_short n x0 x1 x2 x3 b off cap w hz hz0 (by omega) hb l0 l1 l2 l3 hs0 hc0 ha0 ha1
    · exact slow_F4_long n x0 x1 x2 x3 b off cap w hz hz0 (by omega) (by omega) (by omega) (hq1 (by omega)) (hq2 (by omega)) (hq3 (by omega)) hb l0 l1 l2 l3 hs0 hc0 ha0 ha1
set_option maxHeartbeats 1000000 in
set_option maxRecDepth 1000000 in
theorem rune_ascii (n b off cap x0 : Nat) (w : World) (hn : (0 : Int) < (n : Int)) (hs0 : w.cell? ⟨b, off, none⟩ = some (.int .u8 (x0 : Int))) (ha : (x0 : Int) < 128) :
    Calls Tryd.prog 33 #[.slice (some ⟨b, off, none⟩) n cap] w (Gives (x0, 1) w) := by
  go_enter Tryd.func33, Tryd.ntmps33
  go_wp2
  go_loop [8] (fun i => i = .int .i64 0) (fun _ => 0)
  case atStart => rfl
  case round =>
    subst hrel
    go_wp2
    go_ret2
    exact ⟨rfl, Below.refl _ _⟩
set_option maxHeartbeats 1000000 in
set_option maxRecDepth 1000000 in
theorem rune_on (n b off cap x0 : Nat) (w : World) (r : Nat × Nat) (hn : (0 : Int) < (n : Int)) (hs0 : w.cell? ⟨b, off, none⟩ = some (.int .u8 (x0 : Int))) (ha : ¬ ((x0 : Int) < 128))
    (cS : Calls Tryd.prog 42 #[.slice (some ⟨b, off, none⟩) n cap] w (Gives r w)) :
    Calls Tryd.prog 33 #[.slice (some ⟨b, off, none⟩) n cap] w (Gives r w) := by
  have CS := hide cS
  clear cS
  go_enter Tryd.func33, Tryd.ntmps33
  go_wp2
  go_loop [8] (fun i => i = .int .i64 0) (fun _ => 0)
  case atStart => rfl
  case round =>
    subst hrel
    go_wp2_with (go_at_call 42; refine (unhide CS).mono ?_; rintro e w' ⟨rfl, hb⟩)
    go_ret2
    exact ⟨rfl, hb⟩
theorem rune_any (bs : List UInt8) (b off cap : Nat) (w : World) (hT : Tabs w) (hn : 0 < bs.length) (hc : ∀ j u, bs[j]? = some u → w.cell? ⟨b, off + j, none⟩ = some (u8 u)) :
    Calls Tryd.prog 33 #[.slice (some ⟨b, off, none⟩) bs.length cap] w (Gives (dec bs.length (g bs 0) (g bs 1) (g bs 2) (g bs 3)) w) := by
  have hg : ∀ j, j < bs.length → w.cell? ⟨b, off + j, none⟩ = some (.int .u8 (g bs j : Int)) := fun j hj => by
    have h := List.getElem?_eq_getElem hj
    rw [g_of h]
    exact hc j _ h
  have hs0 : w.cell? ⟨b, off, none⟩ = some (.int .u8 (g bs 0 : Int)) := hg 0 hn
  by_cases ha : g bs 0 < 128
  · have e : dec bs.length (g bs 0) (g bs 1) (g bs 2) (g bs 3) = (g bs 0, 1) := by unfold dec decodeN; rw [if_pos ha]
    rw [e]
    exact rune_ascii bs.length b off cap (g bs 0) w (by omega) hs0 (by omega)
  · exact rune_on bs.length b off cap (g bs 0) w _ (by omega) hs0 (by omega)
      (slow_any bs.length _ _ _ _ b off cap w hT hn (g_lt _ _) (g_lt _ _) (g_lt _ _) (g_lt _ _) ha hs0 (hg 1) (hg 2) (hg 3))
end Go.Proofs.YtdeaaidbmneplaaDoor.Utf
