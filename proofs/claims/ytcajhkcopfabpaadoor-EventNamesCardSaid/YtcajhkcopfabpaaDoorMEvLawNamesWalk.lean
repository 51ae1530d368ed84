/-
  EventNames, walked: true at any kind and any number of groups.
-/
import Derived.Test.YtcajhkcopfabpaaDoorMEvAnchor
set_option linter.unusedSimpArgs false
set_option linter.unusedVariables false
namespace Go.Proofs.YtcajhkcopfabpaaDoor.Ev
open Go.RowKit Go.Proofs.YtcajhkcopfabpaaDoor.Mem
abbrev namesA : Array Value := #[.string ⟨#[]⟩, .string ⟨#[98, 101, 103, 105, 110]⟩, .string ⟨#[115, 116, 101, 112]⟩, .string ⟨#[109, 105, 115, 115]⟩, .string ⟨#[104, 101, 108, 100]⟩, .string ⟨#[116, 117, 114, 110]⟩, .string ⟨#[102, 111, 114, 107]⟩, .string ⟨#[97, 103, 97, 105, 110]⟩, .string ⟨#[111, 112, 101, 110]⟩, .string ⟨#[99, 108, 111, 115, 101]⟩, .string ⟨#[105, 110, 116, 111]⟩, .string ⟨#[111, 117, 116]⟩, .string ⟨#[100, 114, 111, 112]⟩, .string ⟨#[109, 97, 116, 99, 104]⟩, .string ⟨#[110, 111, 110, 101]⟩]
theorem build_names (w : World) : Sem.run Tryd.prog (Instr.build 34 #[(0, .string ⟨#[]⟩), (1, .string ⟨#[98, 101, 103, 105, 110]⟩), (2, .string ⟨#[115, 116, 101, 112]⟩), (3, .string ⟨#[109, 105, 115, 115]⟩), (4, .string ⟨#[104, 101, 108, 100]⟩), (5, .string ⟨#[116, 117, 114, 110]⟩), (6, .string ⟨#[102, 111, 114, 107]⟩), (7, .string ⟨#[97, 103, 97, 105, 110]⟩), (8, .string ⟨#[111, 112, 101, 110]⟩), (9, .string ⟨#[99, 108, 111, 115, 101]⟩), (10, .string ⟨#[105, 110, 116, 111]⟩), (11, .string ⟨#[111, 117, 116]⟩), (12, .string ⟨#[100, 114, 111, 112]⟩), (13, .string ⟨#[109, 97, 116, 99, 104]⟩), (14, .string ⟨#[110, 111, 110, 101]⟩)]) w = .ok (.agg namesA) w := run_build w 34 _ _ (by kernel_rfl)
abbrev zerosA : Array Value := #[.string ⟨#[]⟩, .string ⟨#[]⟩, .string ⟨#[]⟩, .string ⟨#[]⟩, .string ⟨#[]⟩, .string ⟨#[]⟩, .string ⟨#[]⟩, .string ⟨#[]⟩, .string ⟨#[]⟩, .string ⟨#[]⟩, .string ⟨#[]⟩, .string ⟨#[]⟩, .string ⟨#[]⟩, .string ⟨#[]⟩, .string ⟨#[]⟩]
theorem zero_names : (∀ w, (zeroValue 34).run Tryd.prog w = .ok (.agg zerosA) w) ∧ (Tryd.prog.info? 34).map (·.size) = some 15 := zero_of_info (by kernel_rfl)
theorem namesA_at {k : Nat} (hk : k < 15) : namesA[k]? = some (str (nmF k)) := by
  match k, hk with
  | 0, _ => rfl
  | 1, _ => rfl
  | 2, _ => rfl
  | 3, _ => rfl
  | 4, _ => rfl
  | 5, _ => rfl
  | 6, _ => rfl
  | 7, _ => rfl
  | 8, _ => rfl
  | 9, _ => rfl
  | 10, _ => rfl
  | 11, _ => rfl
  | 12, _ => rfl
  | 13, _ => rfl
  | 14, _ => rfl
def NRel (n : Nat) (W : World) (i : Value) (wr : World) : Prop := ∃ k : Nat, i = .int .i64 k ∧ k ≤ n ∧ wr = W
section
attribute [local go_sem] run_not_true run_not_false build_names
set_option maxRecDepth 100000 in
set_option maxHeartbeats 4000000 in
theorem names_lo (k : Int) (g : Int) (w : World) (hN : Nm w) (h : k < 1) :
    Calls Tryd.prog 6 #[.int .i64 k, .int .i64 g] w fun e w' => e = .returned (.bool true) ∧ Below w.heap.size w w' := by
  have CA := hide (anchor_any w hN)
  have HNM := hide hN
  have h2 := zero_names.1
  have h3 := zero_state.1
  obtain ⟨M, hM⟩ : ∃ M : Int, max g 0 = M := ⟨_, rfl⟩
  obtain ⟨q, hq⟩ : ∃ q : Int, min M 99 = q := ⟨_, rfl⟩
  have hq0 : 0 ≤ q ∧ q ≤ 99 := by omega
  obtain ⟨n, hn⟩ : ∃ n : Nat, (n : Int) = 2 * (q + 1) := ⟨(2 * (q + 1)).toNat, by omega⟩
  have CB := hide (fun W => blank_any g n (by rw [hM, hq]; exact hn) W)
  have e1 : IntKind.i64.wrap (2 * q) = 2 * q := by rw [IntKind.wrap_i64]; omega
  have e2 : IntKind.i64.wrap (2 * q + 2) = (n : Int) := by rw [IntKind.wrap_i64]; omega
  have HZ := hide (show nameZ k = [] by unfold nameZ; rw [if_neg (by omega)])
  have hn2 : n ≤ 1000 := by omega
  clear hN hq0 hn
  go_enter Tryd.func6, Tryd.ntmps6
  go_wp2_with fail
  refine (unhide CA).mono ?_
  rintro e w1 ⟨rfl, hb1⟩
  have HN1 := hide ((unhide HNM).below hb1 (Nat.le_refl _))
  have HB1 := hide hb1
  clear CA HNM hb1
  go_wp2_with fail
  refine ((unhide CB) _).mono ?_
  rintro e w3 ⟨gb, rfl, hbk, hb3⟩
  have HB3 := hide ((unhide HB1).trans ((below_box w1 (.cells namesA 34)).trans (hb3.mono (by simp)) |>.mono (unhide HB1).size))
  have HB4 := hide ((unhide HB3).alloc (unhide HB3).size (.cells #[.int .i64 0, .int .i64 0, .int .i64 0, .int .i64 0, .int .i64 0, .int .i64 0, .int .i64 (-1), .slice (some ⟨gb, 0, none⟩) n n] 24))
  have HBK := hide (hbk.alloc (.cells #[.int .i64 0, .int .i64 0, .int .i64 0, .int .i64 0, .int .i64 0, .int .i64 0, .int .i64 (-1), .slice (some ⟨gb, 0, none⟩) n n] 24))
  have hb5 := (below_box w1 (.cells namesA 34)).trans (hb3.mono (by simp))
  have CN := hide (name_any k _ ((unhide HN1).below (hb5.alloc hb5.size (.cells #[.int .i64 0, .int .i64 0, .int .i64 0, .int .i64 0, .int .i64 0, .int .i64 0, .int .i64 (-1), .slice (some ⟨gb, 0, none⟩) n n] 24)) (Nat.le_refl _)))
  rw [unhide HZ] at CN
  clear CB hbk hb3 hb5 HB1 HN1 HB3
  go_wp2_with fail
  refine (unhide CN).mono ?_
  rintro e w4 ⟨rfl, rfl⟩
  clear CN
  go_wp2_with fail
  go_loopw [77] (fun i wr => NRel n (w3.alloc (.cells #[.int .i64 0, .int .i64 0, .int .i64 0, .int .i64 0, .int .i64 0, .int .i64 0, .int .i64 (-1), .slice (some ⟨gb, 0, none⟩) n n] 24)) i wr) (fun i _ => n - (intOf i).toNat)
  case atStart => exact ⟨0, rfl, by omega, rfl⟩
  case round =>
    obtain ⟨k, rfl, hk, rfl⟩ := hrel
    go_hideQ
    by_cases hlt : k < n
    · have d1 := ((unhide HBK).cell k).trans (intA_at hlt)
      have hki : (k : Int) < (n : Int) := by omega
      go_wp2_with fail
      have hR : NRel n (w3.alloc (.cells #[.int .i64 0, .int .i64 0, .int .i64 0, .int .i64 0, .int .i64 0, .int .i64 0, .int .i64 (-1), .slice (some ⟨gb, 0, none⟩) n n] 24)) (.int .i64 ((k : Int) + 1)) (w3.alloc (.cells #[.int .i64 0, .int .i64 0, .int .i64 0, .int .i64 0, .int .i64 0, .int .i64 0, .int .i64 (-1), .slice (some ⟨gb, 0, none⟩) n n] 24)) := ⟨k + 1, by go_num, by omega, rfl⟩
      have hme : n - (intOf (.int .i64 ((k : Int) + 1))).toNat < n - k := by simp [intOf]; omega
      first | exact ⟨hR, hme⟩ | exact ⟨⟨_, _, _, hR, rfl, rfl, rfl⟩, hme⟩ | (go_roundw; exact hR; exact hme)
    · obtain rfl : k = n := by omega
      go_wp2
      go_ret
      exact ⟨rfl, unhide HB4⟩
set_option maxRecDepth 100000 in
set_option maxHeartbeats 4000000 in
theorem names_hi (k : Int) (g : Int) (w : World) (hN : Nm w) (h : 14 < k) :
    Calls Tryd.prog 6 #[.int .i64 k, .int .i64 g] w fun e w' => e = .returned (.bool true) ∧ Below w.heap.size w w' := by
  have CA := hide (anchor_any w hN)
  have HNM := hide hN
  have h2 := zero_names.1
  have h3 := zero_state.1
  obtain ⟨M, hM⟩ : ∃ M : Int, max g 0 = M := ⟨_, rfl⟩
  obtain ⟨q, hq⟩ : ∃ q : Int, min M 99 = q := ⟨_, rfl⟩
  have hq0 : 0 ≤ q ∧ q ≤ 99 := by omega
  obtain ⟨n, hn⟩ : ∃ n : Nat, (n : Int) = 2 * (q + 1) := ⟨(2 * (q + 1)).toNat, by omega⟩
  have CB := hide (fun W => blank_any g n (by rw [hM, hq]; exact hn) W)
  have e1 : IntKind.i64.wrap (2 * q) = 2 * q := by rw [IntKind.wrap_i64]; omega
  have e2 : IntKind.i64.wrap (2 * q + 2) = (n : Int) := by rw [IntKind.wrap_i64]; omega
  have HZ := hide (show nameZ k = [] by unfold nameZ; rw [if_neg (by omega)])
  have d1 : decide (1 ≤ k) = true := by simp; omega
  have hn2 : n ≤ 1000 := by omega
  clear hN hq0 hn
  go_enter Tryd.func6, Tryd.ntmps6
  go_wp2_with fail
  refine (unhide CA).mono ?_
  rintro e w1 ⟨rfl, hb1⟩
  have HN1 := hide ((unhide HNM).below hb1 (Nat.le_refl _))
  have HB1 := hide hb1
  clear CA HNM hb1
  go_wp2_with fail
  refine ((unhide CB) _).mono ?_
  rintro e w3 ⟨gb, rfl, hbk, hb3⟩
  have HB3 := hide ((unhide HB1).trans ((below_box w1 (.cells namesA 34)).trans (hb3.mono (by simp)) |>.mono (unhide HB1).size))
  have HB4 := hide ((unhide HB3).alloc (unhide HB3).size (.cells #[.int .i64 0, .int .i64 0, .int .i64 0, .int .i64 0, .int .i64 0, .int .i64 0, .int .i64 (-1), .slice (some ⟨gb, 0, none⟩) n n] 24))
  have HBK := hide (hbk.alloc (.cells #[.int .i64 0, .int .i64 0, .int .i64 0, .int .i64 0, .int .i64 0, .int .i64 0, .int .i64 (-1), .slice (some ⟨gb, 0, none⟩) n n] 24))
  have hb5 := (below_box w1 (.cells namesA 34)).trans (hb3.mono (by simp))
  have CN := hide (name_any k _ ((unhide HN1).below (hb5.alloc hb5.size (.cells #[.int .i64 0, .int .i64 0, .int .i64 0, .int .i64 0, .int .i64 0, .int .i64 0, .int .i64 (-1), .slice (some ⟨gb, 0, none⟩) n n] 24)) (Nat.le_refl _)))
  rw [unhide HZ] at CN
  clear CB hbk hb3 hb5 HB1 HN1 HB3
  go_wp2_with fail
  refine (unhide CN).mono ?_
  rintro e w4 ⟨rfl, rfl⟩
  clear CN
  go_wp2_with fail
  go_loopw [77] (fun i wr => NRel n (w3.alloc (.cells #[.int .i64 0, .int .i64 0, .int .i64 0, .int .i64 0, .int .i64 0, .int .i64 0, .int .i64 (-1), .slice (some ⟨gb, 0, none⟩) n n] 24)) i wr) (fun i _ => n - (intOf i).toNat)
  case atStart => exact ⟨0, rfl, by omega, rfl⟩
  case round =>
    obtain ⟨k, rfl, hk, rfl⟩ := hrel
    go_hideQ
    by_cases hlt : k < n
    · have d1 := ((unhide HBK).cell k).trans (intA_at hlt)
      have hki : (k : Int) < (n : Int) := by omega
      go_wp2_with fail
      have hR : NRel n (w3.alloc (.cells #[.int .i64 0, .int .i64 0, .int .i64 0, .int .i64 0, .int .i64 0, .int .i64 0, .int .i64 (-1), .slice (some ⟨gb, 0, none⟩) n n] 24)) (.int .i64 ((k : Int) + 1)) (w3.alloc (.cells #[.int .i64 0, .int .i64 0, .int .i64 0, .int .i64 0, .int .i64 0, .int .i64 0, .int .i64 (-1), .slice (some ⟨gb, 0, none⟩) n n] 24)) := ⟨k + 1, by go_num, by omega, rfl⟩
      have hme : n - (intOf (.int .i64 ((k : Int) + 1))).toNat < n - k := by simp [intOf]; omega
      first | exact ⟨hR, hme⟩ | exact ⟨⟨_, _, _, hR, rfl, rfl, rfl⟩, hme⟩ | (go_roundw; exact hR; exact hme)
    · obtain rfl : k = n := by omega
      go_wp2
      go_ret
      exact ⟨rfl, unhide HB4⟩
set_option maxRecDepth 100000 in
set_option maxHeartbeats 4000000 in
theorem names_in (k : Nat) (g : Int) (w : World) (hN : Nm w) (h0 : 1 ≤ k) (h1 : k ≤ 14) :
    Calls Tryd.prog 6 #[.int .i64 (k : Int), .int .i64 g] w fun e w' => e = .returned (.bool true) ∧ Below w.heap.size w w' := by
  have CA := hide (anchor_any w hN)
  have HNM := hide hN
  have h2 := zero_names.1
  have h3 := zero_state.1
  obtain ⟨M, hM⟩ : ∃ M : Int, max g 0 = M := ⟨_, rfl⟩
  obtain ⟨q, hq⟩ : ∃ q : Int, min M 99 = q := ⟨_, rfl⟩
  have hq0 : 0 ≤ q ∧ q ≤ 99 := by omega
  obtain ⟨n, hn⟩ : ∃ n : Nat, (n : Int) = 2 * (q + 1) := ⟨(2 * (q + 1)).toNat, by omega⟩
  have CB := hide (fun W => blank_any g n (by rw [hM, hq]; exact hn) W)
  have e1 : IntKind.i64.wrap (2 * q) = 2 * q := by rw [IntKind.wrap_i64]; omega
  have e2 : IntKind.i64.wrap (2 * q + 2) = (n : Int) := by rw [IntKind.wrap_i64]; omega
  have HZ := hide (show nameZ (k : Int) = nmF k by unfold nameZ; rw [if_pos (by omega), Int.toNat_natCast])
  have d1 : (k : Int) < 15 := by omega
  have d2 : (1 : Int) ≤ (k : Int) := by omega
  have d3 : (k : Int) ≤ 14 := by omega
  have HK := hide (show k < 15 by omega)
  have hn2 : n ≤ 1000 := by omega
  clear hN hq0 hn
  go_enter Tryd.func6, Tryd.ntmps6
  go_wp2_with fail
  refine (unhide CA).mono ?_
  rintro e w1 ⟨rfl, hb1⟩
  have HN1 := hide ((unhide HNM).below hb1 (Nat.le_refl _))
  have HB1 := hide hb1
  clear CA HNM hb1
  have kc := ((Blk.new w1 34 namesA).cell k).trans (namesA_at (unhide HK))
  generalize nmF k = nm at *
  go_wp2_with fail
  refine ((unhide CB) _).mono ?_
  rintro e w3 ⟨gb, rfl, hbk, hb3⟩
  have HB3 := hide ((unhide HB1).trans ((below_box w1 (.cells namesA 34)).trans (hb3.mono (by simp)) |>.mono (unhide HB1).size))
  have HB4 := hide ((unhide HB3).alloc (unhide HB3).size (.cells #[.int .i64 0, .int .i64 0, .int .i64 0, .int .i64 0, .int .i64 0, .int .i64 0, .int .i64 (-1), .slice (some ⟨gb, 0, none⟩) n n] 24))
  have HBK := hide (hbk.alloc (.cells #[.int .i64 0, .int .i64 0, .int .i64 0, .int .i64 0, .int .i64 0, .int .i64 0, .int .i64 (-1), .slice (some ⟨gb, 0, none⟩) n n] 24))
  have hb5 := (below_box w1 (.cells namesA 34)).trans (hb3.mono (by simp))
  have CN := hide (name_any (k : Int) _ ((unhide HN1).below (hb5.alloc hb5.size (.cells #[.int .i64 0, .int .i64 0, .int .i64 0, .int .i64 0, .int .i64 0, .int .i64 0, .int .i64 (-1), .slice (some ⟨gb, 0, none⟩) n n] 24)) (Nat.le_refl _)))
  rw [unhide HZ] at CN
  clear CB hbk hb3 hb5 HB1 HN1 HB3
  go_wp2_with fail
  refine (unhide CN).mono ?_
  rintro e w4 ⟨rfl, rfl⟩
  clear CN
  go_wp2_with fail
  go_loopw [77] (fun i wr => NRel n (w3.alloc (.cells #[.int .i64 0, .int .i64 0, .int .i64 0, .int .i64 0, .int .i64 0, .int .i64 0, .int .i64 (-1), .slice (some ⟨gb, 0, none⟩) n n] 24)) i wr) (fun i _ => n - (intOf i).toNat)
  case atStart => exact ⟨0, rfl, by omega, rfl⟩
  case round =>
    obtain ⟨k, rfl, hk, rfl⟩ := hrel
    go_hideQ
    by_cases hlt : k < n
    · have d1 := ((unhide HBK).cell k).trans (intA_at hlt)
      have hki : (k : Int) < (n : Int) := by omega
      go_wp2_with fail
      have hR : NRel n (w3.alloc (.cells #[.int .i64 0, .int .i64 0, .int .i64 0, .int .i64 0, .int .i64 0, .int .i64 0, .int .i64 (-1), .slice (some ⟨gb, 0, none⟩) n n] 24)) (.int .i64 ((k : Int) + 1)) (w3.alloc (.cells #[.int .i64 0, .int .i64 0, .int .i64 0, .int .i64 0, .int .i64 0, .int .i64 0, .int .i64 (-1), .slice (some ⟨gb, 0, none⟩) n n] 24)) := ⟨k + 1, by go_num, by omega, rfl⟩
      have hme : n - (intOf (.int .i64 ((k : Int) + 1))).toNat < n - k := by simp [intOf]; omega
      first | exact ⟨hR, hme⟩ | exact ⟨⟨_, _, _, hR, rfl, rfl, rfl⟩, hme⟩ | (go_roundw; exact hR; exact hme)
    · obtain rfl : k = n := by omega
      go_wp2
      go_ret
      exact ⟨rfl, unhide HB4⟩
theorem walkNames (k g : Int) (w : World) (hN : Nm w) :
    Calls Tryd.prog 6 #[.int .i64 k, .int .i64 g] w fun e w' => e = .returned (.bool true) ∧ Below w.heap.size w w' := by
  by_cases h0 : k < 1
  · exact names_lo k g w hN h0
  · by_cases h1 : 14 < k
    · exact names_hi k g w hN h1
    · obtain ⟨n, rfl⟩ : ∃ n : Nat, k = (n : Int) := ⟨k.toNat, by omega⟩
      exact names_in n g w hN (by omega) (by omega)
end
end Go.Proofs.YtcajhkcopfabpaaDoor.Ev
