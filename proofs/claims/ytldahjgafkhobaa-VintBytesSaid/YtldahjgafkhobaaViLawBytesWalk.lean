/-
  The law VintBytes, walked: true at any number, any bytes ahead of its own and behind them. Conditions: the number is below 2^64; the bytes lie in memory.
-/
import Derived.Test.YtldahjgafkhobaaViLawGetsWalk
import Derived.Deep.RegionHeld3
set_option linter.unusedVariables false
set_option linter.unusedSimpArgs false
namespace Go.Proofs.Ytldahjgafkhobaa.Vi
open Go.RowKit Go.Proofs.Ytldahjgafkhobaa.Mem

theorem one_u8 (bs : List UInt8) : ∀ u ∈ bs.map u8, u.oneCell' = true := by
  intro u hu
  obtain ⟨x, _, rfl⟩ := List.mem_map.1 hu
  rfl
theorem own_empty (w : World) (e : TypeId) : (w.alloc (.cells #[] e)).ownsRow w.heap.size e 1 (.slice (some ⟨w.heap.size, 0, none⟩) 0 0) 0 [] := by
  have h := World.ownsRow_lit (base := w.heap.size) (e := e) (size := 1) w #[] 0 (Nat.le_refl _) (by unfold maxLen; omega) (by simp)
  simpa using h
theorem own_base {w : World} {base e size n : Nat} {v : Value} {xs : List Value} (h : w.ownsRow base e size v n xs) : ∀ k, v.ownBlock = some k → base ≤ k := by
  intro k hk
  rcases h.2 with ⟨rfl, _⟩ | ⟨g, cap, cur, rfl, hb, _, _⟩
  · simp [Value.ownBlock] at hk
  · obtain rfl : g = k := by simpa [Value.ownBlock] using hk
    exact hb
theorem below_app' {w0 W W' : World} {e n : Nat} {v : Value} {xs : List Value} (hB : Below w0.heap.size w0 W) (ho : W.ownsRow w0.heap.size e 1 v n xs) (hg : W.grownBy W' v.ownBlock) : Below w0.heap.size w0 W' :=
  hB.grown hg hB.size (own_base ho)

set_option maxHeartbeats 1000000 in
theorem bytes_big1 (n : Nat) (a0 a1 : Option Addr) (n0 cap0 n1 cap1 : Nat) (w : World) (h : 1000 < (n0 : Int)) :
    Calls Try.prog 3 #[.int .u64 n, .slice a0 n0 cap0, .slice a1 n1 cap1] w fun e w' => e = .returned (.bool true) ∧ Below w.heap.size w w' := by
  go_enter Try.func3, Try.ntmps3
  go_wp2_with fail
  refine (anchor_any w).mono ?_
  rintro e w1 ⟨rfl, hB⟩
  go_wp2
  go_ret
  exact ⟨rfl, hB⟩
set_option maxHeartbeats 1000000 in
theorem bytes_big2 (n : Nat) (a0 a1 : Option Addr) (n0 cap0 n1 cap1 : Nat) (w : World) (h : (n0 : Int) ≤ 1000) (h1 : 1000 < (n1 : Int)) :
    Calls Try.prog 3 #[.int .u64 n, .slice a0 n0 cap0, .slice a1 n1 cap1] w fun e w' => e = .returned (.bool true) ∧ Below w.heap.size w w' := by
  go_enter Try.func3, Try.ntmps3
  go_wp2_with fail
  refine (anchor_any w).mono ?_
  rintro e w1 ⟨rfl, hB⟩
  go_wp2
  go_ret
  exact ⟨rfl, hB⟩

theorem s_of {n : Nat} {k c : Nat} {A : Option Addr} {w W : World} (hk : (enc n).length = k) (hr : Reads W W.heap.size 1 A k ((enc n).map u8)) (hB : Below w.heap.size w W) :
    (convert 23 9 (.slice A k c)).run Try.prog W = .ok (.string ⟨(enc n).toArray⟩) W ∧ Hid (Reads W W.heap.size 1 A k ((enc n).map u8)) ∧ Hid (Below w.heap.size w W) :=
  ⟨Str.conv_str (enc n) _ k c A W hk hr, hr, hB⟩

set_option maxRecDepth 100000 in
set_option maxHeartbeats 4000000 in
theorem bytes_small (n : Nat) (hn : (n : Int) ≤ 18446744073709551615) (a0 a1 : Option Addr) (cap0 cap1 : Nat) (ps bs : List UInt8) (w : World)
    (h0 : (ps.length : Int) ≤ 1000) (h1 : (bs.length : Int) ≤ 1000) (hr0 : Reads w w.heap.size 1 a0 ps.length (ps.map u8)) (hr1 : Reads w w.heap.size 1 a1 bs.length (bs.map u8)) :
    Calls Try.prog 3 #[.int .u64 n, .slice a0 ps.length cap0, .slice a1 bs.length cap1] w fun e w' => e = .returned (.bool true) ∧ Below w.heap.size w w' := by
  obtain ⟨i0, hi, hz0, hz1, hz2⟩ := info_parts info_byte
  have HR0 := hide hr0
  have HR1 := hide hr1
  have hl10 : (enc n).length ≤ 10 := enc_ten (by omega)
  have HG := hide (get_enc n (by omega) ps bs)
  have HREF := hide (fun W => refBytes_any n n W (Nat.le_refl _) hn)
  have HOWN := hide (fun W => bytes_any n hn W)
  obtain ⟨k, hk⟩ : ∃ k, (enc n).length = k := ⟨_, rfl⟩
  have HK := hide hk
  rw [hk] at hl10
  have hmx1 : 0 + ps.length ≤ maxLen := by unfold maxLen; omega
  have hmx2 : 0 + ps.length + k ≤ maxLen := by unfold maxLen; omega
  have hmx3 : 0 + ps.length + k + bs.length ≤ maxLen := by unfold maxLen; omega
  clear hr0 hr1 hk
  go_enter Try.func3, Try.ntmps3
  go_wp2_with fail
  refine (anchor_any w).mono ?_
  rintro e w1 ⟨rfl, hB⟩
  have HB := hide hB
  have HA := hide (((unhide HR0).below (unhide HB)).lt)
  have HC := hide (((unhide HR1).below (unhide HB)).lt)
  clear hB HR0 HR1
  go_wp2_with fail
  refine (unhide HOWN w1).mono ?_
  rintro e w2 ⟨v, rfl, hv⟩
  obtain ⟨A, c, rfl, -, -, hrv⟩ := own_slice hv.1
  rw [unhide HK] at hrv ⊢
  have HV := hide hrv
  have HA2 := hide (((unhide HA).below hv.2).lt)
  have HC2 := hide (((unhide HC).below hv.2).lt)
  have HB2 := hide ((unhide HB).trans (hv.2.mono (unhide HB).size))
  clear hv hrv HA HC HB HOWN
  go_wp2_with (first | (at_builtin; refine wpList_append_any _ rfl (.tmp 24) (.tmp 25) 23 rfl w2.heap.size 5 i0 (.int .u8 0) 1 1 Try.underlying23 hi hz0 hz1 hz2 rfl (by decide) _ 0 [] rfl (own_empty w2 5) _ _ _ _ (ps.map u8) rfl ((unhide HA2).alloc (Nat.le_refl _) _) (one_u8 ps) hmx1 (by omega) (by rw [World.size_alloc]; omega) ?_; intro v1 W1 ho1 hg1 hn1; have HB3 := hide (below_app' ((Below.refl _ _).alloc (Nat.le_refl _) _) (own_empty w2 5) hg1); have HO1 := hide ho1; have hs1 := (unhide HB3).size; clear ho1 hg1 hn1) | (at_builtin; refine wpList_append_any _ rfl (.tmp 26) (.tmp 27) 23 rfl w2.heap.size 5 i0 (.int .u8 0) 1 1 Try.underlying23 hi hz0 hz1 hz2 rfl (by decide) _ (0 + ps.length) ([] ++ ps.map u8) rfl (unhide HO1) _ _ _ _ ((enc n).map u8) rfl ((unhide HV).below (unhide HB3)) (one_u8 (enc n)) hmx2 (by omega) (by omega) ?_; intro v2 W2 ho2 hg2 hn2; have HB4 := hide (below_app' (unhide HB3) (unhide HO1) hg2); have HO2 := hide ho2; have hs2 := (unhide HB4).size; clear ho2 hg2 hn2) | (at_builtin; refine wpList_append_any _ rfl (.tmp 28) (.tmp 29) 23 rfl w2.heap.size 5 i0 (.int .u8 0) 1 1 Try.underlying23 hi hz0 hz1 hz2 rfl (by decide) _ (0 + ps.length + k) _ rfl (unhide HO2) _ _ _ _ (bs.map u8) rfl ((unhide HC2).below (unhide HB4)) (one_u8 bs) hmx3 (by omega) (by omega) ?_; intro v3 W3 ho3 hg3 hn3; have HB5 := hide (below_app' (unhide HB4) (unhide HO2) hg3); have HO3 := hide ho3; have hs3 := (unhide HB5).size; clear ho3 hg3 hn3))
  have hJ : W3.ownsRow w2.heap.size 5 1 v3 (ps ++ enc n ++ bs).length ((ps ++ enc n ++ bs).map u8) := by
    have e1 : (ps ++ enc n ++ bs).length = 0 + ps.length + k + bs.length := by rw [List.length_append, List.length_append, unhide HK]; omega
    have e2 : (ps ++ enc n ++ bs).map u8 = ([] ++ ps.map u8 ++ (enc n).map u8) ++ bs.map u8 := by simp
    rw [e1, e2]
    exact unhide HO3
  have hJl : ((ps ++ enc n ++ bs).length : Int) ≤ 9223372036854775807 := by rw [List.length_append, List.length_append, unhide HK]; omega
  obtain ⟨A3, c3, rfl, hc3, hm3, hrJ⟩ := own_slice hJ
  have HV3 := hide (((unhide HV).below (unhide HB5)).lt)
  have HBB := hide ((unhide HB2).trans ((unhide HB5).mono (unhide HB2).size))
  clear hJ HO1 HO2 HO3 HB3 HB4 HB5 HB2 HV HA2 HC2 hs1 hs2 hs3
  refine (get_any (ps ++ enc n ++ bs) A3 c3 _ ps.length W3 hJl hrJ).mono ?_
  rintro e W4 ⟨rfl, rfl⟩
  rw [unhide HG, unhide HK]
  clear hJl hrJ HG
  go_wp2_with fail
  refine wp_region_noPanic ?_
  refine wp_region_held_drew (S := (fun W => (convert 23 9 (.slice A k c)).run Try.prog W = .ok (.string ⟨(enc n).toArray⟩) W ∧ Hid (Reads W W.heap.size 1 A k ((enc n).map u8)) ∧ Hid (Below w.heap.size w W))) (by kernel_rfl) (s_of (unhide HK) (unhide HV3).drew (unhide HBB).drew) (fun hHeld => ?_)
  refine wpAnyH_take (i := 0) (oi := { dst := some 37, op := _, type := _, pos := _, after := _, guard := _ }) (v := ?v0) rfl (by kernel_rfl) (by kernel_rfl) (by kernel_rfl) (fun _ _ _ h => h) (Or.inl ⟨by rfl, ?y0⟩) hHeld ?r0
  case y0 => (intro w hSw; (try dsimp only at hSw); go_simp; try with_reducible rfl)
  try simp only [Act.put, List.setIfInBounds_toArray, List.set_cons_zero, List.set_cons_succ]
  refine wpAnyH_take (i := 1) (oi := { dst := some 38, op := _, type := _, pos := _, after := _, guard := _ }) (v := ?v1) rfl (by kernel_rfl) (by kernel_rfl) (by kernel_rfl) (fun _ _ _ h => h) (Or.inl ⟨by rfl, ?y1⟩) hHeld ?r1
  case y1 => (intro w hSw; (try dsimp only at hSw); go_simp; try with_reducible rfl)
  try simp only [Act.put, List.setIfInBounds_toArray, List.set_cons_zero, List.set_cons_succ]
  refine wpAnyH_take (i := 2) (oi := { dst := some 39, op := _, type := _, pos := _, after := _, guard := _ }) (v := ?v2) rfl (by kernel_rfl) (by kernel_rfl) (by kernel_rfl) (fun _ _ _ h => h) (Or.inl ⟨by rfl, ?y2⟩) hHeld ?r2
  case y2 => (intro w hSw; (try dsimp only at hSw); go_simp; try with_reducible rfl)
  try simp only [Act.put, List.setIfInBounds_toArray, List.set_cons_zero, List.set_cons_succ]
  refine wpAnyH_ready (rs := [3]) (by kernel_rfl) (by simp) ?_
  refine AllReadyH.cons (o := { dst := some 40, op := _, type := _, pos := _, after := _, guard := _ }) rfl (fun K hK => ?_) AllReadyH.nil
  go_simp
  refine (unhide HREF _).mono ?_
  rintro e w5 ⟨v, rfl, hv⟩
  have HV5 := hide (((unhide HV3).drew.below hv.2).lt)
  have HB5 := hide ((unhide HBB).drew.trans (hv.2.mono (unhide HBB).drew.size))
  obtain ⟨A5, c5, rfl, -, -, hr5⟩ := own_slice hv.1
  rw [unhide HK] at hr5 ⊢
  have hcv2 := Str.conv_str (enc n) _ k c5 A5 w5 (unhide HK) hr5
  clear hr5 hv
  go_wp2_with fail
  refine hK.out _ _ (s_of (unhide HK) (unhide HV5) (unhide HB5)) (fun hHeld2 => ?_)
  clear hK K
  try simp only [Act.put, List.setIfInBounds_toArray, List.set_cons_zero, List.set_cons_succ]
  refine wpAnyH_ready (rs := [4]) (by kernel_rfl) (by simp) ?_
  refine AllReadyH.cons (o := { dst := some 41, op := _, type := _, pos := _, after := _, guard := _ }) rfl (fun K hK => ?_) AllReadyH.nil
  go_simp
  refine hK.out _ _ hHeld2 (fun hHeld3 => ?_)
  clear hK K
  try simp only [Act.put, List.setIfInBounds_toArray, List.set_cons_zero, List.set_cons_succ]
  refine wpAnyH_take (i := 5) (oi := { dst := some 42, op := _, type := _, pos := _, after := _, guard := _ }) (v := ?v5) rfl (by kernel_rfl) (by kernel_rfl) (by kernel_rfl) (fun _ _ _ h => h) (Or.inl ⟨by rfl, ?y5⟩) hHeld3 ?r5
  case y5 => (intro w hSw; (try dsimp only at hSw); go_simp; try with_reducible rfl)
  try simp only [Act.put, List.setIfInBounds_toArray, List.set_cons_zero, List.set_cons_succ]
  refine wpAnyH_take (i := 6) (oi := { dst := some 43, op := _, type := _, pos := _, after := _, guard := _ }) (v := ?v6) rfl (by kernel_rfl) (by kernel_rfl) (by kernel_rfl) (fun _ _ _ h => h) (Or.inl ⟨by rfl, ?y6⟩) hHeld3 ?r6
  case y6 => (intro w hSw; (try dsimp only at hSw); go_simp; try with_reducible rfl)
  try simp only [Act.put, List.setIfInBounds_toArray, List.set_cons_zero, List.set_cons_succ]
  refine wpAnyH_take (i := 7) (oi := { dst := some 44, op := _, type := _, pos := _, after := _, guard := _ }) (v := ?v7) rfl (by kernel_rfl) (by kernel_rfl) (by kernel_rfl) (fun _ _ _ h => h) (Or.inl ⟨by rfl, ?y7⟩) hHeld3 ?r7
  case y7 => (intro w hSw; (try dsimp only at hSw); go_simp; try with_reducible rfl)
  try simp only [Act.put, List.setIfInBounds_toArray, List.set_cons_zero, List.set_cons_succ]
  refine wpAnyH_take (i := 8) (oi := { dst := some 45, op := _, type := _, pos := _, after := _, guard := _ }) (v := ?v8) rfl (by kernel_rfl) (by kernel_rfl) (by kernel_rfl) (fun _ _ _ h => h) (Or.inl ⟨by rfl, ?y8⟩) hHeld3 ?r8
  case y8 => (intro w hSw; (try dsimp only at hSw); go_simp; try with_reducible rfl)
  try simp only [Act.put, List.setIfInBounds_toArray, List.set_cons_zero, List.set_cons_succ]
  refine wpAnyH_take (i := 9) (oi := { dst := some 46, op := _, type := _, pos := _, after := _, guard := _ }) (v := ?v9) rfl (by kernel_rfl) (by kernel_rfl) (by kernel_rfl) (fun _ _ _ h => h) (Or.inl ⟨by rfl, ?y9⟩) hHeld3 ?r9
  case y9 => (intro w hSw; (try dsimp only at hSw); go_simp; try with_reducible rfl)
  try simp only [Act.put, List.setIfInBounds_toArray, List.set_cons_zero, List.set_cons_succ]
  refine wpAnyH_take (i := 10) (oi := { dst := some 47, op := _, type := _, pos := _, after := _, guard := _ }) (v := ?v10) rfl (by kernel_rfl) (by kernel_rfl) (by kernel_rfl) (fun _ _ _ h => h) (Or.inl ⟨by rfl, ?y10⟩) hHeld3 ?r10
  case y10 => (intro w hSw; (try dsimp only at hSw); go_simp; try with_reducible rfl)
  try simp only [Act.put, List.setIfInBounds_toArray, List.set_cons_zero, List.set_cons_succ]
  refine wpAnyH_take (i := 11) (oi := { dst := some 48, op := _, type := _, pos := _, after := _, guard := _ }) (v := ?v11) rfl (by kernel_rfl) (by kernel_rfl) (by kernel_rfl) (fun _ _ _ h => h) (Or.inl ⟨by rfl, ?y11⟩) hHeld3 ?r11
  case y11 => (intro w hSw; (try dsimp only at hSw); go_simp; try with_reducible rfl)
  try simp only [Act.put, List.setIfInBounds_toArray, List.set_cons_zero, List.set_cons_succ]
  refine wpAnyH_take (i := 12) (oi := { dst := some 49, op := _, type := _, pos := _, after := _, guard := _ }) (v := ?v12) rfl (by kernel_rfl) (by kernel_rfl) (by kernel_rfl) (fun _ _ _ h => h) (Or.inl ⟨by rfl, ?y12⟩) hHeld3 ?r12
  case y12 => (intro w hSw; (try dsimp only at hSw); go_simp; try with_reducible rfl)
  try simp only [Act.put, List.setIfInBounds_toArray, List.set_cons_zero, List.set_cons_succ]
  refine wpAnyH_take (i := 13) (oi := { dst := some 50, op := _, type := _, pos := _, after := _, guard := _ }) (v := ?v13) rfl (by kernel_rfl) (by kernel_rfl) (by kernel_rfl) (fun _ _ _ h => h) (Or.inl ⟨by rfl, ?y13⟩) hHeld3 ?r13
  case y13 => (intro w hSw; (try dsimp only at hSw); go_simp; try with_reducible rfl)
  try simp only [Act.put, List.setIfInBounds_toArray, List.set_cons_zero, List.set_cons_succ]
  refine wpAnyH_take (i := 14) (oi := { dst := some 51, op := _, type := _, pos := _, after := _, guard := _ }) (v := ?v14) rfl (by kernel_rfl) (by kernel_rfl) (by kernel_rfl) (fun _ _ _ h => h) (Or.inl ⟨by rfl, ?y14⟩) hHeld3 ?r14
  case y14 => (intro w hSw; (try dsimp only at hSw); go_simp; try with_reducible rfl)
  try simp only [Act.put, List.setIfInBounds_toArray, List.set_cons_zero, List.set_cons_succ]
  refine wpAnyH_take (i := 15) (oi := { dst := some 52, op := _, type := _, pos := _, after := _, guard := _ }) (v := ?v15) rfl (by kernel_rfl) (by kernel_rfl) (by kernel_rfl) (fun _ _ _ h => h) (Or.inl ⟨by rfl, ?y15⟩) hHeld3 ?r15
  case y15 => (intro w hSw; (try dsimp only at hSw); go_simp; try with_reducible rfl)
  try simp only [Act.put, List.setIfInBounds_toArray, List.set_cons_zero, List.set_cons_succ]
  refine wpAnyH_take (i := 16) (oi := { dst := some 53, op := _, type := _, pos := _, after := _, guard := _ }) (v := ?v16) rfl (by kernel_rfl) (by kernel_rfl) (by kernel_rfl) (fun _ _ _ h => h) (Or.inl ⟨by rfl, ?y16⟩) hHeld3 ?r16
  case y16 => (intro w hSw; (try dsimp only at hSw); go_simp; try with_reducible rfl)
  try simp only [Act.put, List.setIfInBounds_toArray, List.set_cons_zero, List.set_cons_succ]
  refine wpAnyH_take (i := 17) (oi := { dst := some 54, op := _, type := _, pos := _, after := _, guard := _ }) (v := ?v17) rfl (by kernel_rfl) (by kernel_rfl) (by kernel_rfl) (fun _ _ _ h => h) (Or.inl ⟨by rfl, ?y17⟩) hHeld3 ?r17
  case y17 => (intro w hSw; (try dsimp only at hSw); go_simp; try with_reducible rfl)
  try simp only [Act.put, List.setIfInBounds_toArray, List.set_cons_zero, List.set_cons_succ]
  refine wpAnyH_take (i := 18) (oi := { dst := some 55, op := _, type := _, pos := _, after := _, guard := _ }) (v := ?v18) rfl (by kernel_rfl) (by kernel_rfl) (by kernel_rfl) (fun _ _ _ h => h) (Or.inl ⟨by rfl, ?y18⟩) hHeld3 ?r18
  case y18 => (intro w hSw; (try dsimp only at hSw); go_simp; try with_reducible rfl)
  try simp only [Act.put, List.setIfInBounds_toArray, List.set_cons_zero, List.set_cons_succ]
  refine wpAnyH_take (i := 19) (oi := { dst := some 56, op := _, type := _, pos := _, after := _, guard := _ }) (v := ?v19) rfl (by kernel_rfl) (by kernel_rfl) (by kernel_rfl) (fun _ _ _ h => h) (Or.inl ⟨by rfl, ?y19⟩) hHeld3 ?r19
  case y19 => (intro w hSw; (try dsimp only at hSw); go_simp; try with_reducible rfl)
  try simp only [Act.put, List.setIfInBounds_toArray, List.set_cons_zero, List.set_cons_succ]
  refine wpAnyH_take (i := 20) (oi := { dst := some 57, op := _, type := _, pos := _, after := _, guard := _ }) (v := ?v20) rfl (by kernel_rfl) (by kernel_rfl) (by kernel_rfl) (fun _ _ _ h => h) (Or.inl ⟨by rfl, ?y20⟩) hHeld3 ?r20
  case y20 => (intro w hSw; (try dsimp only at hSw); go_simp; try with_reducible rfl)
  try simp only [Act.put, List.setIfInBounds_toArray, List.set_cons_zero, List.set_cons_succ]
  refine wpAnyH_take (i := 21) (oi := { dst := some 6, op := _, type := _, pos := _, after := _, guard := _ }) (v := ?v21) rfl (by kernel_rfl) (by kernel_rfl) (by kernel_rfl) (fun _ _ _ h => h) (Or.inl ⟨by rfl, ?y21⟩) hHeld3 ?r21
  case y21 => (intro w hSw; (try dsimp only at hSw); go_simp; try with_reducible rfl)
  try simp only [Act.put, List.setIfInBounds_toArray, List.set_cons_zero, List.set_cons_succ]
  refine wpAnyH_done (by kernel_rfl) ?_ _
  refine NoPanic.normal ?_
  go_wp2
  go_ret
  exact ⟨rfl, unhide HB5⟩

theorem walkBytes (n : Nat) (ps : List UInt8) (a0 : Option Addr) (cap0 : Nat) (bs : List UInt8) (a1 : Option Addr) (cap1 : Nat) (w : World) (hn : (n : Int) ≤ 18446744073709551615) (hl0 : ps.length ≤ cap0) (hm0 : cap0 ≤ 9223372036854775807) (hr0 : Reads w w.heap.size 1 a0 ps.length (ps.map u8)) (hl1 : bs.length ≤ cap1) (hm1 : cap1 ≤ 9223372036854775807) (hr1 : Reads w w.heap.size 1 a1 bs.length (bs.map u8)) :
    Calls Try.prog 3 #[.int .u64 n, .slice a0 ps.length cap0, .slice a1 bs.length cap1] w fun e w' => e = .returned (.bool true) ∧ Below w.heap.size w w' := by
  by_cases h0 : 1000 < (ps.length : Int)
  · exact bytes_big1 n a0 a1 ps.length cap0 bs.length cap1 w h0
  · by_cases h1 : 1000 < (bs.length : Int)
    · exact bytes_big2 n a0 a1 ps.length cap0 bs.length cap1 w (by omega) h1
    · exact bytes_small n hn a0 a1 cap0 cap1 ps bs w (by omega) (by omega) hr0 hr1
end Go.Proofs.Ytldahjgafkhobaa.Vi
