/-
  The law SymParted, walked: true at any two slices of bytes. Conditions: the library's two tables hold what the program's text lays.
-/
import Derived.Test.YtbnjhopodhjdhaaDoorSymAnchor
import Derived.Test.YtbnjhopodhjdhaaDoorSymSame
import Derived.Test.YtbnjhopodhjdhaaDoorSymRefAll
import Derived.Test.YtbnjhopodhjdhaaDoorSymIs
import Derived.Test.YtbnjhopodhjdhaaDoorSymApp
import Derived.Test.YtbnjhopodhjdhaaDoorSymPart
set_option linter.unusedVariables false
set_option linter.unusedSimpArgs false
namespace Go.Proofs.YtbnjhopodhjdhaaDoor.LawParted
open Go.RowKit Go.Proofs.YtbnjhopodhjdhaaDoor.Sy Go.Proofs.YtbnjhopodhjdhaaDoor.Mem Go.Proofs.YtbnjhopodhjdhaaDoor.Utf Go.Proofs.YtbnjhopodhjdhaaDoor.Anchor

theorem one_u8 (bs : List UInt8) : ∀ u ∈ bs.map u8, u.oneCell' = true := by
  intro u hu
  obtain ⟨x, _, rfl⟩ := List.mem_map.1 hu
  rfl
theorem one_n64 (xs : List Nat) : ∀ u ∈ xs.map n64, u.oneCell' = true := by
  intro u hu
  obtain ⟨x, _, rfl⟩ := List.mem_map.1 hu
  rfl
theorem own_empty (w : World) (e : TypeId) : (w.alloc (.cells #[] e)).ownsRow w.heap.size e 1 (.slice (some ⟨w.heap.size, 0, none⟩) 0 0) 0 [] := by
  have h := World.ownsRow_lit (base := w.heap.size) (e := e) (size := 1) w #[] 0 (Nat.le_refl _) (by unfold maxLen; omega) (by simp)
  simpa using h
/-- One append more: only what the call has made has turned. -/
theorem below_app {w0 W W' : World} {e n : Nat} {v : Value} {xs : List Value} {t : Obj} (hB : Below w0.heap.size w0 W) (ho : W.ownsRow w0.heap.size e 1 v n xs) (hg : (W.alloc t).grownBy W' v.ownBlock) : Below w0.heap.size w0 W' :=
  (hB.alloc hB.size t).grown hg (by rw [World.size_alloc]; have := hB.size; omega) (All.own_base ho)
theorem below_app' {w0 W W' : World} {e n : Nat} {v : Value} {xs : List Value} (hB : Below w0.heap.size w0 W) (ho : W.ownsRow w0.heap.size e 1 v n xs) (hg : W.grownBy W' v.ownBlock) : Below w0.heap.size w0 W' :=
  hB.grown hg hB.size (All.own_base ho)

set_option maxHeartbeats 1000000 in
theorem walk_big1 (a0 a1 : Option Addr) (n0 cap0 n1 cap1 : Nat) (w : World) (hT : Tabs w) (h : 50000 < (n0 : Int)) :
    Calls Tryd.prog 9 #[.slice a0 n0 cap0, .slice a1 n1 cap1] w fun e w' => e = .returned (.bool true) ∧ Below w.heap.size w w' := by
  go_enter Tryd.func9, Tryd.ntmps9
  go_wp2_with fail
  refine (anchor_any w hT).mono ?_
  rintro e w1 ⟨rfl, hB⟩
  go_wp2
  go_ret
  exact ⟨rfl, hB⟩
set_option maxHeartbeats 1000000 in
theorem walk_big2 (a0 a1 : Option Addr) (n0 cap0 n1 cap1 : Nat) (w : World) (hT : Tabs w) (h : (n0 : Int) ≤ 50000) (h1 : 50000 < (n1 : Int)) :
    Calls Tryd.prog 9 #[.slice a0 n0 cap0, .slice a1 n1 cap1] w fun e w' => e = .returned (.bool true) ∧ Below w.heap.size w w' := by
  go_enter Tryd.func9, Tryd.ntmps9
  go_wp2_with fail
  refine (anchor_any w hT).mono ?_
  rintro e w1 ⟨rfl, hB⟩
  go_wp2
  go_ret
  exact ⟨rfl, hB⟩

set_option maxRecDepth 100000 in
set_option maxHeartbeats 2000000 in
theorem walk_small (a0 a1 : Option Addr) (cap0 cap1 : Nat) (ps bs : List UInt8) (w : World) (hT : Tabs w) (hl0 : ps.length ≤ cap0) (hm0 : cap0 ≤ 9223372036854775807) (hl1 : bs.length ≤ cap1) (hm1 : cap1 ≤ 9223372036854775807)
    (h0 : (ps.length : Int) ≤ 50000) (h1 : (bs.length : Int) ≤ 50000) (hr0 : Reads w w.heap.size 1 a0 ps.length (ps.map u8)) (hr1 : Reads w w.heap.size 1 a1 bs.length (bs.map u8)) :
    Calls Tryd.prog 9 #[.slice a0 ps.length cap0, .slice a1 bs.length cap1] w fun e w' => e = .returned (.bool true) ∧ Below w.heap.size w w' := by
  obtain ⟨i0, hi, hz0, hz1, hz2⟩ := info_parts Put.info_byte
  obtain ⟨j0, ji, jz0, jz1, jz2⟩ := info_parts All.info_int
  have HR0 := hide hr0
  have HR1 := hide hr1
  have HT := hide hT
  have hmx1 : 0 + ps.length ≤ maxLen := by unfold maxLen; omega
  have hmx2 : 0 + ps.length + 1 ≤ maxLen := by unfold maxLen; omega
  have hmx3 : 0 + ps.length + 1 + bs.length ≤ maxLen := by unfold maxLen; omega
  clear hr0 hr1 hT
  go_enter Tryd.func9, Tryd.ntmps9
  go_wp2_with fail
  refine (anchor_any w (unhide HT)).mono ?_
  rintro e w1 ⟨rfl, hB⟩
  have HB := hide hB
  have HA := hide (((unhide HR0).below (unhide HB)).lt)
  have HC := hide (((unhide HR1).below (unhide HB)).lt)
  have HT1 := hide ((unhide HT).below (unhide HB) (Nat.le_refl _))
  clear hB HR0 HR1 HT
  go_wp2_with (first | (at_builtin; refine wpList_append_any _ rfl (.tmp 16) (.tmp 17) 22 rfl w1.heap.size 5 i0 (.int .u8 0) 1 1 Tryd.underlying22 hi hz0 hz1 hz2 rfl (by decide) _ 0 [] rfl (own_empty w1 5) _ _ _ _ (ps.map u8) rfl ((unhide HA).alloc (Nat.le_refl _) _) (one_u8 ps) hmx1 (by omega) (by rw [World.size_alloc]; omega) ?_; intro v1 W1 ho1 hg1 hn1; have HB1 := hide (below_app' ((Below.refl _ _).alloc (Nat.le_refl _) _) (own_empty w1 5) hg1); have HO1 := hide ho1; have hs1 := (unhide HB1).size; clear ho1 hg1 hn1) | (at_builtin; refine wpList_append_any _ rfl (.tmp 18) (.tmp 19) 22 rfl w1.heap.size 5 i0 (.int .u8 0) 1 1 Tryd.underlying22 hi hz0 hz1 hz2 rfl (by decide) _ (0 + ps.length) ([] ++ ps.map u8) rfl ((unhide HO1).alloc _) _ _ _ _ [.int .u8 10] rfl (RefAll.reads_one _ _ _) (by simp [Value.oneCell']) hmx2 (by omega) (by rw [World.size_alloc]; omega) ?_; intro v2 W2 ho2 hg2 hn2; have HB2 := hide (below_app (unhide HB1) (unhide HO1) hg2); have HO2 := hide ho2; have hs2 := (unhide HB2).size; clear hg2 hn2) | (at_builtin; refine wpList_append_any _ rfl (.tmp 20) (.tmp 21) 22 rfl w1.heap.size 5 i0 (.int .u8 0) 1 1 Tryd.underlying22 hi hz0 hz1 hz2 rfl (by decide) _ (0 + ps.length + 1) _ rfl ho2 _ _ _ _ (bs.map u8) rfl ((unhide HC).below (unhide HB2)) (one_u8 bs) hmx3 (by omega) (by omega) ?_; intro v3 W3 ho3 hg3 hn3; have HB3 := hide (below_app' (unhide HB2) (unhide HO2) hg3); have HO3 := hide ho3; have hs3 := (unhide HB3).size; clear ho3 hg3 hn3))
  have hJ : W3.ownsRow w1.heap.size 5 1 v3 (ps ++ 10 :: bs).length ((ps ++ 10 :: bs).map u8) := by
    have e1 : (ps ++ 10 :: bs).length = 0 + ps.length + 1 + bs.length := by simp; omega
    have e2 : (ps ++ 10 :: bs).map u8 = ([] ++ ps.map u8 ++ [Value.int .u8 10]) ++ bs.map u8 := by simp
    rw [e1, e2]
    exact unhide HO3
  have hJl : (ps ++ 10 :: bs).length ≤ 200000 := by simp; omega
  obtain ⟨A3, c3, rfl, hc3, hm3, hrJ⟩ := own_slice hJ
  have HT3 := hide ((unhide HT1).below (unhide HB3) (Nat.le_refl _))
  have HA3 := hide (((unhide HA).below (unhide HB3)).lt)
  have HC3 := hide (((unhide HC).below (unhide HB3)).lt)
  have HBB := hide ((unhide HB).trans ((unhide HB3).mono (unhide HB).size))
  clear hJ ho2 HO1 HO2 HO3 HB1 HB2 HB3 HA HC HT1 HB hs1 hs2 hs3
  refine (All.all_any (ps ++ 10 :: bs) A3 c3 W3 (unhide HT3) (by omega) hc3 hm3 hrJ).mono ?_
  rintro e W4 ⟨l, rfl, hl, hB4⟩
  rw [syms_part] at hl
  have hXS : (syms ps ++ 10 :: syms bs).length = 0 + (syms ps).length + 1 + (syms bs).length := by simp; omega
  have hps := syms_len ps
  have hbs := syms_len bs
  obtain ⟨AL, cL, rfl, -, -, hrL⟩ := own_slice hl
  have HL := hide hrL
  have HT4 := hide ((unhide HT3).below hB4 (Nat.le_refl _))
  have HA4 := hide (((unhide HA3).below hB4).lt)
  have HC4 := hide (((unhide HC3).below hB4).lt)
  have HB4 := hide ((unhide HBB).trans (hB4.mono (unhide HBB).size))
  have HX := hide hXS
  clear hl hrL hB4 hrJ HT3 HA3 HC3 HBB hXS
  go_wp2_with fail
  have hBE : Below W4.heap.size W4 (W4.alloc (.cells #[] 3)) := (Below.refl _ _).alloc (Nat.le_refl _) _
  refine (All.all_any ps a0 cap0 _ ((unhide HT4).below hBE (Nat.le_refl _)) (by omega) hl0 hm0 (((unhide HA4).below hBE).lt)).mono ?_
  rintro e W5 ⟨y, rfl, hy, hB5⟩
  obtain ⟨A5, c5, rfl, -, -, hr5⟩ := own_slice hy
  have ho5 := (own_empty W4 3).kept (below_iff.1 hB5) (.inr (by simp [Value.ownBlock]))
  have HB5 := hide (hBE.trans (hB5.mono hBE.size))
  have hs5 := (unhide HB5).size
  have hmy1 : 0 + (syms ps).length ≤ maxLen := by unfold maxLen; omega
  have hmy2 : 0 + (syms ps).length + 1 ≤ maxLen := by unfold maxLen; omega
  have hmy3 : 0 + (syms ps).length + 1 + (syms bs).length ≤ maxLen := by unfold maxLen; omega
  clear hy hB5 hBE
  go_wp2_with (first | (at_builtin; refine wpList_append_any _ rfl (.tmp 25) (.tmp 27) 27 rfl W4.heap.size 3 j0 (.int .i64 0) 1 8 Tryd.underlying27 ji jz0 jz1 jz2 rfl (by decide) _ 0 [] rfl ho5 _ _ _ _ ((syms ps).map n64) rfl hr5 (one_n64 _) hmy1 (by omega) (by omega) ?_; intro v6 W6 ho6 hg6 hn6; have HB6 := hide (below_app' (unhide HB5) ho5 hg6); have hs6 := (unhide HB6).size; clear hg6 hn6) | (at_builtin; refine wpList_append_any _ rfl (.tmp 28) (.tmp 29) 27 rfl W4.heap.size 3 j0 (.int .i64 0) 1 8 Tryd.underlying27 ji jz0 jz1 jz2 rfl (by decide) _ (0 + (syms ps).length) _ rfl (ho6.alloc _) _ _ _ _ [Value.int .i64 10] rfl (RefAll.reads_one _ _ _) (by simp [Value.oneCell']) hmy2 (by omega) (by rw [World.size_alloc]; omega) ?_; intro v7 W7 ho7 hg7 hn7; have HB7 := hide (below_app (unhide HB6) ho6 hg7); have hs7 := (unhide HB7).size; clear hg7 hn7))
  refine (All.all_any bs a1 cap1 W7 ((unhide HT4).below (unhide HB7) (Nat.le_refl _)) (by omega) hl1 hm1 (((unhide HC4).below (unhide HB7)).lt)).mono ?_
  rintro e W8 ⟨z, rfl, hz, hB8⟩
  obtain ⟨A8, c8, rfl, -, -, hr8⟩ := own_slice hz
  have ho8 := ho7.kept (below_iff.1 hB8) (by
    rcases ho7.2 with ⟨rfl, _⟩ | ⟨g, cap, cur, rfl, _⟩
    · exact .inl rfl
    · exact .inr (by simp [Value.ownBlock]))
  have HB8 := hide ((unhide HB7).trans (hB8.mono (unhide HB7).size))
  have hs8 := (unhide HB8).size
  clear hz hB8 ho5 ho6 ho7 hr5
  go_wp2_with (first | (at_builtin; refine wpList_append_any _ rfl (.tmp 30) (.tmp 32) 27 rfl W4.heap.size 3 j0 (.int .i64 0) 1 8 Tryd.underlying27 ji jz0 jz1 jz2 rfl (by decide) _ (0 + (syms ps).length + 1) _ rfl ho8 _ _ _ _ ((syms bs).map n64) rfl hr8 (one_n64 _) hmy3 (by omega) (by omega) ?_; intro v9 W9 ho9 hg9 hn9; have HB9 := hide (below_app' (unhide HB8) ho8 hg9); clear hg9 hn9))
  have hF : W9.ownsRow W4.heap.size 3 1 v9 (syms ps ++ 10 :: syms bs).length ((syms ps ++ 10 :: syms bs).map n64) := by
    have e2 : (syms ps ++ 10 :: syms bs).map n64 = ([] ++ (syms ps).map n64 ++ [Value.int .i64 10]) ++ (syms bs).map n64 := by simp
    rw [unhide HX, e2]
    exact ho9
  obtain ⟨A9, c9, rfl, -, -, hr9⟩ := own_slice hF
  have hL9 := (unhide HL).below (unhide HB9)
  rw [show (syms ps).length + ((syms bs).length + 1) = (syms ps ++ 10 :: syms bs).length by simp]
  refine (Same.same_nat (syms ps ++ 10 :: syms bs) _ _ AL A9 cL c9 W9 (by rw [unhide HX]; omega) hL9 hr9).mono ?_
  rintro e W10 ⟨rfl, m, rfl⟩
  have HB10 := hide ((unhide HB4).trans ((unhide HB9).mono (unhide HB4).size))
  clear hF hr9 hL9 ho9 ho8 hr8
  go_wp2
  go_ret
  exact ⟨rfl, below_drewN (unhide HB10) m⟩

theorem walk (a0 : Option Addr) (cap0 : Nat) (bs0 : List UInt8) (a1 : Option Addr) (cap1 : Nat) (bs1 : List UInt8) (w : World) (hT : Tabs w) (hl0 : bs0.length ≤ cap0) (hm0 : cap0 ≤ 9223372036854775807) (h0 : Reads w w.heap.size 1 a0 bs0.length (bs0.map u8))
    (hl1 : bs1.length ≤ cap1) (hm1 : cap1 ≤ 9223372036854775807) (h1 : Reads w w.heap.size 1 a1 bs1.length (bs1.map u8)) :
    Calls Tryd.prog 9 #[.slice a0 bs0.length cap0, .slice a1 bs1.length cap1] w fun e w' => e = .returned (.bool true) ∧ Below w.heap.size w w' := by
  by_cases k0 : (50000 : Int) < (bs0.length : Int)
  · exact walk_big1 a0 a1 bs0.length cap0 bs1.length cap1 w hT k0
  · by_cases k1 : (50000 : Int) < (bs1.length : Int)
    · exact walk_big2 a0 a1 bs0.length cap0 bs1.length cap1 w hT (by omega) k1
    · exact walk_small a0 a1 cap0 cap1 bs0 bs1 w hT hl0 hm0 hl1 hm1 (by omega) (by omega) h0 h1
end Go.Proofs.YtbnjhopodhjdhaaDoor.LawParted
