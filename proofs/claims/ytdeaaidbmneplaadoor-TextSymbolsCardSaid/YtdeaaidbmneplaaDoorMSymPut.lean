/-
  AppendRune, sym.add, sym.Put and sym.Bytes, and the reference's Put, walked: the bytes of symbols, in new memo
-/
import Derived.Test.YtdeaaidbmneplaaDoorMSymApp
import Derived.LoopTactic
import Derived.Deep.DeepMust
set_option linter.unusedSimpArgs false
set_option linter.unusedVariables false
namespace Go.Proofs.YtdeaaidbmneplaaDoor.Put
open Go.RowKit Go.Proofs.YtdeaaidbmneplaaDoor.Sy Go.Proofs.YtdeaaidbmneplaaDoor.Mem
set_option maxHeartbeats 1000000 in
theorem rune_ascii (B n : Nat) (v : Value) (xs : List Value) (r : Int) (h0 : 0 ≤ r) (h1 : r ≤ 127) (w : World) (hown : w.ownsRow B 5 1 v n xs) (hlen : n ≤ 1099511627776) (hBw : B ≤ w.heap.size) :
    Calls Tryd.prog 45 #[v, .int .i32 r] w (Apps B n v xs [r] w) := by
  obtain ⟨i0, hi, hz0, hz1, hz2⟩ := info_parts info_byte
  have hmx : n + 1 ≤ maxLen := by unfold maxLen; omega
  go_enter Tryd.func45, Tryd.ntmps45
  go_wp2_with (at_builtin; refine wpList_append_own _ rfl _ _ 22 rfl B 5 i0 (.int .u8 0) 1 1 Tryd.underlying22 hi hz0 hz1 hz2 rfl (by decide) _ _ _ rfl (hown.alloc _) ⟨w.heap.size, 0, none⟩ 1 1 [.int .u8 r] rfl rfl news_at (by simp [Value.oneCell']) hmx (by omega) (by rw [World.size_alloc]; omega) ?_; intro v' w2 hown' hgrow _)
  go_ret
  exact ⟨_, rfl, hown', _, hgrow⟩
set_option maxHeartbeats 1000000 in
theorem rune_on (B n : Nat) (v : Value) (xs : List Value) (r : Int) (zs : List Int) (h0 : 128 ≤ r) (h1 : r ≤ 1114111) (w : World)
    (C : Hid (Calls Tryd.prog 56 #[v, .int .i32 r] w (Apps B n v xs zs w))) :
    Calls Tryd.prog 45 #[v, .int .i32 r] w (Apps B n v xs zs w) := by
  go_enter Tryd.func45, Tryd.ntmps45
  go_wp2_with fail
  refine (unhide C).mono ?_
  rintro e w1 ⟨v', rfl, h1, h2⟩
  have H1 := hide h1
  have H2 := hide h2
  clear h1 h2
  go_wp2
  go_ret
  exact ⟨_, rfl, unhide H1, unhide H2⟩
theorem rune_any (B n : Nat) (v : Value) (xs : List Value) (r : Int) (hs : isS r = true) (hr : r ≤ 1114111) (w : World) (hown : w.ownsRow B 5 1 v n xs) (hlen : n ≤ 1099511627776) (hBw : B ≤ w.heap.size) :
    Calls Tryd.prog 45 #[v, .int .i32 r] w (Apps B n v xs (encZ r) w) := by
  unfold isS at hs
  simp only [decide_eq_true_eq] at hs
  unfold encZ
  rw [if_neg (by omega)]
  by_cases g0 : r < 128
  · rw [if_pos g0]; exact rune_ascii B n v xs r (by omega) (by omega) w hown hlen hBw
  rw [if_neg g0]
  by_cases g1 : r < 2048
  · rw [if_pos g1]; exact rune_on B n v xs r _ (by omega) hr w (app_two B n v xs r (by omega) (by omega) w hown hlen hBw)
  rw [if_neg g1]
  by_cases g2 : r < 65536
  · rw [if_pos g2]
    by_cases g3 : r < 55296
    · exact rune_on B n v xs r _ (by omega) hr w (app_three_lo B n v xs r (by omega) (by omega) w hown hlen hBw)
    · exact rune_on B n v xs r _ (by omega) hr w (app_three_hi B n v xs r (by omega) (by omega) w hown hlen hBw)
  · rw [if_neg g2]; exact rune_on B n v xs r _ (by omega) hr w (app_four B n v xs r (by omega) (by omega) w hown hlen hBw)
set_option maxHeartbeats 1000000 in
theorem add_raw (B n : Nat) (v : Value) (xs : List Value) (x : Int) (h0 : 1114240 ≤ x) (h1 : x ≤ 1114367) (w : World) (hown : w.ownsRow B 5 1 v n xs) (hlen : n ≤ 1099511627776) (hBw : B ≤ w.heap.size) :
    Calls Tryd.prog 35 #[v, .int .i64 x] w (Apps B n v xs [x - 1114112] w) := by
  obtain ⟨i0, hi, hz0, hz1, hz2⟩ := info_parts info_byte
  have hmx : n + 1 ≤ maxLen := by unfold maxLen; omega
  go_enter Tryd.func35, Tryd.ntmps35
  go_wp2_with fail
  refine (Is.raw_f x w h0 h1).mono ?_
  rintro e w1 ⟨rfl, rfl⟩
  go_wp2_with (at_builtin; refine wpList_append_own _ rfl _ _ 22 rfl B 5 i0 (.int .u8 0) 1 1 Tryd.underlying22 hi hz0 hz1 hz2 rfl (by decide) _ _ _ rfl (hown.alloc _) ⟨w1.heap.size, 0, none⟩ 1 1 [.int .u8 (x - 1114112)] rfl rfl news_at (by simp [Value.oneCell']) hmx (by omega) (by rw [World.size_alloc]; omega) ?_; intro v' w2 hown' hgrow _)
  go_ret
  exact ⟨_, rfl, hown', _, hgrow⟩
set_option maxHeartbeats 1000000 in
theorem add_rune (B n : Nat) (v : Value) (xs : List Value) (x : Int) (zs : List Int) (h0 : 0 ≤ x) (h1 : x ≤ 1114111) (w : World)
    (C : Hid (Calls Tryd.prog 45 #[v, .int .i32 x] w (Apps B n v xs zs w))) :
    Calls Tryd.prog 35 #[v, .int .i64 x] w (Apps B n v xs zs w) := by
  have HR := hide (Is.raw_any x w)
  rw [show isRaw x = false from decide_eq_false (by omega)] at HR
  go_enter Tryd.func35, Tryd.ntmps35
  go_wp2_with fail
  refine (unhide HR).mono ?_
  rintro e w1 ⟨rfl, rfl⟩
  clear HR
  go_wp2_with fail
  refine (unhide C).mono ?_
  rintro e w2 ⟨v', rfl, h1, h2⟩
  have H1 := hide h1
  have H2 := hide h2
  clear h1 h2
  go_wp2
  go_ret
  exact ⟨_, rfl, unhide H1, unhide H2⟩
theorem add_any (B n : Nat) (v : Value) (xs : List Value) (x : Int) (hs : isS x = true) (w : World) (hown : w.ownsRow B 5 1 v n xs) (hlen : n ≤ 1099511627776) (hBw : B ≤ w.heap.size) :
    Calls Tryd.prog 35 #[v, .int .i64 x] w (Apps B n v xs (encZ x) w) := by
  have hs' := hs
  unfold isS at hs'
  simp only [decide_eq_true_eq] at hs'
  by_cases g0 : 1114112 ≤ x
  · have e : encZ x = [x - 1114112] := by unfold encZ; rw [if_pos g0]
    rw [e]
    exact add_raw B n v xs x (by omega) (by omega) w hown hlen hBw
  · exact add_rune B n v xs x _ (by omega) (by omega) w (rune_any B n v xs x hs (by omega) w hown hlen hBw)
def Row (zs : List Int) (w : World) (v : Value) (w' : World) : Prop := w'.ownsRow w.heap.size 5 1 v zs.length (zs.map (Value.int .u8)) ∧ Below w.heap.size w w'
end Go.Proofs.YtdeaaidbmneplaaDoor.Put
