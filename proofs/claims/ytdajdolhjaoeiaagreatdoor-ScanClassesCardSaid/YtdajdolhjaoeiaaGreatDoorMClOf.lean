/-
  The reference's Of, walked: whether a number is one of those of a letter behind a backslash. Condition: the letter is a byte.
-/
import Derived.Test.YtdajdolhjaoeiaaGreatDoorMClHas
import Derived.Test.YtdajdolhjaoeiaaGreatDoorMPuA
set_option linter.unusedVariables false
set_option linter.unusedSimpArgs false
namespace Go.Proofs.YtdajdolhjaoeiaaGreatDoor.Cl
open Go.RowKit Go.Proofs.YtdajdolhjaoeiaaGreatDoor.Mem

set_option maxRecDepth 100000 in
set_option maxHeartbeats 2000000 in
theorem of_d (x : Int) (w : World) : Calls Tryz.prog 72 #[.int .u8 100, .int .i64 x] w (H2 (ofP 100 x) w) := by
  have C := hide (has_any [100, 105, 103, 105, 116] x w)
  obtain ⟨p, hp⟩ : ∃ p, hasP [100, 105, 103, 105, 116] x = (p, true) := ⟨_, rfl⟩
  have hq : ofP 100 x = (p != false && wi x 0 1114367, true) := by
    show ((hasP [100, 105, 103, 105, 116] x).1 != false && wi x 0 1114367, true) = _
    rw [hp]
  rw [hp] at C
  have HQ := hide hq
  clear hp hq
  cases p
  all_goals
    go_enter Tryz.func72, Tryz.ntmps72
    go_wp2_with fail
    refine (unhide C).mono ?_
    rintro e w1 ⟨rfl, hb⟩
    have HB := hide hb
    clear hb C
    go_wp2_with (go_at_call 102; refine (within_any _ _ _ _).mono ?_; rintro e wq ⟨rfl, hq⟩; obtain rfl : _ = wq := hq.symm)
    go_ret2
    rw [unhide HQ]
    exact ⟨by simp, unhide HB⟩
set_option maxRecDepth 100000 in
set_option maxHeartbeats 2000000 in
theorem of_D (x : Int) (w : World) : Calls Tryz.prog 72 #[.int .u8 68, .int .i64 x] w (H2 (ofP 68 x) w) := by
  have C := hide (has_any [100, 105, 103, 105, 116] x w)
  obtain ⟨p, hp⟩ : ∃ p, hasP [100, 105, 103, 105, 116] x = (p, true) := ⟨_, rfl⟩
  have hq : ofP 68 x = (p != true && wi x 0 1114367, true) := by
    show ((hasP [100, 105, 103, 105, 116] x).1 != true && wi x 0 1114367, true) = _
    rw [hp]
  rw [hp] at C
  have HQ := hide hq
  clear hp hq
  cases p
  all_goals
    go_enter Tryz.func72, Tryz.ntmps72
    go_wp2_with fail
    refine (unhide C).mono ?_
    rintro e w1 ⟨rfl, hb⟩
    have HB := hide hb
    clear hb C
    go_wp2_with (go_at_call 102; refine (within_any _ _ _ _).mono ?_; rintro e wq ⟨rfl, hq⟩; obtain rfl : _ = wq := hq.symm)
    go_ret2
    rw [unhide HQ]
    exact ⟨by simp, unhide HB⟩
set_option maxRecDepth 100000 in
set_option maxHeartbeats 2000000 in
theorem of_w (x : Int) (w : World) : Calls Tryz.prog 72 #[.int .u8 119, .int .i64 x] w (H2 (ofP 119 x) w) := by
  have C := hide (has_any [119, 111, 114, 100] x w)
  obtain ⟨p, hp⟩ : ∃ p, hasP [119, 111, 114, 100] x = (p, true) := ⟨_, rfl⟩
  have hq : ofP 119 x = (p != false && wi x 0 1114367, true) := by
    show ((hasP [119, 111, 114, 100] x).1 != false && wi x 0 1114367, true) = _
    rw [hp]
  rw [hp] at C
  have HQ := hide hq
  clear hp hq
  cases p
  all_goals
    go_enter Tryz.func72, Tryz.ntmps72
    go_wp2_with fail
    refine (unhide C).mono ?_
    rintro e w1 ⟨rfl, hb⟩
    have HB := hide hb
    clear hb C
    go_wp2_with (go_at_call 102; refine (within_any _ _ _ _).mono ?_; rintro e wq ⟨rfl, hq⟩; obtain rfl : _ = wq := hq.symm)
    go_ret2
    rw [unhide HQ]
    exact ⟨by simp, unhide HB⟩
set_option maxRecDepth 100000 in
set_option maxHeartbeats 2000000 in
theorem of_W (x : Int) (w : World) : Calls Tryz.prog 72 #[.int .u8 87, .int .i64 x] w (H2 (ofP 87 x) w) := by
  have C := hide (has_any [119, 111, 114, 100] x w)
  obtain ⟨p, hp⟩ : ∃ p, hasP [119, 111, 114, 100] x = (p, true) := ⟨_, rfl⟩
  have hq : ofP 87 x = (p != true && wi x 0 1114367, true) := by
    show ((hasP [119, 111, 114, 100] x).1 != true && wi x 0 1114367, true) = _
    rw [hp]
  rw [hp] at C
  have HQ := hide hq
  clear hp hq
  cases p
  all_goals
    go_enter Tryz.func72, Tryz.ntmps72
    go_wp2_with fail
    refine (unhide C).mono ?_
    rintro e w1 ⟨rfl, hb⟩
    have HB := hide hb
    clear hb C
    go_wp2_with (go_at_call 102; refine (within_any _ _ _ _).mono ?_; rintro e wq ⟨rfl, hq⟩; obtain rfl : _ = wq := hq.symm)
    go_ret2
    rw [unhide HQ]
    exact ⟨by simp, unhide HB⟩
set_option maxRecDepth 100000 in
set_option maxHeartbeats 2000000 in
theorem of_s (x : Int) (w : World) : Calls Tryz.prog 72 #[.int .u8 115, .int .i64 x] w (H2 (ofP 115 x) w) := by
  have C := hide (has_any [115, 112, 97, 99, 101] x w)
  obtain ⟨p, hp⟩ : ∃ p, hasP [115, 112, 97, 99, 101] x = (p, true) := ⟨_, rfl⟩
  have hq : ofP 115 x = (p != false && wi x 0 1114367, true) := by
    show ((hasP [115, 112, 97, 99, 101] x).1 != false && wi x 0 1114367, true) = _
    rw [hp]
  rw [hp] at C
  have HQ := hide hq
  clear hp hq
  cases p
  all_goals
    go_enter Tryz.func72, Tryz.ntmps72
    go_wp2_with fail
    refine (unhide C).mono ?_
    rintro e w1 ⟨rfl, hb⟩
    have HB := hide hb
    clear hb C
    go_wp2_with (go_at_call 102; refine (within_any _ _ _ _).mono ?_; rintro e wq ⟨rfl, hq⟩; obtain rfl : _ = wq := hq.symm)
    go_ret2
    rw [unhide HQ]
    exact ⟨by simp, unhide HB⟩
set_option maxRecDepth 100000 in
set_option maxHeartbeats 2000000 in
theorem of_S (x : Int) (w : World) : Calls Tryz.prog 72 #[.int .u8 83, .int .i64 x] w (H2 (ofP 83 x) w) := by
  have C := hide (has_any [115, 112, 97, 99, 101] x w)
  obtain ⟨p, hp⟩ : ∃ p, hasP [115, 112, 97, 99, 101] x = (p, true) := ⟨_, rfl⟩
  have hq : ofP 83 x = (p != true && wi x 0 1114367, true) := by
    show ((hasP [115, 112, 97, 99, 101] x).1 != true && wi x 0 1114367, true) = _
    rw [hp]
  rw [hp] at C
  have HQ := hide hq
  clear hp hq
  cases p
  all_goals
    go_enter Tryz.func72, Tryz.ntmps72
    go_wp2_with fail
    refine (unhide C).mono ?_
    rintro e w1 ⟨rfl, hb⟩
    have HB := hide hb
    clear hb C
    go_wp2_with (go_at_call 102; refine (within_any _ _ _ _).mono ?_; rintro e wq ⟨rfl, hq⟩; obtain rfl : _ = wq := hq.symm)
    go_ret2
    rw [unhide HQ]
    exact ⟨by simp, unhide HB⟩
set_option maxRecDepth 100000 in
set_option maxHeartbeats 2000000 in
theorem of_no (c : Nat) (x : Int) (w : World) (h0 : ¬ c = 100) (h1 : ¬ c = 68) (h2 : ¬ c = 119) (h3 : ¬ c = 87) (h4 : ¬ c = 115) (h5 : ¬ c = 83) : Calls Tryz.prog 72 #[.int .u8 (c : Int), .int .i64 x] w (H2 (ofP c x) w) := by
  have C := hide (has_any [] x w)
  have hp : hasP [] x = (false, false) := rfl
  have hq : ofP c x = (false, false) := by unfold ofP nmOf; simp only [h0, h1, h2, h3, h4, h5, if_false]
  rw [hp] at C
  have HQ := hide hq
  have e0 : ((c : Int) == 100) = false := by rw [beq_eq_false_iff_ne]; omega
  have e1 : ((c : Int) == 68) = false := by rw [beq_eq_false_iff_ne]; omega
  have e2 : ((c : Int) == 119) = false := by rw [beq_eq_false_iff_ne]; omega
  have e3 : ((c : Int) == 87) = false := by rw [beq_eq_false_iff_ne]; omega
  have e4 : ((c : Int) == 115) = false := by rw [beq_eq_false_iff_ne]; omega
  have e5 : ((c : Int) == 83) = false := by rw [beq_eq_false_iff_ne]; omega
  clear hp hq h0 h1 h2 h3 h4 h5
  go_enter Tryz.func72, Tryz.ntmps72
  go_wp2_with fail
  refine (unhide C).mono ?_
  rintro e w1 ⟨rfl, hb⟩
  have HB := hide hb
  clear hb C
  go_wp2_with fail
  go_ret2
  rw [unhide HQ]
  exact ⟨rfl, unhide HB⟩
theorem of_any (c : Nat) (x : Int) (w : World) : Calls Tryz.prog 72 #[.int .u8 (c : Int), .int .i64 x] w (H2 (ofP c x) w) := by
  by_cases h0 : c = 100
  · subst h0; exact of_d x w
  by_cases h1 : c = 68
  · subst h1; exact of_D x w
  by_cases h2 : c = 119
  · subst h2; exact of_w x w
  by_cases h3 : c = 87
  · subst h3; exact of_W x w
  by_cases h4 : c = 115
  · subst h4; exact of_s x w
  by_cases h5 : c = 83
  · subst h5; exact of_S x w
  exact of_no c x w h0 h1 h2 h3 h4 h5
end Go.Proofs.YtdajdolhjaoeiaaGreatDoor.Cl
