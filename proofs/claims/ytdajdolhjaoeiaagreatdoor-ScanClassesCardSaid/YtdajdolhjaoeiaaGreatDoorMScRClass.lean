/-
  The reference's Class (clewref07), walked. Conditions: the bytes lie in memory, 4096 at most.
-/
import Derived.Test.YtdajdolhjaoeiaaGreatDoorMScRClass1
import Derived.Test.YtdajdolhjaoeiaaGreatDoorMScRClass2
set_option linter.unusedVariables false
set_option linter.unusedSimpArgs false
namespace Go.Proofs.YtdajdolhjaoeiaaGreatDoor.Sc
open Go.RowKit Go.Proofs.YtdajdolhjaoeiaaGreatDoor.Mem
open Go.Proofs.YtdajdolhjaoeiaaGreatDoor.Sy (g g_of g_lt isS at_)
open Go.Proofs.YtdajdolhjaoeiaaGreatDoor.Cl (isOf isName nameL)

attribute [local go_sem] build_r0 build_r3 build_pR build_p1 build_pp build_pi Go.Proofs.YtdajdolhjaoeiaaGreatDoor.Rs.run_not_true Go.Proofs.YtdajdolhjaoeiaaGreatDoor.Rs.run_not_false

/-- **the reference's Class** -/
theorem rclass_any (bs : List UInt8) (A : Option Addr) (cap : Nat) (i : Int) (w : World) (hP : PV bs A cap w) (hl : bs.length ≤ 4096) :
    Calls Tryz.prog 15 #[.slice A bs.length cap, .int .i64 i] w (GivesRK (clsz bs i) (notz bs i) w) := by
  by_cases h1 : gz bs i = 91
  · obtain ⟨k, rfl, hk, h2⟩ := gz_in (bs := bs) (i := i) (by omega)
    rw [h2] at h1
    have e : clsz bs (k : Int) = clsP bs k := by unfold clsz; rw [h2, if_pos h1, Int.toNat_natCast]
    rw [e]
    unfold notz
    rw [Int.toNat_natCast]
    by_cases h94 : g bs (k + 1) = 94
    · rw [decide_eq_true h94]
      exact rclass_not bs A cap k w hP hk hl h1 h94
    · rw [decide_eq_false h94]
      exact rclass_is bs A cap k w hP hk hl h1 h94
  · have e : clsz bs i = .error (10, 0) := by unfold clsz; rw [if_neg h1]
    rw [e]
    have C1 := hide (rat_any bs A cap i w hP)
    have e1 : ((gz bs i : Int) != 91) = true := by rw [bne_iff_ne]; omega
    have e1' : ¬ ((gz bs i : Int) = 91) := by omega
    clear h1 hP e
    generalize gz bs i = y at *
    go_enter Tryz.func15, Tryz.ntmps15
    go_wp2_with fail
    refine (unhide C1).mono ?_
    rintro e w1 ⟨rfl, rfl⟩
    go_wp2_with fail
    (try simp only [Exit.inBlock, Exit.then])
    exact bodyPost_ret (v := _) (by simp [results, Tryz.f15]) rfl ⟨rfl, Below.refl _ _⟩
end Go.Proofs.YtdajdolhjaoeiaaGreatDoor.Sc
