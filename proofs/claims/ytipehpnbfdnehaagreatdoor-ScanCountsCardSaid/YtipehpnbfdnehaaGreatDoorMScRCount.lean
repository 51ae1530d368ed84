/-
  The reference's number and Count (clewref07), walked. Conditions: the bytes lie in memory.
-/
import Derived.Test.YtipehpnbfdnehaaGreatDoorMScRBlank
import Derived.Test.YtipehpnbfdnehaaGreatDoorMScC
set_option linter.unusedVariables false
set_option linter.unusedSimpArgs false
namespace Go.Proofs.YtipehpnbfdnehaaGreatDoor.Sc
open Go.RowKit Go.Proofs.YtipehpnbfdnehaaGreatDoor.Mem
open Go.Proofs.YtipehpnbfdnehaaGreatDoor.Sy (g g_of g_lt isS)

theorem build_z4 (w : World) : Sem.run Tryz.prog (Instr.build 45 #[]) w = .ok (.agg #[.int .i64 0, .int .i64 0, .int .i64 0, .int .i64 0]) w := run_build w 45 _ _ (by kernel_rfl)
theorem build_r4 (a b c d : Int) (w : World) : Sem.run Tryz.prog (Instr.build 45 #[(0, .int .i64 a), (1, .int .i64 b), (2, .int .i64 c), (3, .int .i64 d)]) w = .ok (.agg #[.int .i64 a, .int .i64 b, .int .i64 c, .int .i64 d]) w := run_build w 45 _ _ (by kernel_rfl)
attribute [local go_sem] build_z4 build_r4 Go.Proofs.YtipehpnbfdnehaaGreatDoor.Rs.run_not_true Go.Proofs.YtipehpnbfdnehaaGreatDoor.Rs.run_not_false

/-! ### number -/
def RDRel (bs : List UInt8) (k : Nat) (w : World) (i v : Value) (wr : World) : Prop :=
  ∃ m num : Nat, i = .int .i64 m ∧ v = .int .i64 num ∧ (m : Int) ≤ 9223372036854775807 ∧ num ≤ 1001 ∧ decF bs k 0 = decF bs m num ∧ wr = w
set_option maxRecDepth 100000 in
set_option maxHeartbeats 2000000 in
theorem rnumber_any (bs : List UInt8) (A : Option Addr) (cap k : Nat) (w : World) (hP : PV bs A cap w) (hk : (k : Int) ≤ 9223372036854775807) :
    Calls Tryz.prog 46 #[.slice A bs.length cap, .int .i64 (k : Int)] w fun e w' => e = .returned (.tuple #[.int .i64 ((decF bs k 0).1 : Int), .int .i64 ((decF bs k 0).2 : Int)]) ∧ w' = w := by
  have HP := hide hP
  have hroom := hP.room
  have htop := hP.top
  clear hP
  go_enter Tryz.func46, Tryz.ntmps46
  go_wp2_with fail
  go_loopw [1, 6] (fun i v wr => RDRel bs k w i v wr) (fun i _ _ => bs.length - (intOf i).toNat)
  case atStart => exact ⟨k, 0, rfl, rfl, hk, by omega, rfl, rfl⟩
  case round =>
    obtain ⟨m, num, rfl, rfl, hmb, hnum, hF, rfl⟩ := hrel
    go_hideQ
    have HF := hide hF
    have HM := hide hnum
    clear hF hnum
    have CT := hide (rat_nat bs A cap m wr (unhide HP))
    have HX := hide (rdigit_any (g bs m) wr)
    have HO := hide (show isD (g bs m) = true → decF bs k 0 = decF bs (m + 1) (min (10 * num + (g bs m - 48)) 1001) from fun h => by rw [unhide HF, decF_step num h])
    have HN := hide (show isD (g bs m) = false → decF bs k 0 = (num, m) from fun h => by rw [unhide HF, decF_stop num h])
    cases hp : isD (g bs m) with
    | false =>
      rw [hp] at HX
      have HR := hide ((unhide HN) hp)
      generalize g bs m = x at *
      clear hp HO HN HM HF
      go_wp2_with fail
      refine (unhide CT).mono ?_
      rintro e w1 ⟨rfl, hw1⟩
      obtain rfl : _ = w1 := hw1.symm
      go_wp2_with fail
      refine (unhide HX).mono ?_
      rintro e w2 ⟨rfl, hw2⟩
      obtain rfl : _ = w2 := hw2.symm
      go_wp2
      go_ret2
      exact ⟨by rw [unhide HR]; rfl, rfl⟩
    | true =>
      rw [hp] at HX
      have hin := g_in (bs := bs) (k := m) (by rw [isD_iff] at hp; omega)
      have hin' : (m : Int) < (bs.length : Int) := by omega
      obtain ⟨b, off, rfl, hb, hc⟩ := (unhide HP).cell hin
      have c1 := hc m hin
      generalize g bs m = x at *
      have hD := isD_iff.1 hp
      have hx0 : 48 ≤ (x : Int) := by omega
      have hx1 : (x : Int) ≤ 57 := by omega
      have hR : RDRel bs k wr (.int .i64 ((m : Int) + 1)) (.int .i64 (min (10 * (num : Int) + ((x : Int) - 48)) 1001)) wr :=
        ⟨m + 1, min (10 * num + (x - 48)) 1001, by push_cast; rfl, by rw [step_min hD.1], by omega, Nat.min_le_right _ _, (unhide HO) hp, rfl⟩
      have hnum := unhide HM
      have hq0 : 0 ≤ (num : Int) := by omega
      have hq1 : (num : Int) ≤ 1001 := by omega
      have HR := hide hR
      clear hR hD hp HO HN HM HF hnum hc
      by_cases hle : 10 * (num : Int) + ((x : Int) - 48) ≤ 1001
      · rw [Int.min_eq_left hle] at HR
        go_wp2_with fail
        refine (unhide CT).mono ?_
        rintro e w1 ⟨rfl, hw1⟩
        obtain rfl : _ = w1 := hw1.symm
        go_wp2_with fail
        refine (unhide HX).mono ?_
        rintro e w2 ⟨rfl, hw2⟩
        obtain rfl : _ = w2 := hw2.symm
        go_wp2
        have hR := unhide HR
        all_goals
          first
            | exact ⟨hR, by simp [intOf]; omega⟩
            | exact ⟨⟨_, hR, rfl⟩, by simp [intOf]; omega⟩
            | exact ⟨⟨_, _, hR, rfl, rfl⟩, by simp [intOf]; omega⟩
            | exact ⟨⟨_, _, _, hR, rfl, rfl, rfl⟩, by simp [intOf]; omega⟩
            | exact ⟨⟨_, _, _, _, hR, rfl, rfl, rfl, rfl⟩, by simp [intOf]; omega⟩
            | exact ⟨⟨_, _, _, _, _, hR, rfl, rfl, rfl, rfl, rfl⟩, by simp [intOf]; omega⟩
            | (go_roundw; (case rel => exact hR); (case measure => (simp [intOf]; omega)))
      · have hgt : 1001 < 10 * (num : Int) + ((x : Int) - 48) := by omega
        rw [Int.min_eq_right (by omega)] at HR
        clear hle
        go_wp2_with fail
        refine (unhide CT).mono ?_
        rintro e w1 ⟨rfl, hw1⟩
        obtain rfl : _ = w1 := hw1.symm
        go_wp2_with fail
        refine (unhide HX).mono ?_
        rintro e w2 ⟨rfl, hw2⟩
        obtain rfl : _ = w2 := hw2.symm
        go_wp2
        have hR := unhide HR
        all_goals
          first
            | exact ⟨hR, by simp [intOf]; omega⟩
            | exact ⟨⟨_, hR, rfl⟩, by simp [intOf]; omega⟩
            | exact ⟨⟨_, _, hR, rfl, rfl⟩, by simp [intOf]; omega⟩
            | exact ⟨⟨_, _, _, hR, rfl, rfl, rfl⟩, by simp [intOf]; omega⟩
            | exact ⟨⟨_, _, _, _, hR, rfl, rfl, rfl, rfl⟩, by simp [intOf]; omega⟩
            | exact ⟨⟨_, _, _, _, _, hR, rfl, rfl, rfl, rfl, rfl⟩, by simp [intOf]; omega⟩
            | (go_roundw; (case rel => exact hR); (case measure => (simp [intOf]; omega)))
end Go.Proofs.YtipehpnbfdnehaaGreatDoor.Sc
