/-
  The reference's Has, walked.
-/
import Derived.Test.YtdeaaidbmneplaaDoorMRsMem
import Derived.IntWalk
import Derived.Lib.Walk
import Derived.Deep.QuietTactic
import Derived.BigQuiet
set_option linter.unusedSimpArgs false
set_option linter.unusedVariables false
namespace Go.Proofs.YtdeaaidbmneplaaDoor.Rs
open Go.RowKit Go.Proofs.YtdeaaidbmneplaaDoor.Mem
def HRel (l : List R) (x : Int) (w : World) (i : Value) (wr : World) : Prop := ∃ k : Nat, i = .int .i64 k ∧ k ≤ l.length ∧ hasL (l.take k) x = false ∧ wr = w
set_option maxHeartbeats 2000000 in
theorem refHas_any (l : List R) (x : Int) (A : Option Addr) (cap : Nat) (w : World) (hlen : l.length ≤ 1000000) (h : Lst w w.heap.size A l) :
    Calls Tryd.prog 19 #[.slice A l.length cap, .int .i64 x] w fun e w' => e = .returned (.bool (hasL l x)) ∧ w' = w := by
  have H := hide h
  clear h
  go_enter Tryd.func19, Tryd.ntmps19
  go_wp2
  go_loopw [5] (fun i wr => HRel l x w i wr) (fun i _ => l.length - (intOf i).toNat)
  case atStart => exact ⟨0, rfl, Nat.zero_le _, rfl, rfl⟩
  case round =>
    obtain ⟨k, rfl, hk, hno, rfl⟩ := hrel
    by_cases hlt : k < l.length
    · obtain ⟨b, off, rfl, hb, hc⟩ := (unhide H) (by omega)
      obtain ⟨r, hr⟩ : ∃ r, l[k]? = some r := ⟨_, List.getElem?_eq_getElem hlt⟩
      obtain ⟨c1, c2⟩ := hc k r hr
      have e : l[k] = r := by simpa [List.getElem?_eq_getElem hlt] using hr
      have htk : hasL (l.take (k + 1)) x = inR x r := by rw [List.take_succ_eq_append_getElem hlt, e, hasL_append, hno]; simp
      have hmem : inR x r = true → hasL l x = true := fun hi => by
        unfold hasL; rw [List.any_eq_true]; exact ⟨r, List.mem_of_getElem? hr, hi⟩
      have hlt' : (k : Int) < (l.length : Int) := by omega
      have HTK := hide htk
      have HM := hide hmem
      clear hc hr e htk hmem hno
      by_cases h0 : 0 ≤ x
      · by_cases h1 : x ≤ 1114367
        · by_cases h2 : r.1 ≤ x
          · by_cases h3 : x ≤ r.2
            · have HN := hide (show inR x r = true by simp [inR]; omega)
              go_wp2
              go_ret
              exact ⟨by rw [(unhide HM) (unhide HN)]; rfl, rfl⟩
            · have HN := hide (show inR x r = false by simp [inR]; omega)
              go_wp2
              go_roundw
              case rel => exact ⟨k + 1, by go_num, by omega, (unhide HTK).trans (unhide HN), rfl⟩
              case measure => simp [intOf]; omega
          · have HN := hide (show inR x r = false by simp [inR]; omega)
            go_wp2
            go_roundw
            case rel => exact ⟨k + 1, by go_num, by omega, (unhide HTK).trans (unhide HN), rfl⟩
            case measure => simp [intOf]; omega
        · have HN := hide (show inR x r = false by simp [inR]; omega)
          go_wp2
          go_roundw
          case rel => exact ⟨k + 1, by go_num, by omega, (unhide HTK).trans (unhide HN), rfl⟩
          case measure => simp [intOf]; omega
      · have HN := hide (show inR x r = false by simp [inR]; omega)
        go_wp2
        go_roundw
        case rel => exact ⟨k + 1, by go_num, by omega, (unhide HTK).trans (unhide HN), rfl⟩
        case measure => simp [intOf]; omega
    · obtain rfl : k = l.length := by omega
      rw [List.take_length] at hno
      have HNO := hide hno
      clear hno
      go_wp2
      go_ret
      exact ⟨by rw [unhide HNO]; rfl, rfl⟩
end Go.Proofs.YtdeaaidbmneplaaDoor.Rs
