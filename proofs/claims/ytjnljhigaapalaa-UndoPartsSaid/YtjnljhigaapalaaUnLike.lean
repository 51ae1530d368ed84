/-
  The law's own 'same', walked: are two lists of ints the same? No conditions but that they lie in memory.
-/
import Derived.Test.YtjnljhigaapalaaUnSmall
import Derived.LoopTactic
import Derived.BigQuiet
import Derived.Deep.QuietTactic
set_option linter.unusedVariables false
set_option linter.unusedSimpArgs false
namespace Go.Proofs.Ytjnljhigaapalaa.Un
open Go.RowKit Go.Proofs.Ytjnljhigaapalaa.Mem
open Go.Proofs.Ytjnljhigaapalaa.Ev (CV ret_b take_step ne_at)
def SRel (l m : List Int) (w : World) (i : Value) (wr : World) : Prop := ∃ k : Nat, i = .int .i64 k ∧ k ≤ l.length ∧ l.take k = m.take k ∧ Below w.heap.size w wr
set_option maxRecDepth 100000 in
set_option maxHeartbeats 2000000 in
theorem like_any (l m : List Int) (A B : Option Addr) (ca cb : Nat) (w : World) (hA : CV l A ca w) (hB : CV m B cb w) :
    Calls Try.prog 15 #[.slice A l.length ca, .slice B m.length cb] w fun e w' => e = .returned (.bool (decide (l = m))) ∧ Below w.heap.size w w' := by
  have r1 := hA.room
  have r2 := hA.top
  have r3 := hB.room
  have r4 := hB.top
  by_cases hl : l.length = m.length
  · have HA := hide hA
    have HB := hide hB
    rw [← hl] at r3 ⊢
    have HL := hide hl
    obtain ⟨n, hn⟩ : ∃ n, l.length = n := ⟨_, rfl⟩
    rw [hn] at r1 r3 ⊢
    have HN := hide hn
    clear hA hB hl hn
    go_enter Try.func15, Try.ntmps15
    go_wp2
    go_loopw [13] (fun i wr => SRel l m w i wr) (fun i _ => n - (intOf i).toNat)
    case atStart => exact ⟨0, rfl, by omega, by simp, Below.refl _ _⟩
    case round =>
      obtain ⟨k, rfl, hk, hok, hb⟩ := hrel
      go_hideQ
      rw [unhide HN] at hk
      have HOK := hide hok
      have HBL := hide hb
      clear hok hb
      by_cases hlt : k < n
      · obtain ⟨x, hx⟩ : ∃ x, l[k]? = some x := ⟨_, List.getElem?_eq_getElem (by rw [unhide HN]; exact hlt)⟩
        obtain ⟨y, hy⟩ : ∃ y, m[k]? = some y := ⟨_, List.getElem?_eq_getElem (by rw [← unhide HL, unhide HN]; exact hlt)⟩
        obtain ⟨b1, o1, rfl, hb1, hc1⟩ := (unhide HA).reads.flat (by rw [unhide HN]; omega)
        obtain ⟨b2, o2, rfl, hb2, hc2⟩ := (unhide HB).reads.flat (by rw [← unhide HL, unhide HN]; omega)
        have d1 : wr.cell? ⟨b1, o1 + k, none⟩ = some (.int .i64 x) := ((unhide HBL).cell (p := ⟨b1, o1 + k, none⟩) hb1).trans (hc1 k _ (by rw [List.getElem?_map, hx]; rfl))
        have d2 : wr.cell? ⟨b2, o2 + k, none⟩ = some (.int .i64 y) := ((unhide HBL).cell (p := ⟨b2, o2 + k, none⟩) hb2).trans (hc2 k _ (by rw [List.getElem?_map, hy]; rfl))
        have hki : (k : Int) < (n : Int) := by omega
        have HX := hide hx
        have HY := hide hy
        clear hx hy hc1 hc2 hb1 hb2
        by_cases hxy : x = y
        · subst hxy
          have hR0 := take_step (unhide HOK) (unhide HX) (unhide HY)
          have HR0 := hide hR0
          clear hR0
          have d0 : (x != x) = false := by simp
          go_wp2_with fail
          go_quiet (fail)
          go_wp2_with fail
          have hR : SRel l m w (.int .i64 ((k : Int) + 1)) (wr.drewN nq) := ⟨k + 1, by go_num, by rw [unhide HN]; omega, unhide HR0, below_drewN (unhide HBL) _⟩
          have hme : n - (intOf (.int .i64 ((k : Int) + 1))).toNat < n - k := by simp [intOf]; omega
          first | exact ⟨hR, hme⟩ | exact ⟨⟨_, _, _, hR, rfl, rfl, rfl⟩, hme⟩ | (go_roundw; exact hR; exact hme)
        · have d0 : (x != y) = true := by simp [hxy]
          have HE := hide (ne_at (unhide HX) (unhide HY) hxy)
          clear hxy
          go_wp2_with fail
          go_quiet (fail)
          go_wp2_with fail
          go_ret
          exact ⟨ret_b (unhide HE).symm, below_drewN (unhide HBL) _⟩
      · obtain rfl : k = n := by omega
        have HE := hide (show decide (l = m) = true by
          rw [decide_eq_true_iff]
          have h1 := unhide HOK
          rw [List.take_of_length_le (by rw [unhide HN]; exact Nat.le_refl _), List.take_of_length_le (by rw [← unhide HL, unhide HN]; exact Nat.le_refl _)] at h1
          exact h1)
        go_wp2
        go_ret
        exact ⟨ret_b (unhide HE).symm, unhide HBL⟩
  · have HE := hide (show decide (l = m) = false by rw [decide_eq_false_iff_not]; rintro rfl; exact hl rfl)
    have d0 : ((l.length : Int) != (m.length : Int)) = true := by simp; omega
    generalize l.length = p at *
    generalize m.length = q at *
    clear hA hB hl
    go_enter Try.func15, Try.ntmps15
    go_wp2
    go_ret
    exact ⟨ret_b (unhide HE).symm, Below.refl _ _⟩
end Go.Proofs.Ytjnljhigaapalaa.Un
