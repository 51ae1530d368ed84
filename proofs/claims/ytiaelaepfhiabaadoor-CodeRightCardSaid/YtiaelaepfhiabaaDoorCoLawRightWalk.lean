/-
  CodeRight, walked. Conditions: the two tables; the program lies in memory; the sets' lower ends are ints.
-/
import Derived.Test.YtiaelaepfhiabaaDoorCoAnchor
import Derived.Test.YtiaelaepfhiabaaDoorCoOfWalk
import Derived.Test.YtiaelaepfhiabaaDoorCoRRight
import Derived.Deep.RegionWith
set_option linter.unusedVariables false
set_option linter.unusedSimpArgs false
namespace Go.Proofs.YtiaelaepfhiabaaDoor.Co
open Go.RowKit Go.Proofs.YtiaelaepfhiabaaDoor.Mem Go.Proofs.YtiaelaepfhiabaaDoor.Rs
attribute [local go_sem] run_not_true run_not_false eql_boolR
/-- the program's own box, and all that came in, stand -/
def Bw (w : World) (cells : Array Value) (W : World) : Prop := Below w.heap.size w W ∧ Blk W w.heap.size 26 cells
theorem Bw.drew {w W : World} {cells : Array Value} (h : Bw w cells W) : Bw w cells W.drew := ⟨h.1.drew, h.2⟩
theorem Bw.on {w W W' : World} {cells : Array Value} (h : Bw w cells W) (hb : Below W.heap.size W W') : Bw w cells W' := ⟨h.1.trans (hb.mono h.1.size), h.2.below hb h.2.lt⟩
theorem Bw.cells4 {w W : World} {a b c d : Value} (h : Bw w #[a, b, c, d] W) : W.cell? ⟨w.heap.size, 0, none⟩ = some a ∧ W.cell? ⟨w.heap.size, 1, none⟩ = some b ∧ W.cell? ⟨w.heap.size, 2, none⟩ = some c ∧ W.cell? ⟨w.heap.size, 3, none⟩ = some d := ⟨h.2.cell 0, h.2.cell 1, h.2.cell 2, h.2.cell 3⟩
theorem bool_for (p : Prop) : ∃ q : Bool, q = true ↔ p := by
  by_cases h : p
  · exact ⟨true, by simp [h]⟩
  · exact ⟨false, by simp [h]⟩
theorem bool_is {p : Prop} {q b : Bool} (h : q = true ↔ p) (hb : b = true ↔ p) : q = b := by
  cases q <;> cases b <;> simp_all
set_option maxRecDepth 100000 in
set_option maxHeartbeats 4000000 in
theorem walkRight (l : List In) (ss : List (List R)) (kk : List Cn) (As Al A : Option Addr) (c cs ck : Nat) (g : Int) (w : World) (hl : (l.length : Int) ≤ 9000000000000000000) (hint : ∀ s ∈ ss, ∀ r ∈ s, -9223372036854775808 ≤ r.1 ∧ r.1 ≤ 9223372036854775807) (h : Pv w w.heap.size l ss kk A As Al) (hT : Tb w) :
    Calls Tryd.prog 3 #[.agg #[.slice A l.length c, .slice As ss.length cs, .slice Al kk.length ck, .int .i64 g]] w fun e w' => e = .returned (.bool true) ∧ Below w.heap.size w w' := by
  have b0 : Below w.heap.size w (w.alloc (.cells #[.slice A l.length c, .slice As ss.length cs, .slice Al kk.length ck, .int .i64 g] 26)) := below_al (Below.refl _ _) (Nat.le_refl _) _
  have HA := hide (anchor_any _ (hT.below b0))
  have HP := hide h
  have HB0 := hide b0
  have HN := hide hint
  clear h hT b0 hint
  go_enter Tryd.func3, Tryd.ntmps3
  go_wp2_with fail
  refine (unhide HA).mono ?_
  rintro e w1 ⟨rfl, hb1⟩
  have HB1 := hide hb1
  obtain ⟨x0, x1, x2, x3⟩ := box4 hb1
  clear hb1
  by_cases hbig : 300 < (l.length : Int)
  · have dbig : decide (300 < (l.length : Int)) = true := decide_eq_true hbig
    go_wp2_with fail
    go_ret
    exact ⟨rfl, (unhide HB0).trans ((unhide HB1).mono (unhide HB0).size)⟩
  by_cases hbs : 50 < (ss.length : Int)
  · have dbig : decide (300 < (l.length : Int)) = false := decide_eq_false hbig
    have dbs : decide (50 < (ss.length : Int)) = true := decide_eq_true hbs
    go_wp2_with fail
    go_ret
    exact ⟨rfl, (unhide HB0).trans ((unhide HB1).mono (unhide HB0).size)⟩
  by_cases hbk : 50 < (kk.length : Int)
  · have dbig : decide (300 < (l.length : Int)) = false := decide_eq_false hbig
    have dbs : decide (50 < (ss.length : Int)) = false := decide_eq_false hbs
    have dbk : decide (50 < (kk.length : Int)) = true := decide_eq_true hbk
    go_wp2_with fail
    go_ret
    exact ⟨rfl, (unhide HB0).trans ((unhide HB1).mono (unhide HB0).size)⟩
  · have dbig : decide (300 < (l.length : Int)) = false := decide_eq_false hbig
    have dbs : decide (50 < (ss.length : Int)) = false := decide_eq_false hbs
    have dbk : decide (50 < (kk.length : Int)) = false := decide_eq_false hbk
    have hs1 : l.length ≤ 1000 := by omega
    have hs2 : ss.length ≤ 1000 := by omega
    have hs3 : kk.length ≤ 1000 := by omega
    obtain ⟨b, hb⟩ := bool_for (RightP l ss kk g)
    have CP := hide (fun W (h : Bw w #[.slice A l.length c, .slice As ss.length cs, .slice Al kk.length ck, .int .i64 g] W) => (cright_any l ss kk As Al A c cs ck g W hs1 (((unhide HP).below h.1).more h.1.size)).mono (R' := fun e w' => e = .returned (.bool b) ∧ Bw w #[.slice A l.length c, .slice As ss.length cs, .slice Al kk.length ck, .int .i64 g] w') (fun e w' h2 => by obtain ⟨q, rfl, hq, hb2⟩ := h2; exact ⟨by rw [bool_is hq hb], h.on hb2⟩))
    have CO := hide (fun W (h : Bw w #[.slice A l.length c, .slice As ss.length cs, .slice Al kk.length ck, .int .i64 g] W) => (of_any l ss kk As Al A c cs ck g W hs1 hs2 hs3 (((unhide HP).below h.1).more h.1.size)).mono (R' := fun e w' => ∃ A2 As2 Al2 c2 cs2 ck2, e = .returned (.agg #[.slice A2 l.length c2, .slice As2 ss.length cs2, .slice Al2 kk.length ck2, .int .i64 g]) ∧ Pv w' w'.heap.size l ss kk A2 As2 Al2 ∧ Bw w #[.slice A l.length c, .slice As ss.length cs, .slice Al kk.length ck, .int .i64 g] w') (fun e w' h2 => by obtain ⟨A2, As2, Al2, c2, cs2, ck2, rfl, hp, hb2⟩ := h2; exact ⟨A2, As2, Al2, c2, cs2, ck2, rfl, hp, h.on hb2⟩))
    have CQ := hide (fun W A2 As2 Al2 c2 cs2 ck2 (hp : Pv W W.heap.size l ss kk A2 As2 Al2) (h : Bw w #[.slice A l.length c, .slice As ss.length cs, .slice Al kk.length ck, .int .i64 g] W) => (rright_any l ss kk As2 Al2 A2 c2 cs2 ck2 g W hs1 hs2 hs3 (unhide HN) hp).mono (R' := fun e w' => e = .returned (.bool b) ∧ Bw w #[.slice A l.length c, .slice As ss.length cs, .slice Al kk.length ck, .int .i64 g] w') (fun e w' h2 => by obtain ⟨q, rfl, hq, hb2⟩ := h2; exact ⟨by rw [bool_is hq hb], h.on hb2⟩))
    have HW1 := hide (show Bw w #[.slice A l.length c, .slice As ss.length cs, .slice Al kk.length ck, .int .i64 g] w1 from ⟨(unhide HB0).trans ((unhide HB1).mono (unhide HB0).size), (Blk.new w 26 #[.slice A l.length c, .slice As ss.length cs, .slice Al kk.length ck, .int .i64 g]).below (unhide HB1) (by simp)⟩)
    have hbb : (b == b) = true := by simp
    clear hs1 hs2 hs3 hb hbig hbs hbk
    go_wp2_with fail
    go_region_with (first
      | (go_at_call 7; refine ((unhide CP) _ (by first | exact unhide HW1 | exact (unhide HW1).drew)).mono ?_; rintro e w2 ⟨rfl, hB⟩; have HW2 := hide hB; obtain ⟨y0, y1, y2, y3⟩ := hB.cells4; clear hB)
      | (go_at_call 9; refine ((unhide CO) _ (by exact unhide HW2)).mono ?_; rintro e w3 ⟨A2, As2, Al2, c2, cs2, ck2, rfl, hp3, hB⟩; have HW3 := hide (And.intro hp3 hB); clear hp3 hB)
      | (go_at_call 8; refine ((unhide CQ) _ _ _ _ _ _ _ (unhide HW3).1 (unhide HW3).2).mono ?_; rintro e w4 ⟨rfl, hB⟩; have HW4 := hide hB; clear hB))
    all_goals
      go_wp2_with fail
      go_ret
      exact ⟨rfl, (unhide HW4).1⟩
end Go.Proofs.YtiaelaepfhiabaaDoor.Co
