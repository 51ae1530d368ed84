/-
  code.within, group, loop, ahead, way, around, bears, walked.
-/
import Derived.Test.YtiaelaepfhiabaaDoorRsMem
import Derived.Test.YtiaelaepfhiabaaDoorCoPure
import Derived.Laws.Tables
import Derived.IntWalk
import Derived.WalkHide
set_option linter.unusedVariables false
set_option linter.unusedSimpArgs false
namespace Go.Proofs.YtiaelaepfhiabaaDoor.Co
open Go.RowKit Go.Proofs.YtiaelaepfhiabaaDoor.Mem Go.Proofs.YtiaelaepfhiabaaDoor.Rs

/-- THE INSTRUCTIONS l LIE AT A -/
def Ins (w : World) (B : Nat) (A : Option Addr) (l : List In) : Prop := 0 < l.length → ∃ b off, A = some ⟨b, off, none⟩ ∧ b < B ∧ ∀ k i, l[k]? = some i →
  w.cell? ⟨b, off + k * 6, none⟩ = some (.int .i64 i.op) ∧ w.cell? ⟨b, off + k * 6 + 1, none⟩ = some (.int .i64 i.x) ∧ w.cell? ⟨b, off + k * 6 + 2, none⟩ = some (.int .i64 i.y) ∧
  w.cell? ⟨b, off + k * 6 + 3, none⟩ = some (.int .i64 i.z) ∧ w.cell? ⟨b, off + k * 6 + 4, none⟩ = some (.int .i64 i.nd) ∧ w.cell? ⟨b, off + k * 6 + 5, none⟩ = some (.int .i64 i.ph)
theorem Ins.keep {w w' : World} {B : Nat} {A : Option Addr} {l : List In} (h : Ins w B A l) (hk : ∀ p : Addr, p.block < B → w'.cell? p = w.cell? p) : Ins w' B A l := fun hn => by
  obtain ⟨b, off, e, hb, hc⟩ := h hn
  exact ⟨b, off, e, hb, fun k i hi => by
    obtain ⟨h0, h1, h2, h3, h4, h5⟩ := hc k i hi
    exact ⟨(hk ⟨b, _, none⟩ hb).trans h0, (hk ⟨b, _, none⟩ hb).trans h1, (hk ⟨b, _, none⟩ hb).trans h2, (hk ⟨b, _, none⟩ hb).trans h3, (hk ⟨b, _, none⟩ hb).trans h4, (hk ⟨b, _, none⟩ hb).trans h5⟩⟩
theorem Ins.below {w w' : World} {B : Nat} {A : Option Addr} {l : List In} (h : Ins w B A l) (hb : Below B w w') : Ins w' B A l := h.keep fun _ hp => hb.cell hp
theorem Ins.more {w : World} {B B' : Nat} {A : Option Addr} {l : List In} (h : Ins w B A l) (hB : B ≤ B') : Ins w B' A l := fun hn => by
  obtain ⟨b, off, e, hb, hc⟩ := h hn
  exact ⟨b, off, e, by omega, hc⟩
theorem getD_at {l : List In} {k : Nat} {i : In} (h : l[k]? = some i) : l.getD k default = i := by simp [List.getD, h]
attribute [local go_sem] run_not_true run_not_false

set_option maxHeartbeats 1000000 in
theorem within_any (x a b : Int) (w : World) : Calls Tryd.prog 21 #[.int .i64 x, .int .i64 a, .int .i64 b] w fun e w' => e = .returned (.bool (withinB x a b)) ∧ w' = w := by
  unfold withinB
  by_cases h1 : a ≤ x <;> by_cases h2 : x ≤ b
  all_goals
    go_enter Tryd.func21, Tryd.ntmps21
    go_wp2
    go_ret
    exact ⟨by simp [h1, h2], rfl⟩

set_option maxHeartbeats 1000000 in
theorem group_any (v1 v2 v3 : Value) (g x : Int) (w : World) : Calls Tryd.prog 42 #[.agg #[v1, v2, v3, .int .i64 g], .int .i64 x] w fun e w' => e = .returned (.bool (withinB x 1 g)) ∧ Below w.heap.size w w' := by
  go_enter Tryd.func42, Tryd.ntmps42
  go_wp2_with fail
  refine (within_any x 1 g _).mono ?_
  rintro e w1 ⟨rfl, rfl⟩
  go_wp2
  go_ret
  exact ⟨rfl, below_al (Below.refl _ _) (Nat.le_refl _) _⟩
end Go.Proofs.YtiaelaepfhiabaaDoor.Co
