/-
  rset.Has, walked; the library's ContainsFunc by its contract.
-/
import Derived.Shelf.SlicesQ.IndexFunc
import Derived.Ground.SlgfProg
import Derived.Shelf.Lay
import Derived.Shelf.SlGeneric
import Derived.Test.YtdeaaidbmneplaaDoorMRsCut
import Derived.Shelf.SlSortCmp.NoneTotal
import Derived.Shelf.SlSortCmp.WholeK
import Derived.Shelf.SlicesG.Cmp
import Derived.Ground.SlsfProg
import Derived.Ground.SlgcProg
import Derived.Ground.NamesProg
import Derived.Deep.QuietTactic
import Derived.BigQuiet
import Derived.Laws.Slices
import Derived.Lib.Walk
set_option linter.unusedSimpArgs false
set_option linter.unusedVariables false
namespace Go.Proofs
shelf_lay_g SlLaysH0.n8 Slgf 8 at Tryd 38 as Tryd.hasRg
end Go.Proofs
namespace Go.Proofs.YtdeaaidbmneplaaDoor.Rs
open Go.Shelf Go.RowKit Go.Proofs.YtdeaaidbmneplaaDoor.Mem
def between (x : Int) (r : R) : Bool := decide (r.1 ≤ x) && decide (x ≤ r.2)
set_option maxHeartbeats 1000000 in
theorem has1 (x : Int) (r : R) (p : Nat) (W : World) (hp : p < W.heap.size) (hc : W.cell? ⟨p, 0, none⟩ = some (.int .i64 x)) :
    Calls Tryd.prog 39 #[.agg #[.int .i64 r.1, .int .i64 r.2], .pointer (some ⟨p, 0, none⟩)] W fun e w' => e = .returned (.bool (between x r)) ∧ Below W.heap.size W w' := by
  have c1 : (W.alloc (.cells #[.int .i64 r.1, .int .i64 r.2] 44)).cell? ⟨p, 0, none⟩ = some (.int .i64 x) := (World.cell?_alloc_lt W _ ⟨p, 0, none⟩ hp).trans hc
  clear hc
  unfold between
  by_cases h1 : r.1 ≤ x <;> by_cases h2 : x ≤ r.2
  all_goals
    go_enter Tryd.func39, Tryd.ntmps39
    go_wp2
    go_ret
    refine ⟨by simp [h1, h2], below_al (Below.refl _ _) (Nat.le_refl _) _⟩
set_option maxHeartbeats 1000000 in
theorem index_none (A : Option Addr) (cap : Nat) (fv : Value) (w : World) : Calls Tryd.prog 51 #[.slice A 0 cap, fv] w fun e w' => e = .returned (.int .i64 (-1)) ∧ w' = w := by
  go_enter Tryd.func51, Tryd.ntmps51
  go_wp2
  go_loop [8] (fun i => i = .int .i64 0) (fun _ => 0)
  case atStart => exact rfl
  case round =>
    obtain rfl := hrel
    go_wp2
    go_ret
    exact ⟨rfl, rfl⟩
set_option maxHeartbeats 1000000 in
theorem contains_none (A : Option Addr) (cap : Nat) (fv : Value) (w : World) : Calls Tryd.prog 38 #[.slice A 0 cap, fv] w fun e w' => e = .returned (.bool false) ∧ Below w.heap.size w w' := by
  go_enter Tryd.func38, Tryd.ntmps38
  go_wp2_with fail
  refine (index_none A cap fv w).mono ?_
  rintro e w1 ⟨rfl, rfl⟩
  go_wp2
  go_ret
  exact ⟨rfl, Below.refl _ _⟩
theorem contains_any (l : List R) (A : Option Addr) (cap p : Nat) (x : Int) (w : World) (hlen : l.length ≤ 8796093021952) (hp : p < w.heap.size) (hx : w.cell? ⟨p, 0, none⟩ = some (.int .i64 x)) (h : Lst w w.heap.size A l) :
    Calls Tryd.prog 38 #[.slice A l.length cap, .func (.func 39) #[] #[.pointer (some ⟨p, 0, none⟩)]] w fun e w' => e = .returned (.bool (l.any (between x))) ∧ Below w.heap.size w w' := by
  by_cases hn : l.length = 0
  · rw [List.eq_nil_of_length_eq_zero hn]; exact contains_none A cap _ w
  · obtain ⟨b, off, rfl, hb, hc⟩ := h (by omega)
    have eg : ∀ args w, (callFunc 39 args).run Tryd.prog w = .ok (.enter 39 args) w := enters_of Tryd.func39 (by kernel_rfl) rfl
    have hpb : PredBelow Tryd.prog 39 #[.pointer (some ⟨p, 0, none⟩)] (fun r : R => .agg (enc r).toArray) (between x) w := fun W r hW => has1 x r p W (Nat.lt_of_lt_of_le hp hW.size) ((hW.cell (p := ⟨p, 0, none⟩) hp).trans hx) |>.mono fun e w' h => ⟨h.1, hW.trans (h.2.mono hW.size)⟩
    have hcon := AnyQ.slices_ContainsFunc Tryd.hasRg 2 Tryd.isAgg44 Tryd.sizeOf44 enc (fun _ => rfl) (between x) 39 #[.pointer (some ⟨p, 0, none⟩)] eg b off l.length cap l w hpb (Nat.le_refl _) (by omega) hb (cells_get hc)
    change Calls Tryd.prog 38 _ _ _ at hcon
    rw [List.take_length] at hcon
    exact hcon
theorem any_between {l : List R} {x : Int} (h0 : 0 ≤ x) (h1 : x ≤ 1114367) : l.any (between x) = hasL l x := by
  unfold hasL
  congr 1
  funext r
  rw [Bool.eq_iff_iff]
  simp [between, inR]
  omega
theorem has_out {l : List R} {x : Int} (h : x < 0 ∨ 1114367 < x) : hasL l x = false := by
  unfold hasL
  rw [List.any_eq_false]
  intro r _
  simp [inR]
  omega
set_option maxHeartbeats 1000000 in
theorem has_any (l : List R) (x : Int) (A : Option Addr) (cap : Nat) (w : World) (hlen : l.length ≤ 8796093021952) (h : Lst w w.heap.size A l) :
    Calls Tryd.prog 28 #[.slice A l.length cap, .int .i64 x] w fun e w' => e = .returned (.bool (hasL l x)) ∧ Below w.heap.size w w' := by
  have hl : Lst (w.alloc (.cells #[.int .i64 x] 3)) (w.alloc (.cells #[.int .i64 x] 3)).heap.size A l := (h.below (below_al (Below.refl _ _) (Nat.le_refl _) _)).more (by simp)
  have HL := hide hl
  clear hl h
  have HC := hide (contains_any l A cap w.heap.size x (w.alloc (.cells #[.int .i64 x] 3)) hlen (by simp) (by rw [World.cell?_alloc_new]; rfl) (unhide HL))
  by_cases h0 : x < 0
  · rw [has_out (.inl h0)]
    go_enter Tryd.func28, Tryd.ntmps28
    go_wp2
    go_ret
    exact ⟨rfl, below_al (Below.refl _ _) (Nat.le_refl _) _⟩
  · by_cases h1 : 1114367 < x
    · rw [has_out (.inr h1)]
      go_enter Tryd.func28, Tryd.ntmps28
      go_wp2
      go_ret
      exact ⟨rfl, below_al (Below.refl _ _) (Nat.le_refl _) _⟩
    · rw [← any_between (by omega) (by omega)]
      go_enter Tryd.func28, Tryd.ntmps28
      go_wp2_with fail
      refine (unhide HC).mono ?_
      rintro e w1 ⟨rfl, hb⟩
      go_wp2
      go_ret
      exact ⟨rfl, (below_al (Below.refl _ _) (Nat.le_refl _) _).trans (hb.mono (by simp))⟩
end Go.Proofs.YtdeaaidbmneplaaDoor.Rs
