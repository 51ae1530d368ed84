/-
  rset.Right, walked; the library's Equal by its contract.
-/
import Derived.Shelf.SlicesQ.Equal
import Derived.Ground.SlgqProg
import Derived.Shelf.Lay
import Derived.Shelf.SlGeneric
import Derived.Test.YtiaelaepfhiabaaDoorRsMake
import Derived.Test.YtiaelaepfhiabaaDoorRsEq
set_option linter.unusedVariables false
set_option linter.unusedSimpArgs false
namespace Go.Proofs
shelf_lay_g SlLaysQ.n8 Slgq 8 at Tryd 38 as Tryd.eqRg
end Go.Proofs
namespace Go.Proofs.YtiaelaepfhiabaaDoor.Rs
open Go.Shelf Go.RowKit Go.Proofs.YtiaelaepfhiabaaDoor.Mem

theorem allEq_dec : ∀ (l m : List R), Lib.allEq (fun x y : R => x.1 == y.1 && x.2 == y.2) l m = decide (l = m)
  | [], [] => by simp [Lib.allEq]
  | [], _ :: _ => by simp [Lib.allEq]
  | _ :: _, [] => by simp [Lib.allEq]
  | a :: l, b :: m => by
    rw [Lib.allEq, allEq_dec l m, Bool.eq_iff_iff]
    simp [Prod.ext_iff]

set_option maxHeartbeats 1000000 in
theorem equal_lens (A B : Option Addr) (n m c d : Nat) (w : World) (h : (n : Int) ≠ (m : Int)) : Calls Tryd.prog 38 #[.slice A n c, .slice B m d] w fun e w' => e = .returned (.bool false) ∧ Below w.heap.size w w' := by
  go_enter Tryd.func38, Tryd.ntmps38
  go_wp2
  go_ret
  exact ⟨rfl, Below.refl _ _⟩
set_option maxHeartbeats 1000000 in
theorem equal_none (A B : Option Addr) (c d : Nat) (w : World) : Calls Tryd.prog 38 #[.slice A 0 c, .slice B 0 d] w fun e w' => e = .returned (.bool true) ∧ Below w.heap.size w w' := by
  go_enter Tryd.func38, Tryd.ntmps38
  go_wp2
  go_loop [13] (fun i => i = .int .i64 0) (fun _ => 0)
  case atStart => exact rfl
  case round =>
    obtain rfl := hrel
    go_wp2
    go_ret
    exact ⟨rfl, Below.refl _ _⟩
theorem equal_any (l m : List R) (A B : Option Addr) (c d : Nat) (w : World) (hl : l.length ≤ 8796093021952) (hm : m.length ≤ 8796093021952) (h1 : Lst w w.heap.size A l) (h2 : Lst w w.heap.size B m) :
    Calls Tryd.prog 38 #[.slice A l.length c, .slice B m.length d] w fun e w' => e = .returned (.bool (decide (l = m))) ∧ Below w.heap.size w w' := by
  by_cases hn : l.length = m.length
  · by_cases h0 : l.length = 0
    · have e1 := List.eq_nil_of_length_eq_zero h0
      have e2 := List.eq_nil_of_length_eq_zero (hn ▸ h0)
      subst e1 e2
      exact equal_none A B c d w
    · obtain ⟨b, off, rfl, hb, hc⟩ := h1 (by omega)
      obtain ⟨b2, off2, rfl, hb2, hc2⟩ := h2 (by omega)
      have hcon := AnyQ.slices_Equal Tryd.eqRg 2 Tryd.isAgg52 Tryd.sizeOf52 enc (fun _ => rfl) (fun x y : R => x.1 == y.1 && x.2 == y.2) neq_at b off l.length c b2 off2 m.length d l m w (Nat.le_refl _) (Nat.le_refl _) (by omega) (by omega) (cells_get hc) (cells_get hc2)
      change Calls Tryd.prog 38 _ _ _ at hcon
      rw [List.take_length, List.take_length, allEq_dec] at hcon
      refine hcon.mono ?_
      rintro e w' ⟨rfl, q, rfl⟩
      exact ⟨rfl, below_drewN (Below.refl _ _) q⟩
  · have e : decide (l = m) = false := by
      simp only [decide_eq_false_iff_not]
      rintro rfl
      exact hn rfl
    rw [e]
    exact equal_lens A B l.length m.length c d w (by omega)

set_option maxHeartbeats 1000000 in
/-- **Right**. -/
theorem right_any (l : List R) (A : Option Addr) (cap : Nat) (w : World) (hlen : l.length ≤ 8796093021952) (hcap : l.length ≤ cap) (h : Lst w w.heap.size A l) :
    Calls Tryd.prog 24 #[.slice A l.length cap] w fun e w' => e = .returned (.bool (decide (Least l))) ∧ Below w.heap.size w w' := by
  have H := hide h
  clear h
  have hml := mk_len l
  go_enter Tryd.func24, Tryd.ntmps24
  go_wp2_with fail
  refine (make_any l A cap w hlen hcap (unhide H)).mono ?_
  rintro e w1 ⟨v1, rfl, hcut⟩
  obtain ⟨A1, cap1, rfl, hlst, hc1, hcm⟩ := own_lst hcut.1
  have HL := hide hlst
  have HB := hide hcut.2
  clear hlst hcut
  go_wp2_with fail
  refine (equal_any l (mk l) A A1 cap cap1 w1 (by omega) (by omega) (((unhide H).below (unhide HB)).more (unhide HB).size) (unhide HL)).mono ?_
  rintro e w2 ⟨rfl, hb2⟩
  have e : decide (l = mk l) = decide (Least l) := by rw [decide_eq_decide]; exact (least_iff_mk l).symm
  rw [e]
  go_wp2
  go_ret
  exact ⟨rfl, (unhide HB).trans (hb2.mono (unhide HB).size)⟩
end Go.Proofs.YtiaelaepfhiabaaDoor.Rs
