/-
  rset.Has, walked; the library's ContainsFunc by its contract.
  == and != at ranges.
  rset.Right, walked; the library's Equal by its contract.
-/
import Derived.Shelf.SlicesQ.IndexFunc
import Derived.Ground.SlgfProg
import Derived.Shelf.Lay
import Derived.Shelf.SlGeneric
import Derived.Test.YtdajdolhjaoeiaaGreatDoorMRsB
import Derived.Laws.StructEq
import Derived.Shelf.SlicesQ.Equal
import Derived.Test.YtdajdolhjaoeiaaGreatDoorMMemA
import Derived.Ground.SlgqProg
set_option linter.unusedVariables false
set_option linter.unusedSimpArgs false
namespace Go.Proofs
shelf_lay_g SlLaysH0.n8 Slgf 8 at Tryz 48 as Tryz.hasRg
end Go.Proofs
namespace Go.Proofs.YtdajdolhjaoeiaaGreatDoor.Rs
open Go.Shelf Go.RowKit Go.Proofs.YtdajdolhjaoeiaaGreatDoor.Mem

def between (x : Int) (r : R) : Bool := decide (r.1 ≤ x) && decide (x ≤ r.2)

set_option maxHeartbeats 1000000 in
theorem has1 (x : Int) (r : R) (p : Nat) (W : World) (hp : p < W.heap.size) (hc : W.cell? ⟨p, 0, none⟩ = some (.int .i64 x)) :
    Calls Tryz.prog 49 #[.agg #[.int .i64 r.1, .int .i64 r.2], .pointer (some ⟨p, 0, none⟩)] W fun e w' => e = .returned (.bool (between x r)) ∧ Below W.heap.size W w' := by
  have c1 : (W.alloc (.cells #[.int .i64 r.1, .int .i64 r.2] 90)).cell? ⟨p, 0, none⟩ = some (.int .i64 x) := (World.cell?_alloc_lt W _ ⟨p, 0, none⟩ hp).trans hc
  clear hc
  unfold between
  by_cases h1 : r.1 ≤ x <;> by_cases h2 : x ≤ r.2
  all_goals
    go_enter Tryz.func49, Tryz.ntmps49
    go_wp2
    go_ret
    refine ⟨by simp [h1, h2], below_al (Below.refl _ _) (Nat.le_refl _) _⟩

set_option maxHeartbeats 1000000 in
theorem index_none (A : Option Addr) (cap : Nat) (fv : Value) (w : World) : Calls Tryz.prog 79 #[.slice A 0 cap, fv] w fun e w' => e = .returned (.int .i64 (-1)) ∧ w' = w := by
  go_enter Tryz.func79, Tryz.ntmps79
  go_wp2
  go_loop [8] (fun i => i = .int .i64 0) (fun _ => 0)
  case atStart => exact rfl
  case round =>
    obtain rfl := hrel
    go_wp2
    go_ret
    exact ⟨rfl, rfl⟩
set_option maxHeartbeats 1000000 in
theorem contains_none (A : Option Addr) (cap : Nat) (fv : Value) (w : World) : Calls Tryz.prog 48 #[.slice A 0 cap, fv] w fun e w' => e = .returned (.bool false) ∧ Below w.heap.size w w' := by
  go_enter Tryz.func48, Tryz.ntmps48
  go_wp2_with fail
  refine (index_none A cap fv w).mono ?_
  rintro e w1 ⟨rfl, rfl⟩
  go_wp2
  go_ret
  exact ⟨rfl, Below.refl _ _⟩

theorem contains_any (l : List R) (A : Option Addr) (cap p : Nat) (x : Int) (w : World) (hlen : l.length ≤ 8796093021952) (hp : p < w.heap.size) (hx : w.cell? ⟨p, 0, none⟩ = some (.int .i64 x)) (h : Lst w w.heap.size A l) :
    Calls Tryz.prog 48 #[.slice A l.length cap, .func (.func 49) #[] #[.pointer (some ⟨p, 0, none⟩)]] w fun e w' => e = .returned (.bool (l.any (between x))) ∧ Below w.heap.size w w' := by
  by_cases hn : l.length = 0
  · rw [List.eq_nil_of_length_eq_zero hn]; exact contains_none A cap _ w
  · obtain ⟨b, off, rfl, hb, hc⟩ := h (by omega)
    have eg : ∀ args w, (callFunc 49 args).run Tryz.prog w = .ok (.enter 49 args) w := enters_of Tryz.func49 (by kernel_rfl) rfl
    have hpb : PredBelow Tryz.prog 49 #[.pointer (some ⟨p, 0, none⟩)] (fun r : R => .agg (enc r).toArray) (between x) w := fun W r hW => has1 x r p W (Nat.lt_of_lt_of_le hp hW.size) ((hW.cell (p := ⟨p, 0, none⟩) hp).trans hx) |>.mono fun e w' h => ⟨h.1, hW.trans (h.2.mono hW.size)⟩
    have hcon := AnyQ.slices_ContainsFunc Tryz.hasRg 2 Tryz.isAgg90 Tryz.sizeOf90 enc (fun _ => rfl) (between x) 49 #[.pointer (some ⟨p, 0, none⟩)] eg b off l.length cap l w hpb (Nat.le_refl _) (by omega) hb (cells_get hc)
    change Calls Tryz.prog 48 _ _ _ at hcon
    rw [List.take_length] at hcon
    exact hcon

theorem any_between {l : List R} {x : Int} (h0 : 0 ≤ x) (h1 : x ≤ 1114367) : l.any (between x) = hasL l x := by
  unfold hasL
  congr 1
  funext r
  rw [Bool.eq_iff_iff]
  simp [between, inR]
  omega
theorem has_out {l : List R} {x : Int} (h : x < 0 ∨ 1114367 < x) : hasL l x = false := by
  unfold hasL
  rw [List.any_eq_false]
  intro r _
  simp [inR]
  omega

set_option maxHeartbeats 1000000 in
/-- **Has**. -/
theorem has_any (l : List R) (x : Int) (A : Option Addr) (cap : Nat) (w : World) (hlen : l.length ≤ 8796093021952) (h : Lst w w.heap.size A l) :
    Calls Tryz.prog 19 #[.slice A l.length cap, .int .i64 x] w fun e w' => e = .returned (.bool (hasL l x)) ∧ Below w.heap.size w w' := by
  have hl : Lst (w.alloc (.cells #[.int .i64 x] 3)) (w.alloc (.cells #[.int .i64 x] 3)).heap.size A l := (h.below (below_al (Below.refl _ _) (Nat.le_refl _) _)).more (by simp)
  have HL := hide hl
  clear hl h
  have HC := hide (contains_any l A cap w.heap.size x (w.alloc (.cells #[.int .i64 x] 3)) hlen (by simp) (by rw [World.cell?_alloc_new]; rfl) (unhide HL))
  by_cases h0 : x < 0
  · rw [has_out (.inl h0)]
    go_enter Tryz.func19, Tryz.ntmps19
    go_wp2
    go_ret
    exact ⟨rfl, below_al (Below.refl _ _) (Nat.le_refl _) _⟩
  · by_cases h1 : 1114367 < x
    · rw [has_out (.inr h1)]
      go_enter Tryz.func19, Tryz.ntmps19
      go_wp2
      go_ret
      exact ⟨rfl, below_al (Below.refl _ _) (Nat.le_refl _) _⟩
    · rw [← any_between (by omega) (by omega)]
      go_enter Tryz.func19, Tryz.ntmps19
      go_wp2_with fail
      refine (unhide HC).mono ?_
      rintro e w1 ⟨rfl, hb⟩
      go_wp2
      go_ret
      exact ⟨rfl, (below_al (Below.refl _ _) (Nat.le_refl _) _).trans (hb.mono (by simp))⟩

end Go.Proofs.YtdajdolhjaoeiaaGreatDoor.Rs
set_option linter.unusedVariables false
set_option linter.unusedSimpArgs false
namespace Go.Proofs.YtdajdolhjaoeiaaGreatDoor.Rs
open Go.Shelf Go.RowKit Go.Proofs.YtdajdolhjaoeiaaGreatDoor.Mem

/- == and != at ranges -/
theorem neq_at : NeqAt Tryz.prog 90 (fun x : R => .agg (enc x).toArray) (fun x y => x.1 == y.1 && x.2 == y.2) := by
  refine ⟨fun x y w => ?_, GuardAt.agg _ (by kernel_rfl)⟩
  have u3 := Tryz.underlying3
  have a3 := Tryz.isAgg3
  have z3 := Tryz.sizeOf3
  have hS : Tryz.prog.underlying 90 = some (.struct (Tryz.prog.fieldsOf 90)) := by kernel_rfl
  have hp : Tryz.prog.stoodInHeld 90 = false := by kernel_rfl
  simp only [enc]
  rw [run_neq_struct, show (10000 : Nat) = 9999 + 1 from rfl, run_equalIn_agg w 9999 90 _ _ hS hp]
  simp only [Program.fieldsOf, Tryz.underlying90]
  go_simp
  by_cases h1 : x.fst = y.fst <;> by_cases h2 : x.snd = y.snd <;> simp [h1, h2]
theorem neq_range (a b c d : Int) (w : World) : Sem.run Tryz.prog (binOp .neq 90 (.agg #[.int .i64 a, .int .i64 b]) (.agg #[.int .i64 c, .int .i64 d])) w = .ok (.bool (!(a == c && b == d))) w := Rs.neq_at.1 (a, b) (c, d) w
theorem neq_guard (op : BinOp) (x y : Operand) (a b c d : Int) (w : World) : Sem.run Tryz.prog (eqGuard op 90 x y (.agg #[.int .i64 a, .int .i64 b]) (.agg #[.int .i64 c, .int .i64 d])) w = .ok () w := Rs.neq_at.2 op x y (a, b) (c, d) w
end Go.Proofs.YtdajdolhjaoeiaaGreatDoor.Rs
set_option linter.unusedVariables false
set_option linter.unusedSimpArgs false
namespace Go.Proofs
shelf_lay_g SlLaysQ.n8 Slgq 8 at Tryz 50 as Tryz.eqRg
end Go.Proofs
namespace Go.Proofs.YtdajdolhjaoeiaaGreatDoor.Rs
open Go.Shelf Go.RowKit Go.Proofs.YtdajdolhjaoeiaaGreatDoor.Mem

theorem allEq_dec : ∀ (l m : List R), Lib.allEq (fun x y : R => x.1 == y.1 && x.2 == y.2) l m = decide (l = m)
  | [], [] => by simp [Lib.allEq]
  | [], _ :: _ => by simp [Lib.allEq]
  | _ :: _, [] => by simp [Lib.allEq]
  | a :: l, b :: m => by
    rw [Lib.allEq, allEq_dec l m, Bool.eq_iff_iff]
    simp [Prod.ext_iff]

set_option maxHeartbeats 1000000 in
theorem equal_lens (A B : Option Addr) (n m c d : Nat) (w : World) (h : (n : Int) ≠ (m : Int)) : Calls Tryz.prog 50 #[.slice A n c, .slice B m d] w fun e w' => e = .returned (.bool false) ∧ Below w.heap.size w w' := by
  go_enter Tryz.func50, Tryz.ntmps50
  go_wp2
  go_ret
  exact ⟨rfl, Below.refl _ _⟩
set_option maxHeartbeats 1000000 in
theorem equal_none (A B : Option Addr) (c d : Nat) (w : World) : Calls Tryz.prog 50 #[.slice A 0 c, .slice B 0 d] w fun e w' => e = .returned (.bool true) ∧ Below w.heap.size w w' := by
  go_enter Tryz.func50, Tryz.ntmps50
  go_wp2
  go_loop [13] (fun i => i = .int .i64 0) (fun _ => 0)
  case atStart => exact rfl
  case round =>
    obtain rfl := hrel
    go_wp2
    go_ret
    exact ⟨rfl, Below.refl _ _⟩
theorem equal_any (l m : List R) (A B : Option Addr) (c d : Nat) (w : World) (hl : l.length ≤ 8796093021952) (hm : m.length ≤ 8796093021952) (h1 : Lst w w.heap.size A l) (h2 : Lst w w.heap.size B m) :
    Calls Tryz.prog 50 #[.slice A l.length c, .slice B m.length d] w fun e w' => e = .returned (.bool (decide (l = m))) ∧ Below w.heap.size w w' := by
  by_cases hn : l.length = m.length
  · by_cases h0 : l.length = 0
    · have e1 := List.eq_nil_of_length_eq_zero h0
      have e2 := List.eq_nil_of_length_eq_zero (hn ▸ h0)
      subst e1 e2
      exact equal_none A B c d w
    · obtain ⟨b, off, rfl, hb, hc⟩ := h1 (by omega)
      obtain ⟨b2, off2, rfl, hb2, hc2⟩ := h2 (by omega)
      have hcon := AnyQ.slices_Equal Tryz.eqRg 2 Tryz.isAgg90 Tryz.sizeOf90 enc (fun _ => rfl) (fun x y : R => x.1 == y.1 && x.2 == y.2) neq_at b off l.length c b2 off2 m.length d l m w (Nat.le_refl _) (Nat.le_refl _) (by omega) (by omega) (cells_get hc) (cells_get hc2)
      change Calls Tryz.prog 50 _ _ _ at hcon
      rw [List.take_length, List.take_length, allEq_dec] at hcon
      refine hcon.mono ?_
      rintro e w' ⟨rfl, q, rfl⟩
      exact ⟨rfl, below_drewN (Below.refl _ _) q⟩
  · have e : decide (l = m) = false := by
      simp only [decide_eq_false_iff_not]
      rintro rfl
      exact hn rfl
    rw [e]
    exact equal_lens A B l.length m.length c d w (by omega)

set_option maxHeartbeats 1000000 in
/-- **Right**. -/
theorem right_any (l : List R) (A : Option Addr) (cap : Nat) (w : World) (hlen : l.length ≤ 8796093021952) (hcap : l.length ≤ cap) (h : Lst w w.heap.size A l) :
    Calls Tryz.prog 20 #[.slice A l.length cap] w fun e w' => e = .returned (.bool (decide (Least l))) ∧ Below w.heap.size w w' := by
  have H := hide h
  clear h
  have hml := mk_len l
  go_enter Tryz.func20, Tryz.ntmps20
  go_wp2_with fail
  refine (make_any l A cap w hlen hcap (unhide H)).mono ?_
  rintro e w1 ⟨v1, rfl, hcut⟩
  obtain ⟨A1, cap1, rfl, hlst, hc1, hcm⟩ := own_lst hcut.1
  have HL := hide hlst
  have HB := hide hcut.2
  clear hlst hcut
  go_wp2_with fail
  refine (equal_any l (mk l) A A1 cap cap1 w1 (by omega) (by omega) (((unhide H).below (unhide HB)).more (unhide HB).size) (unhide HL)).mono ?_
  rintro e w2 ⟨rfl, hb2⟩
  have e : decide (l = mk l) = decide (Least l) := by rw [decide_eq_decide]; exact (least_iff_mk l).symm
  rw [e]
  go_wp2
  go_ret
  exact ⟨rfl, (unhide HB).trans (hb2.mono (unhide HB).size)⟩
end Go.Proofs.YtdajdolhjaoeiaaGreatDoor.Rs
