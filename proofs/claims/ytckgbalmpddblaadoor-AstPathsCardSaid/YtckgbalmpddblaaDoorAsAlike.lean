/-
  The law's own 'alike', walked: are two nodes the same, but for where they stand? Conditions: their ranges and kids lie in memory.
-/
import Derived.Test.YtckgbalmpddblaaDoorAsRefEnd
import Derived.Test.YtckgbalmpddblaaDoorAsSpec
import Derived.Test.YtckgbalmpddblaaDoorRsEq
import Derived.Deep.QuietTactic
import Derived.BigQuiet
set_option linter.unusedVariables false
set_option linter.unusedSimpArgs false
namespace Go.Proofs.YtckgbalmpddblaaDoor.As
open Go.RowKit Go.Proofs.YtckgbalmpddblaaDoor.Mem Go.Proofs.YtckgbalmpddblaaDoor.Rs

attribute [local go_sem] neq_range neq_guard

set_option maxRecDepth 100000 in
set_option maxHeartbeats 2000000 in
theorem alike_kind (a b : Nd) (Sa Sb Ka Kb : Option Addr) (csa csb cka ckb : Nat) (w : World)
    (hs1 : a.set.length ≤ csa) (hs2 : csa ≤ 9223372036854775807) (hs3 : b.set.length ≤ csb) (hs4 : csb ≤ 9223372036854775807) (hk1 : a.kids.length ≤ cka) (hk2 : cka ≤ 9223372036854775807) (hk3 : b.kids.length ≤ ckb) (hk4 : ckb ≤ 9223372036854775807)
     (h_kind : ¬ a.kind = b.kind) : Calls Tryd.prog 15 #[.agg #[.int .i64 a.kind, .int .i64 a.from_, .int .i64 a.to_, .int .i64 a.num, .int .i64 a.mn, .int .i64 a.mx, .int .i64 a.mode, str a.name, .slice Sa a.set.length csa, .slice Ka a.kids.length cka], .agg #[.int .i64 b.kind, .int .i64 b.from_, .int .i64 b.to_, .int .i64 b.num, .int .i64 b.mn, .int .i64 b.mx, .int .i64 b.mode, str b.name, .slice Sb b.set.length csb, .slice Kb b.kids.length ckb]] w fun e w' => e = .returned (.bool (alikeN a b)) ∧ Below w.heap.size w w' := by
  have HR := hide (show alikeN a b = false by unfold alikeN; rw [decide_eq_false_iff_not]; rintro ⟨p1, p2, p3, p4, p5, p6, p7, p8⟩; exact h_kind p1)
  have e_kind : (a.kind != b.kind) = true := by simp [h_kind]
  clear h_kind
  go_enter Tryd.func15, Tryd.ntmps15
  go_wp2_with fail
  go_ret
  exact ⟨by rw [unhide HR]; rfl, ((Below.refl _ _).alloc (Nat.le_refl _) _).alloc (by simp) _⟩

set_option maxRecDepth 100000 in
set_option maxHeartbeats 2000000 in
theorem alike_num (a b : Nd) (Sa Sb Ka Kb : Option Addr) (csa csb cka ckb : Nat) (w : World)
    (hs1 : a.set.length ≤ csa) (hs2 : csa ≤ 9223372036854775807) (hs3 : b.set.length ≤ csb) (hs4 : csb ≤ 9223372036854775807) (hk1 : a.kids.length ≤ cka) (hk2 : cka ≤ 9223372036854775807) (hk3 : b.kids.length ≤ ckb) (hk4 : ckb ≤ 9223372036854775807)
    (h_kind : a.kind = b.kind) (h_num : ¬ a.num = b.num) : Calls Tryd.prog 15 #[.agg #[.int .i64 a.kind, .int .i64 a.from_, .int .i64 a.to_, .int .i64 a.num, .int .i64 a.mn, .int .i64 a.mx, .int .i64 a.mode, str a.name, .slice Sa a.set.length csa, .slice Ka a.kids.length cka], .agg #[.int .i64 b.kind, .int .i64 b.from_, .int .i64 b.to_, .int .i64 b.num, .int .i64 b.mn, .int .i64 b.mx, .int .i64 b.mode, str b.name, .slice Sb b.set.length csb, .slice Kb b.kids.length ckb]] w fun e w' => e = .returned (.bool (alikeN a b)) ∧ Below w.heap.size w w' := by
  have HR := hide (show alikeN a b = false by unfold alikeN; rw [decide_eq_false_iff_not]; rintro ⟨p1, p2, p3, p4, p5, p6, p7, p8⟩; exact h_num p2)
  have e_kind : (a.kind != b.kind) = false := by simp [h_kind]
  have e_num : (a.num != b.num) = true := by simp [h_num]
  clear h_kind h_num
  go_enter Tryd.func15, Tryd.ntmps15
  go_wp2_with fail
  go_ret
  exact ⟨by rw [unhide HR]; rfl, ((Below.refl _ _).alloc (Nat.le_refl _) _).alloc (by simp) _⟩

set_option maxRecDepth 100000 in
set_option maxHeartbeats 2000000 in
theorem alike_mn (a b : Nd) (Sa Sb Ka Kb : Option Addr) (csa csb cka ckb : Nat) (w : World)
    (hs1 : a.set.length ≤ csa) (hs2 : csa ≤ 9223372036854775807) (hs3 : b.set.length ≤ csb) (hs4 : csb ≤ 9223372036854775807) (hk1 : a.kids.length ≤ cka) (hk2 : cka ≤ 9223372036854775807) (hk3 : b.kids.length ≤ ckb) (hk4 : ckb ≤ 9223372036854775807)
    (h_kind : a.kind = b.kind) (h_num : a.num = b.num) (h_mn : ¬ a.mn = b.mn) : Calls Tryd.prog 15 #[.agg #[.int .i64 a.kind, .int .i64 a.from_, .int .i64 a.to_, .int .i64 a.num, .int .i64 a.mn, .int .i64 a.mx, .int .i64 a.mode, str a.name, .slice Sa a.set.length csa, .slice Ka a.kids.length cka], .agg #[.int .i64 b.kind, .int .i64 b.from_, .int .i64 b.to_, .int .i64 b.num, .int .i64 b.mn, .int .i64 b.mx, .int .i64 b.mode, str b.name, .slice Sb b.set.length csb, .slice Kb b.kids.length ckb]] w fun e w' => e = .returned (.bool (alikeN a b)) ∧ Below w.heap.size w w' := by
  have HR := hide (show alikeN a b = false by unfold alikeN; rw [decide_eq_false_iff_not]; rintro ⟨p1, p2, p3, p4, p5, p6, p7, p8⟩; exact h_mn p3)
  have e_kind : (a.kind != b.kind) = false := by simp [h_kind]
  have e_num : (a.num != b.num) = false := by simp [h_num]
  have e_mn : (a.mn != b.mn) = true := by simp [h_mn]
  clear h_kind h_num h_mn
  go_enter Tryd.func15, Tryd.ntmps15
  go_wp2_with fail
  go_ret
  exact ⟨by rw [unhide HR]; rfl, ((Below.refl _ _).alloc (Nat.le_refl _) _).alloc (by simp) _⟩

set_option maxRecDepth 100000 in
set_option maxHeartbeats 2000000 in
theorem alike_mx (a b : Nd) (Sa Sb Ka Kb : Option Addr) (csa csb cka ckb : Nat) (w : World)
    (hs1 : a.set.length ≤ csa) (hs2 : csa ≤ 9223372036854775807) (hs3 : b.set.length ≤ csb) (hs4 : csb ≤ 9223372036854775807) (hk1 : a.kids.length ≤ cka) (hk2 : cka ≤ 9223372036854775807) (hk3 : b.kids.length ≤ ckb) (hk4 : ckb ≤ 9223372036854775807)
    (h_kind : a.kind = b.kind) (h_num : a.num = b.num) (h_mn : a.mn = b.mn) (h_mx : ¬ a.mx = b.mx) : Calls Tryd.prog 15 #[.agg #[.int .i64 a.kind, .int .i64 a.from_, .int .i64 a.to_, .int .i64 a.num, .int .i64 a.mn, .int .i64 a.mx, .int .i64 a.mode, str a.name, .slice Sa a.set.length csa, .slice Ka a.kids.length cka], .agg #[.int .i64 b.kind, .int .i64 b.from_, .int .i64 b.to_, .int .i64 b.num, .int .i64 b.mn, .int .i64 b.mx, .int .i64 b.mode, str b.name, .slice Sb b.set.length csb, .slice Kb b.kids.length ckb]] w fun e w' => e = .returned (.bool (alikeN a b)) ∧ Below w.heap.size w w' := by
  have HR := hide (show alikeN a b = false by unfold alikeN; rw [decide_eq_false_iff_not]; rintro ⟨p1, p2, p3, p4, p5, p6, p7, p8⟩; exact h_mx p4)
  have e_kind : (a.kind != b.kind) = false := by simp [h_kind]
  have e_num : (a.num != b.num) = false := by simp [h_num]
  have e_mn : (a.mn != b.mn) = false := by simp [h_mn]
  have e_mx : (a.mx != b.mx) = true := by simp [h_mx]
  clear h_kind h_num h_mn h_mx
  go_enter Tryd.func15, Tryd.ntmps15
  go_wp2_with fail
  go_ret
  exact ⟨by rw [unhide HR]; rfl, ((Below.refl _ _).alloc (Nat.le_refl _) _).alloc (by simp) _⟩

set_option maxRecDepth 100000 in
set_option maxHeartbeats 2000000 in
theorem alike_mode (a b : Nd) (Sa Sb Ka Kb : Option Addr) (csa csb cka ckb : Nat) (w : World)
    (hs1 : a.set.length ≤ csa) (hs2 : csa ≤ 9223372036854775807) (hs3 : b.set.length ≤ csb) (hs4 : csb ≤ 9223372036854775807) (hk1 : a.kids.length ≤ cka) (hk2 : cka ≤ 9223372036854775807) (hk3 : b.kids.length ≤ ckb) (hk4 : ckb ≤ 9223372036854775807)
    (h_kind : a.kind = b.kind) (h_num : a.num = b.num) (h_mn : a.mn = b.mn) (h_mx : a.mx = b.mx) (h_mode : ¬ a.mode = b.mode) : Calls Tryd.prog 15 #[.agg #[.int .i64 a.kind, .int .i64 a.from_, .int .i64 a.to_, .int .i64 a.num, .int .i64 a.mn, .int .i64 a.mx, .int .i64 a.mode, str a.name, .slice Sa a.set.length csa, .slice Ka a.kids.length cka], .agg #[.int .i64 b.kind, .int .i64 b.from_, .int .i64 b.to_, .int .i64 b.num, .int .i64 b.mn, .int .i64 b.mx, .int .i64 b.mode, str b.name, .slice Sb b.set.length csb, .slice Kb b.kids.length ckb]] w fun e w' => e = .returned (.bool (alikeN a b)) ∧ Below w.heap.size w w' := by
  have HR := hide (show alikeN a b = false by unfold alikeN; rw [decide_eq_false_iff_not]; rintro ⟨p1, p2, p3, p4, p5, p6, p7, p8⟩; exact h_mode p5)
  have e_kind : (a.kind != b.kind) = false := by simp [h_kind]
  have e_num : (a.num != b.num) = false := by simp [h_num]
  have e_mn : (a.mn != b.mn) = false := by simp [h_mn]
  have e_mx : (a.mx != b.mx) = false := by simp [h_mx]
  have e_mode : (a.mode != b.mode) = true := by simp [h_mode]
  clear h_kind h_num h_mn h_mx h_mode
  go_enter Tryd.func15, Tryd.ntmps15
  go_wp2_with fail
  go_ret
  exact ⟨by rw [unhide HR]; rfl, ((Below.refl _ _).alloc (Nat.le_refl _) _).alloc (by simp) _⟩

set_option maxRecDepth 100000 in
set_option maxHeartbeats 2000000 in
theorem alike_name (a b : Nd) (Sa Sb Ka Kb : Option Addr) (csa csb cka ckb : Nat) (w : World)
    (hs1 : a.set.length ≤ csa) (hs2 : csa ≤ 9223372036854775807) (hs3 : b.set.length ≤ csb) (hs4 : csb ≤ 9223372036854775807) (hk1 : a.kids.length ≤ cka) (hk2 : cka ≤ 9223372036854775807) (hk3 : b.kids.length ≤ ckb) (hk4 : ckb ≤ 9223372036854775807)
    (h_kind : a.kind = b.kind) (h_num : a.num = b.num) (h_mn : a.mn = b.mn) (h_mx : a.mx = b.mx) (h_mode : a.mode = b.mode) (h_name : ¬ a.name = b.name) : Calls Tryd.prog 15 #[.agg #[.int .i64 a.kind, .int .i64 a.from_, .int .i64 a.to_, .int .i64 a.num, .int .i64 a.mn, .int .i64 a.mx, .int .i64 a.mode, str a.name, .slice Sa a.set.length csa, .slice Ka a.kids.length cka], .agg #[.int .i64 b.kind, .int .i64 b.from_, .int .i64 b.to_, .int .i64 b.num, .int .i64 b.mn, .int .i64 b.mx, .int .i64 b.mode, str b.name, .slice Sb b.set.length csb, .slice Kb b.kids.length ckb]] w fun e w' => e = .returned (.bool (alikeN a b)) ∧ Below w.heap.size w w' := by
  have HR := hide (show alikeN a b = false by unfold alikeN; rw [decide_eq_false_iff_not]; rintro ⟨p1, p2, p3, p4, p5, p6, p7, p8⟩; exact h_name p6)
  have e_kind : (a.kind != b.kind) = false := by simp [h_kind]
  have e_num : (a.num != b.num) = false := by simp [h_num]
  have e_mn : (a.mn != b.mn) = false := by simp [h_mn]
  have e_mx : (a.mx != b.mx) = false := by simp [h_mx]
  have e_mode : (a.mode != b.mode) = false := by simp [h_mode]
  have e_name : (a.name == b.name) = false := by simp [h_name]
  clear h_kind h_num h_mn h_mx h_mode h_name
  go_enter Tryd.func15, Tryd.ntmps15
  go_wp2_with fail
  go_ret
  exact ⟨by rw [unhide HR]; rfl, ((Below.refl _ _).alloc (Nat.le_refl _) _).alloc (by simp) _⟩

set_option maxRecDepth 100000 in
set_option maxHeartbeats 2000000 in
theorem alike_set (a b : Nd) (Sa Sb Ka Kb : Option Addr) (csa csb cka ckb : Nat) (w : World)
    (hs1 : a.set.length ≤ csa) (hs2 : csa ≤ 9223372036854775807) (hs3 : b.set.length ≤ csb) (hs4 : csb ≤ 9223372036854775807) (hk1 : a.kids.length ≤ cka) (hk2 : cka ≤ 9223372036854775807) (hk3 : b.kids.length ≤ ckb) (hk4 : ckb ≤ 9223372036854775807)
    (h_kind : a.kind = b.kind) (h_num : a.num = b.num) (h_mn : a.mn = b.mn) (h_mx : a.mx = b.mx) (h_mode : a.mode = b.mode) (h_name : a.name = b.name) (h_set : ¬ a.set.length = b.set.length) : Calls Tryd.prog 15 #[.agg #[.int .i64 a.kind, .int .i64 a.from_, .int .i64 a.to_, .int .i64 a.num, .int .i64 a.mn, .int .i64 a.mx, .int .i64 a.mode, str a.name, .slice Sa a.set.length csa, .slice Ka a.kids.length cka], .agg #[.int .i64 b.kind, .int .i64 b.from_, .int .i64 b.to_, .int .i64 b.num, .int .i64 b.mn, .int .i64 b.mx, .int .i64 b.mode, str b.name, .slice Sb b.set.length csb, .slice Kb b.kids.length ckb]] w fun e w' => e = .returned (.bool (alikeN a b)) ∧ Below w.heap.size w w' := by
  have HR := hide (show alikeN a b = false by unfold alikeN; rw [decide_eq_false_iff_not]; rintro ⟨p1, p2, p3, p4, p5, p6, p7, p8⟩; exact h_set (by rw [p7]))
  have e_kind : (a.kind != b.kind) = false := by simp [h_kind]
  have e_num : (a.num != b.num) = false := by simp [h_num]
  have e_mn : (a.mn != b.mn) = false := by simp [h_mn]
  have e_mx : (a.mx != b.mx) = false := by simp [h_mx]
  have e_mode : (a.mode != b.mode) = false := by simp [h_mode]
  have e_name : (a.name == b.name) = true := by simp [h_name]
  have e_set : ((a.set.length : Int) != (b.set.length : Int)) = true := by simp; omega
  clear h_kind h_num h_mn h_mx h_mode h_name h_set
  go_enter Tryd.func15, Tryd.ntmps15
  go_wp2_with fail
  go_ret
  exact ⟨by rw [unhide HR]; rfl, ((Below.refl _ _).alloc (Nat.le_refl _) _).alloc (by simp) _⟩

set_option maxRecDepth 100000 in
set_option maxHeartbeats 2000000 in
theorem alike_kids (a b : Nd) (Sa Sb Ka Kb : Option Addr) (csa csb cka ckb : Nat) (w : World)
    (hs1 : a.set.length ≤ csa) (hs2 : csa ≤ 9223372036854775807) (hs3 : b.set.length ≤ csb) (hs4 : csb ≤ 9223372036854775807) (hk1 : a.kids.length ≤ cka) (hk2 : cka ≤ 9223372036854775807) (hk3 : b.kids.length ≤ ckb) (hk4 : ckb ≤ 9223372036854775807)
    (h_kind : a.kind = b.kind) (h_num : a.num = b.num) (h_mn : a.mn = b.mn) (h_mx : a.mx = b.mx) (h_mode : a.mode = b.mode) (h_name : a.name = b.name) (h_set : a.set.length = b.set.length) (h_kids : ¬ a.kids.length = b.kids.length) : Calls Tryd.prog 15 #[.agg #[.int .i64 a.kind, .int .i64 a.from_, .int .i64 a.to_, .int .i64 a.num, .int .i64 a.mn, .int .i64 a.mx, .int .i64 a.mode, str a.name, .slice Sa a.set.length csa, .slice Ka a.kids.length cka], .agg #[.int .i64 b.kind, .int .i64 b.from_, .int .i64 b.to_, .int .i64 b.num, .int .i64 b.mn, .int .i64 b.mx, .int .i64 b.mode, str b.name, .slice Sb b.set.length csb, .slice Kb b.kids.length ckb]] w fun e w' => e = .returned (.bool (alikeN a b)) ∧ Below w.heap.size w w' := by
  have HR := hide (show alikeN a b = false by unfold alikeN; rw [decide_eq_false_iff_not]; rintro ⟨p1, p2, p3, p4, p5, p6, p7, p8⟩; exact h_kids (by rw [p8]))
  have e_kind : (a.kind != b.kind) = false := by simp [h_kind]
  have e_num : (a.num != b.num) = false := by simp [h_num]
  have e_mn : (a.mn != b.mn) = false := by simp [h_mn]
  have e_mx : (a.mx != b.mx) = false := by simp [h_mx]
  have e_mode : (a.mode != b.mode) = false := by simp [h_mode]
  have e_name : (a.name == b.name) = true := by simp [h_name]
  have e_set : ((a.set.length : Int) != (b.set.length : Int)) = false := by simp; omega
  have e_kids : ((a.kids.length : Int) != (b.kids.length : Int)) = true := by simp; omega
  clear h_kind h_num h_mn h_mx h_mode h_name h_set h_kids
  go_enter Tryd.func15, Tryd.ntmps15
  go_wp2_with fail
  go_ret
  exact ⟨by rw [unhide HR]; rfl, ((Below.refl _ _).alloc (Nat.le_refl _) _).alloc (by simp) _⟩

theorem step_eq {α : Type} {l m : List α} {k : Nat} {r q : α} (h : ∀ j, j < k → l[j]? = m[j]?) (hr : l[k]? = some r) (hq : m[k]? = some q) (e : r = q) : ∀ j, j < k + 1 → l[j]? = m[j]? := by
  intro j hj
  rcases Nat.lt_or_ge j k with h1 | h1
  · exact h j h1
  · obtain rfl : j = k := by omega
    rw [hr, hq, e]
theorem all_eq {α : Type} {l m : List α} {k : Nat} (h : ∀ j, j < k → l[j]? = m[j]?) (hk : l.length ≤ k) (hl : l.length = m.length) : l = m := by
  refine List.ext_getElem? fun j => ?_
  rcases Nat.lt_or_ge j k with h1 | h1
  · exact h j h1
  · rw [List.getElem?_eq_none (by omega), List.getElem?_eq_none (by omega)]
def QRel {α : Type} (l m : List α) (w W : World) (i : Value) (wr : World) : Prop := ∃ (k n : Nat), i = .int .i64 k ∧ k ≤ l.length ∧ (∀ j, j < k → l[j]? = m[j]?) ∧ wr = W.drewN n
set_option maxRecDepth 100000 in
set_option maxHeartbeats 4000000 in
theorem alike_rest (a b : Nd) (Sa Sb Ka Kb : Option Addr) (csa csb cka ckb : Nat) (w : World)
    (hs1 : a.set.length ≤ csa) (hs2 : csa ≤ 9223372036854775807) (hs3 : b.set.length ≤ csb) (hs4 : csb ≤ 9223372036854775807) (hk1 : a.kids.length ≤ cka) (hk2 : cka ≤ 9223372036854775807) (hk3 : b.kids.length ≤ ckb) (hk4 : ckb ≤ 9223372036854775807)
    (h_kind : a.kind = b.kind) (h_num : a.num = b.num) (h_mn : a.mn = b.mn) (h_mx : a.mx = b.mx) (h_mode : a.mode = b.mode) (h_name : a.name = b.name) (h_set : a.set.length = b.set.length) (h_kids : a.kids.length = b.kids.length) (hsa : Lst w w.heap.size Sa a.set) (hsb : Lst w w.heap.size Sb b.set) (hka : Reads w w.heap.size 1 Ka a.kids.length (a.kids.map Mem.i64)) (hkb : Reads w w.heap.size 1 Kb b.kids.length (b.kids.map Mem.i64)) :
    Calls Tryd.prog 15 #[.agg #[.int .i64 a.kind, .int .i64 a.from_, .int .i64 a.to_, .int .i64 a.num, .int .i64 a.mn, .int .i64 a.mx, .int .i64 a.mode, str a.name, .slice Sa a.set.length csa, .slice Ka a.kids.length cka], .agg #[.int .i64 b.kind, .int .i64 b.from_, .int .i64 b.to_, .int .i64 b.num, .int .i64 b.mn, .int .i64 b.mx, .int .i64 b.mode, str b.name, .slice Sb b.set.length csb, .slice Kb b.kids.length ckb]] w fun e w' => e = .returned (.bool (alikeN a b)) ∧ Below w.heap.size w w' := by
  have e_kind : (a.kind != b.kind) = false := by simp [h_kind]
  have e_num : (a.num != b.num) = false := by simp [h_num]
  have e_mn : (a.mn != b.mn) = false := by simp [h_mn]
  have e_mx : (a.mx != b.mx) = false := by simp [h_mx]
  have e_mode : (a.mode != b.mode) = false := by simp [h_mode]
  have e_name : (a.name == b.name) = true := by simp [h_name]
  have e_set : ((a.set.length : Int) != (b.set.length : Int)) = false := by simp; omega
  have e_kids : ((a.kids.length : Int) != (b.kids.length : Int)) = false := by simp; omega
  have HE := hide (And.intro h_kind (And.intro h_num (And.intro h_mn (And.intro h_mx (And.intro h_mode h_name)))))
  have hW : Below w.heap.size w ((w.alloc (.cells #[.int .i64 a.kind, .int .i64 a.from_, .int .i64 a.to_, .int .i64 a.num, .int .i64 a.mn, .int .i64 a.mx, .int .i64 a.mode, str a.name, .slice Sa a.set.length csa, .slice Ka a.kids.length cka] 42)).alloc (.cells #[.int .i64 b.kind, .int .i64 b.from_, .int .i64 b.to_, .int .i64 b.num, .int .i64 b.mn, .int .i64 b.mx, .int .i64 b.mode, str b.name, .slice Sb b.set.length csb, .slice Kb b.kids.length ckb] 42)) := ((Below.refl _ _).alloc (Nat.le_refl _) _).alloc (by simp) _
  have HW := hide hW
  have HSA := hide (hsa.below hW)
  have HSB := hide (hsb.below hW)
  have HKA := hide (hka.below hW)
  have HKB := hide (hkb.below hW)
  have HLS := hide h_set
  have HLK := hide h_kids
  clear h_kind h_num h_mn h_mx h_mode h_name h_set h_kids hsa hsb hka hkb hW
  go_enter Tryd.func15, Tryd.ntmps15
  go_wp2_with fail
  go_loopw [68] (fun i wr => QRel a.set b.set w ((w.alloc (.cells #[.int .i64 a.kind, .int .i64 a.from_, .int .i64 a.to_, .int .i64 a.num, .int .i64 a.mn, .int .i64 a.mx, .int .i64 a.mode, str a.name, .slice Sa a.set.length csa, .slice Ka a.kids.length cka] 42)).alloc (.cells #[.int .i64 b.kind, .int .i64 b.from_, .int .i64 b.to_, .int .i64 b.num, .int .i64 b.mn, .int .i64 b.mx, .int .i64 b.mode, str b.name, .slice Sb b.set.length csb, .slice Kb b.kids.length ckb] 42)) i wr) (fun i _ => a.set.length - (intOf i).toNat)
  case atStart => exact ⟨0, 0, rfl, by omega, fun j hj => absurd hj (by omega), rfl⟩
  case round =>
    obtain ⟨k, n, rfl, hk, heq, rfl⟩ := hrel
    go_hideQ
    have HEQ := hide heq
    have bkA := ((Blk.new w 42 #[.int .i64 a.kind, .int .i64 a.from_, .int .i64 a.to_, .int .i64 a.num, .int .i64 a.mn, .int .i64 a.mx, .int .i64 a.mode, str a.name, .slice Sa a.set.length csa, .slice Ka a.kids.length cka]).alloc (.cells #[.int .i64 b.kind, .int .i64 b.from_, .int .i64 b.to_, .int .i64 b.num, .int .i64 b.mn, .int .i64 b.mx, .int .i64 b.mode, str b.name, .slice Sb b.set.length csb, .slice Kb b.kids.length ckb] 42)).drewN n
    have bkB := (Blk.new (w.alloc (.cells #[.int .i64 a.kind, .int .i64 a.from_, .int .i64 a.to_, .int .i64 a.num, .int .i64 a.mn, .int .i64 a.mx, .int .i64 a.mode, str a.name, .slice Sa a.set.length csa, .slice Ka a.kids.length cka] 42)) 42 #[.int .i64 b.kind, .int .i64 b.from_, .int .i64 b.to_, .int .i64 b.num, .int .i64 b.mn, .int .i64 b.mx, .int .i64 b.mode, str b.name, .slice Sb b.set.length csb, .slice Kb b.kids.length ckb]).drewN n
    rw [World.size_alloc] at bkB
    clear heq
    by_cases hlt : k < a.set.length
    · have hka : (k : Int) < (a.set.length : Int) := by omega
      have hkb : (k : Int) < (b.set.length : Int) := by have := unhide HLS; omega
      have a8 := bkA.cell 8
      have b8 := bkB.cell 8
      obtain ⟨r, hr⟩ : ∃ r, a.set[k]? = some r := ⟨_, List.getElem?_eq_getElem hlt⟩
      obtain ⟨q, hq⟩ : ∃ q, b.set[k]? = some q := ⟨_, List.getElem?_eq_getElem (by have := unhide HLS; omega)⟩
      obtain ⟨ba, oa, rfl, hba, hca⟩ := (unhide HSA) (by omega)
      obtain ⟨bb, ob, rfl, hbb, hcb⟩ := (unhide HSB) (by omega)
      have r0 := (hca k r hr).1
      have r1 := (hca k r hr).2
      have q0 := (hcb k q hq).1
      have q1 := (hcb k q hq).2
      have HRQ := hide (And.intro hr hq)
      clear hca hcb hr hq hba hbb bkA bkB
      by_cases h1 : r.1 = q.1 ∧ r.2 = q.2
      · have e1 : (r.1 == q.1) = true := by simp [h1.1]
        have e2 : (r.2 == q.2) = true := by simp [h1.2]
        have HRE := hide (show r = q from Prod.ext h1.1 h1.2)
        clear h1
        go_wp2_with fail
        go_quiet (fail)
        go_wp2_with fail
        refine ⟨⟨k + 1, n + nq, by go_num, by omega, fun j hj => ?_, rfl⟩, by simp [intOf]; omega⟩
        exact step_eq (unhide HEQ) (unhide HRQ).1 (unhide HRQ).2 (unhide HRE) j hj
      · have HNE := hide (show ¬ a.set = b.set from fun e => h1 (by
          have h := unhide HRQ
          rw [e] at h
          have := Option.some.inj (h.1.symm.trans h.2)
          rw [this]; exact ⟨rfl, rfl⟩))
        have HR := hide (show alikeN a b = false by unfold alikeN; rw [decide_eq_false_iff_not]; rintro ⟨_, _, _, _, _, _, p, _⟩; exact unhide HNE p)
        by_cases h0 : r.1 = q.1
        · have e1 : (r.1 == q.1) = true := by simp [h0]
          have e2 : (r.2 == q.2) = false := by simp; exact fun h => h1 ⟨h0, h⟩
          clear h0 h1
          go_wp2_with fail
          go_quiet (fail)
          go_wp2_with fail
          go_ret
          first | exact ⟨by rw [unhide HR]; try rfl, below_drewN (unhide HW) _⟩ | exact ⟨by rw [unhide HR]; try rfl, below_drewN (below_drewN (unhide HW) _) _⟩
        · have e1 : (r.1 == q.1) = false := by simp [h0]
          clear h0 h1
          go_wp2_with fail
          go_quiet (fail)
          go_wp2_with fail
          go_ret
          first | exact ⟨by rw [unhide HR]; try rfl, below_drewN (unhide HW) _⟩ | exact ⟨by rw [unhide HR]; try rfl, below_drewN (below_drewN (unhide HW) _) _⟩
    · have hka : (a.set.length : Int) ≤ (k : Int) := by omega
      have HSE := hide (show a.set = b.set from all_eq (unhide HEQ) (by omega) (unhide HLS))
      have a9 := bkA.cell 9
      have b9 := bkB.cell 9
      clear bkA bkB hlt
      obtain ⟨m0, rfl⟩ : ∃ m0 : Nat, m0 = n := ⟨_, rfl⟩
      go_wp2_with fail
      go_loopw [86] (fun i wr => QRel a.kids b.kids w ((w.alloc (.cells #[.int .i64 a.kind, .int .i64 a.from_, .int .i64 a.to_, .int .i64 a.num, .int .i64 a.mn, .int .i64 a.mx, .int .i64 a.mode, str a.name, .slice Sa a.set.length csa, .slice Ka a.kids.length cka] 42)).alloc (.cells #[.int .i64 b.kind, .int .i64 b.from_, .int .i64 b.to_, .int .i64 b.num, .int .i64 b.mn, .int .i64 b.mx, .int .i64 b.mode, str b.name, .slice Sb b.set.length csb, .slice Kb b.kids.length ckb] 42)) i wr) (fun i _ => a.kids.length - (intOf i).toNat)
      case atStart => exact ⟨0, m0, rfl, by omega, fun j hj => absurd hj (by omega), rfl⟩
      case round =>
        obtain ⟨k, n, rfl, hk, heq, rfl⟩ := hrel
        go_hideQ
        have HEQ := hide heq
        have bkA := ((Blk.new w 42 #[.int .i64 a.kind, .int .i64 a.from_, .int .i64 a.to_, .int .i64 a.num, .int .i64 a.mn, .int .i64 a.mx, .int .i64 a.mode, str a.name, .slice Sa a.set.length csa, .slice Ka a.kids.length cka]).alloc (.cells #[.int .i64 b.kind, .int .i64 b.from_, .int .i64 b.to_, .int .i64 b.num, .int .i64 b.mn, .int .i64 b.mx, .int .i64 b.mode, str b.name, .slice Sb b.set.length csb, .slice Kb b.kids.length ckb] 42)).drewN n
        have bkB := (Blk.new (w.alloc (.cells #[.int .i64 a.kind, .int .i64 a.from_, .int .i64 a.to_, .int .i64 a.num, .int .i64 a.mn, .int .i64 a.mx, .int .i64 a.mode, str a.name, .slice Sa a.set.length csa, .slice Ka a.kids.length cka] 42)) 42 #[.int .i64 b.kind, .int .i64 b.from_, .int .i64 b.to_, .int .i64 b.num, .int .i64 b.mn, .int .i64 b.mx, .int .i64 b.mode, str b.name, .slice Sb b.set.length csb, .slice Kb b.kids.length ckb]).drewN n
        rw [World.size_alloc] at bkB
        clear heq
        by_cases hlt : k < a.kids.length
        · have hka : (k : Int) < (a.kids.length : Int) := by omega
          have hkb : (k : Int) < (b.kids.length : Int) := by have := unhide HLK; omega
          have a9 := bkA.cell 9
          have b9 := bkB.cell 9
          obtain ⟨r, hr⟩ : ∃ r, a.kids[k]? = some r := ⟨_, List.getElem?_eq_getElem hlt⟩
          obtain ⟨q, hq⟩ : ∃ q, b.kids[k]? = some q := ⟨_, List.getElem?_eq_getElem (by have := unhide HLK; omega)⟩
          obtain ⟨ba, oa, rfl, hba, hca⟩ := (unhide HKA).flat (by omega)
          obtain ⟨bb, ob, rfl, hbb, hcb⟩ := (unhide HKB).flat (by have := unhide HLK; omega)
          have r0 := hca k (.int .i64 r) (by simp [hr])
          have q0 := hcb k (.int .i64 q) (by simp [hq])
          have HRQ := hide (And.intro hr hq)
          clear hca hcb hr hq hba hbb bkA bkB
          by_cases h1 : r = q
          · have e1 : (r != q) = false := by simp [h1]
            have HRE := hide h1
            clear h1
            go_wp2_with fail
            go_quiet (fail)
            go_wp2_with fail
            refine ⟨⟨k + 1, n + nq, by go_num, by omega, fun j hj => ?_, rfl⟩, by simp [intOf]; omega⟩
            exact step_eq (unhide HEQ) (unhide HRQ).1 (unhide HRQ).2 (unhide HRE) j hj
          · have HNE := hide (show ¬ a.kids = b.kids from fun e => h1 (by
              have h := unhide HRQ
              rw [e] at h
              exact Option.some.inj (h.1.symm.trans h.2)))
            have HR := hide (show alikeN a b = false by unfold alikeN; rw [decide_eq_false_iff_not]; rintro ⟨_, _, _, _, _, _, _, p⟩; exact unhide HNE p)
            have e1 : (r != q) = true := by simp [h1]
            clear h1
            go_wp2_with fail
            go_quiet (fail)
            go_wp2_with fail
            go_ret
            first | exact ⟨by rw [unhide HR]; try rfl, below_drewN (unhide HW) _⟩ | exact ⟨by rw [unhide HR]; try rfl, below_drewN (below_drewN (unhide HW) _) _⟩
        · have hka : (a.kids.length : Int) ≤ (k : Int) := by omega
          have HKE := hide (show a.kids = b.kids from all_eq (unhide HEQ) (by omega) (unhide HLK))
          have HR := hide (show alikeN a b = true by unfold alikeN; rw [decide_eq_true_iff]; exact ⟨(unhide HE).1, (unhide HE).2.1, (unhide HE).2.2.1, (unhide HE).2.2.2.1, (unhide HE).2.2.2.2.1, (unhide HE).2.2.2.2.2, unhide HSE, unhide HKE⟩)
          clear bkA bkB hlt
          go_wp2_with fail
          go_ret
          first | exact ⟨by rw [unhide HR]; try rfl, below_drewN (unhide HW) _⟩ | exact ⟨by rw [unhide HR]; try rfl, below_drewN (below_drewN (unhide HW) _) _⟩

theorem alike_any (a b : Nd) (Sa Sb Ka Kb : Option Addr) (csa csb cka ckb : Nat) (w : World)
    (hs1 : a.set.length ≤ csa) (hs2 : csa ≤ 9223372036854775807) (hs3 : b.set.length ≤ csb) (hs4 : csb ≤ 9223372036854775807) (hk1 : a.kids.length ≤ cka) (hk2 : cka ≤ 9223372036854775807) (hk3 : b.kids.length ≤ ckb) (hk4 : ckb ≤ 9223372036854775807) (hsa : Lst w w.heap.size Sa a.set) (hsb : Lst w w.heap.size Sb b.set) (hka : Reads w w.heap.size 1 Ka a.kids.length (a.kids.map Mem.i64)) (hkb : Reads w w.heap.size 1 Kb b.kids.length (b.kids.map Mem.i64)) :
    Calls Tryd.prog 15 #[.agg #[.int .i64 a.kind, .int .i64 a.from_, .int .i64 a.to_, .int .i64 a.num, .int .i64 a.mn, .int .i64 a.mx, .int .i64 a.mode, str a.name, .slice Sa a.set.length csa, .slice Ka a.kids.length cka], .agg #[.int .i64 b.kind, .int .i64 b.from_, .int .i64 b.to_, .int .i64 b.num, .int .i64 b.mn, .int .i64 b.mx, .int .i64 b.mode, str b.name, .slice Sb b.set.length csb, .slice Kb b.kids.length ckb]] w fun e w' => e = .returned (.bool (alikeN a b)) ∧ Below w.heap.size w w' := by
  by_cases h_kind : a.kind = b.kind
  rotate_left
  · exact alike_kind a b Sa Sb Ka Kb csa csb cka ckb w hs1 hs2 hs3 hs4 hk1 hk2 hk3 hk4 h_kind
  by_cases h_num : a.num = b.num
  rotate_left
  · exact alike_num a b Sa Sb Ka Kb csa csb cka ckb w hs1 hs2 hs3 hs4 hk1 hk2 hk3 hk4 h_kind h_num
  by_cases h_mn : a.mn = b.mn
  rotate_left
  · exact alike_mn a b Sa Sb Ka Kb csa csb cka ckb w hs1 hs2 hs3 hs4 hk1 hk2 hk3 hk4 h_kind h_num h_mn
  by_cases h_mx : a.mx = b.mx
  rotate_left
  · exact alike_mx a b Sa Sb Ka Kb csa csb cka ckb w hs1 hs2 hs3 hs4 hk1 hk2 hk3 hk4 h_kind h_num h_mn h_mx
  by_cases h_mode : a.mode = b.mode
  rotate_left
  · exact alike_mode a b Sa Sb Ka Kb csa csb cka ckb w hs1 hs2 hs3 hs4 hk1 hk2 hk3 hk4 h_kind h_num h_mn h_mx h_mode
  by_cases h_name : a.name = b.name
  rotate_left
  · exact alike_name a b Sa Sb Ka Kb csa csb cka ckb w hs1 hs2 hs3 hs4 hk1 hk2 hk3 hk4 h_kind h_num h_mn h_mx h_mode h_name
  by_cases h_set : a.set.length = b.set.length
  rotate_left
  · exact alike_set a b Sa Sb Ka Kb csa csb cka ckb w hs1 hs2 hs3 hs4 hk1 hk2 hk3 hk4 h_kind h_num h_mn h_mx h_mode h_name h_set
  by_cases h_kids : a.kids.length = b.kids.length
  rotate_left
  · exact alike_kids a b Sa Sb Ka Kb csa csb cka ckb w hs1 hs2 hs3 hs4 hk1 hk2 hk3 hk4 h_kind h_num h_mn h_mx h_mode h_name h_set h_kids
  exact alike_rest a b Sa Sb Ka Kb csa csb cka ckb w hs1 hs2 hs3 hs4 hk1 hk2 hk3 hk4 h_kind h_num h_mn h_mx h_mode h_name h_set h_kids hsa hsb hka hkb
end Go.Proofs.YtckgbalmpddblaaDoor.As
