/-
  fold.spans, walked: the ranges outside which each number is alone in its orbit. Conditions: the table's variable holds the rows that the program's text lays.
-/
import Derived.Test.YtefjhdllcjjlpaaDoorFoHas
import Derived.Test.YtefjhdllcjjlpaaDoorFoClosePure
import Derived.Test.YtefjhdllcjjlpaaDoorRsCut
set_option linter.unusedVariables false
set_option linter.unusedSimpArgs false
namespace Go.Proofs.YtefjhdllcjjlpaaDoor.Fo
open Go.RowKit Go.Proofs.YtefjhdllcjjlpaaDoor.Mem
open Go.Proofs.YtefjhdllcjjlpaaDoor.Rs (R flat Cut info_range reads_new build_range below_al below_app flat_append)

attribute [local go_sem] Rs.build_range
def spanR (r : Row) : List R := [(r.lo, r.hi), (r.lo + r.far, r.hi + r.far)]
def spansOf (l : List Row) : List R := l.flatMap spanR
theorem spansOf_all : spansOf U = spansL := rfl
theorem spans_step {k : Nat} {r : Row} (hr : U[k]? = some r) : spansOf (U.take (k + 1)) = spansOf (U.take k) ++ spanR r := by
  obtain ⟨hlt, e⟩ := List.getElem?_eq_some_iff.1 hr
  rw [List.take_succ_eq_append_getElem hlt, e]
  simp [spansOf]
theorem spans_len : ∀ (l : List Row), (spansOf l).length = 2 * l.length
  | [] => rfl
  | r :: t => by
    have := spans_len t
    unfold spansOf at this ⊢
    rw [List.flatMap_cons, List.length_append, this]
    simp [spanR]; omega
def PRel2 (w : World) (v i : Value) (wr : World) : Prop := ∃ k : Nat, i = .int .i64 k ∧ k ≤ 24 ∧ Cut w (spansOf (U.take k)) v wr

set_option maxHeartbeats 2000000 in
theorem spans_any (w : World) {b off cap : Nat} (hT : Tab b off cap w) :
    Calls Tryd.prog 23 #[] w fun e w' => ∃ v, e = .returned v ∧ Cut w spansL v w' := by
  have hd := hT.head
  have HT := hide hT
  clear hT
  go_enter Tryd.func23, Tryd.ntmps23
  go_wp2
  go_loopw [1, 6] (fun v i wr => PRel2 w v i wr) (fun _ i _ => 24 - (intOf i).toNat)
  case atStart => exact ⟨0, rfl, by omega, World.ownsRow_nil _ _ _ _, Below.refl _ _⟩
  case round =>
    obtain ⟨k, rfl, hk, hcut⟩ := hrel
    by_cases hlt : k < 24
    · obtain ⟨r, hr⟩ : ∃ r, U[k]? = some r := ⟨_, List.getElem?_eq_getElem (show k < U.length from hlt)⟩
      obtain ⟨c0, c1, c2, c3⟩ := ((unhide HT).below hcut.2 (Nat.le_refl _)).rows k r hr
      have hok := row_ok r (List.mem_of_getElem? hr)
      have hst := spans_step hr
      have hlen : (spansOf (U.take k)).length ≤ 48 := by rw [spans_len, List.length_take]; omega
      have hlt' : (k : Int) < 24 := by omega
      have hk0 : (0 : Int) ≤ (k : Int) := by omega
      obtain ⟨a, z, s, f⟩ := r
      simp only at c0 c1 c2 c3 hok
      have hst2 := hide (show spansOf (U.take (k + 1)) = spansOf (U.take k) ++ [(a, z), (a + f, z + f)] from hst)
      have hw1 : IntKind.i64.wrap (a + f) = a + f := wrap_ok _ (by omega) (by omega)
      have hw2 : IntKind.i64.wrap (z + f) = z + f := wrap_ok _ (by omega) (by omega)
      have hcut2 : Cut w (spansOf (U.take k)) u1 (wr.alloc (.cells #[.int .i64 a, .int .i64 z, .int .i64 s, .int .i64 f] 52)) := ⟨hcut.1.alloc _, below_al hcut.2 hcut.2.size _⟩
      have hwz := hcut.2.size
      clear hr hd hok hst hcut
      generalize spansOf (U.take k) = pre at *
      have HCUT := hide hcut2
      clear hcut2
      have hmx : pre.length + 2 ≤ maxLen := by unfold maxLen; omega
      have hone : ∀ u ∈ (#[.int .i64 a, .int .i64 z, .int .i64 (a + f), .int .i64 (z + f)] : Array Value).toList, u.oneCell' = true := by simp [Value.oneCell']
      obtain ⟨i0, hi, hz0, hz1, hz2⟩ := info_parts info_range
      go_wp2_with (at_builtin; refine wpList_append_any _ rfl (.tmp 10) (.tmp 27) 29 rfl w.heap.size 32 i0 (.agg #[.int .i64 0, .int .i64 0]) 2 16 Tryd.underlying29 hi hz0 hz1 hz2 rfl (by decide) _ pre.length _ rfl ((unhide HCUT).1.alloc _) _ _ 2 2 _ rfl (Rs.reads_at (by rw [World.size_alloc]) #[.int .i64 a, .int .i64 z, .int .i64 (a + f), .int .i64 (z + f)] 32 2 2 rfl) hone hmx (by omega) (by rw [World.size_alloc, World.size_alloc]; omega) ?_; intro v5 w5 ho5 hg5 hn5; have HO5 := hide ho5; have HG5 := hide hg5; clear ho5 hg5 hn5)
      first | go_roundw | refine ⟨⟨_, _, _, ?rel, rfl, rfl, rfl⟩, ?measure⟩
      case rel =>
        refine ⟨k + 1, by go_num, by omega, ?_⟩
        rw [unhide hst2]
        exact ⟨by rw [flat_append, List.length_append]; exact unhide HO5, below_app (unhide HCUT).2 (unhide HCUT).1 (unhide HG5)⟩
      case measure => simp [intOf]; omega
    · obtain rfl : k = 24 := by omega
      have HC := hide (show Cut w spansL u1 wr from hcut)
      clear hcut
      go_wp2
      go_ret
      exact ⟨_, rfl, unhide HC⟩
end Go.Proofs.YtefjhdllcjjlpaaDoor.Fo
