/-
  slices.SortFunc at a row of ranges of the call's own, by Lo: the library's contract, laid here; the closure walked.
-/
import Derived.Shelf.SlSortCmp.NoneTotal
import Derived.Shelf.SlSortCmp.WholeK
import Derived.Shelf.SlicesG.Cmp
import Derived.Shelf.Lay
import Derived.Shelf.SlGeneric
import Derived.Ground.SlsfProg
import Derived.Ground.SlgcProg
import Derived.Ground.NamesProg
import Derived.Test.YtiaelaepfhiabaaDoorRsMem
set_option linter.unusedVariables false
set_option linter.unusedSimpArgs false
namespace Go.Proofs
shelf_lay_g SlLaysF0.n6 Slsf 6 at Tryd 49 as Tryd.sortRg
shelf_lay_g SlLaysC2.n5 Slgc 5 at Tryd 51 as Tryd.cmpRg
end Go.Proofs
namespace Go.Proofs.YtiaelaepfhiabaaDoor.Rs
open Go.Shelf Go.RowKit Go.Proofs.YtiaelaepfhiabaaDoor.Mem

set_option maxHeartbeats 1000000 in
theorem by_lo (x y : R) (W : World) : Calls Tryd.prog 50 #[.agg #[.int .i64 x.1, .int .i64 x.2], .agg #[.int .i64 y.1, .int .i64 y.2]] W fun e w' => e = .returned (.int .i64 (Lib.compareInt x.1 y.1)) ∧ ∃ q os', w' = Sort.grow (W.drewN q) os' := by
  have hcon := fun W' => AnyG.cmp_Compare_int Tryd.cmpRg x.1 y.1 W'
  change ∀ W', Calls Tryd.prog 51 _ _ _ at hcon
  generalize Lib.compareInt x.1 y.1 = r at hcon ⊢
  go_enter Tryd.func50, Tryd.ntmps50
  go_wp2_with (go_at_call 51; refine (hcon _).mono ?_; rintro e w' ⟨rfl, rfl⟩)
  go_ret
  exact ⟨rfl, 0, _, by rw [Sort.alloc_eq_grow, Sort.alloc_eq_grow, Sort.grow_grow]; rfl⟩

theorem lays_lo (blk off size : Nat) (w : World) : CmpLays Tryd.prog 50 #[] enc 2 (fun x y : R => Lib.compareInt x.1 y.1) blk off size w :=
  fun _ _ _ _ x y => by_lo x y _

theorem lt_lo (x y : R) : ltOf (fun x y : R => Lib.compareInt x.1 y.1) x y = decide (x.1 < y.1) := by
  unfold ltOf Lib.compareInt
  by_cases h1 : x.1 < y.1
  · simp [h1]
  · by_cases h2 : y.1 < x.1 <;> simp [h1, h2]
theorem swo_lo : Sort.SWO (ltOf fun x y : R => Lib.compareInt x.1 y.1) where
  irrefl x := by rw [lt_lo]; simp
  trans x y z h1 h2 := by rw [lt_lo] at *; simp at *; omega
  ntrans x y z h1 h2 := by rw [lt_lo] at *; simp at *; omega

theorem flatK_flat (d : Array R) : (Sort.flatK enc 2 d).toList = flat d.toList := by
  apply List.ext_getElem?
  intro j
  by_cases hj : j < d.size * 2
  · have hd : j / 2 < d.size := by omega
    have e1 : (Sort.flatK enc 2 d).toList[j]? = some ((Sort.flatK enc 2 d)[j]!) := by
      rw [Array.getElem?_toList, getElem!_pos _ j (by simpa using hj), Array.getElem?_eq_getElem]
    have e2 : d.toList[j / 2]? = some d[j / 2]! := by
      rw [Array.getElem?_toList, getElem!_pos _ (j / 2) hd, Array.getElem?_eq_getElem hd]
    rw [e1, Sort.get_flatK enc 2 d j hj]
    rcases Nat.mod_two_eq_zero_or_one j with h | h
    · have h3 := flat_lo d.toList (j / 2)
      rw [e2, show j / 2 * 2 = j by omega] at h3
      rw [h3, h]; rfl
    · have h3 := flat_hi d.toList (j / 2)
      rw [e2, show j / 2 * 2 + 1 = j by omega] at h3
      rw [h3, h]; rfl
  · rw [List.getElem?_eq_none (by simp; omega), List.getElem?_eq_none (by rw [flat_len]; simp; omega)]

theorem sort_own (l : List R) (B : Nat) (v : Value) (w : World) (hlen : l.length ≤ 8796093021952) (h : w.ownsRow B 52 2 v l.length (flat l)) :
    Calls Tryd.prog 49 #[v, .func (.func 50) #[] #[]] w fun e w' => e = .returned (.tuple #[]) ∧
      ∃ s : List R, s.Perm l ∧ Sorted s ∧ s.length = l.length ∧ w'.ownsRow B 52 2 v l.length (flat s) ∧ w.grownBy w' v.ownBlock := by
  rcases h.2 with ⟨rfl, hn⟩ | ⟨g, cap, cur, rfl, hb, hh, hnc, hcm, hcs, htk⟩
  · have hl : l = [] := List.eq_nil_of_length_eq_zero hn
    subst hl
    have hc := AnyF.slices_SortFunc_none Tryd.sortRg none 0 (.func (.func 50) #[] #[]) w
    refine hc.mono ?_
    rintro e w' ⟨rfl, rfl⟩
    exact ⟨rfl, [], List.Perm.refl _, List.Pairwise.nil, rfl, h, World.grownBy.refl _ _⟩
  · have hgl : g < w.heap.size := by
      rcases Nat.lt_or_ge g w.heap.size with hlt | hge
      · exact hlt
      · rw [Array.getElem?_eq_none hge] at hh; cases hh
    have eg : ∀ args w, (callFunc 50 args).run Tryd.prog w = .ok (.enter 50 args) w := enters_of Tryd.func50 (by kernel_rfl) rfl
    have hH : Sort.HoldsK enc 2 w g 0 l.toArray := by
      intro j hj
      have hj2 : j < l.length * 2 := by simpa using hj
      have e1 : (Sort.flatK enc 2 l.toArray)[j]! = (flat l)[j]'(by rw [flat_len]; exact hj2) := by
        have e := flatK_flat l.toArray
        have e3 : (Sort.flatK enc 2 l.toArray).toList[j]? = (flat l)[j]? := by rw [e]
        rw [Array.getElem?_toList, Array.getElem?_eq_getElem hj, List.getElem?_eq_getElem (by rw [flat_len]; exact hj2)] at e3
        rw [getElem!_pos _ j hj]
        exact Option.some.inj e3
      refine ⟨?_, ?_⟩
      · rw [Nat.zero_add, cell_of_row w g j cur _ _ hh]
        have : (cur.toList.take (l.length * 2))[j]? = (flat l)[j]? := by rw [htk]
        rw [List.getElem?_take_of_lt hj2, Array.getElem?_toList] at this
        rw [this, List.getElem?_eq_getElem (by rw [flat_len]; exact hj2), e1]; rfl
      · simp [World.frozen?, hh]
    have hcon := AnyQ.slices_SortFunc Tryd.sortRg 2 Tryd.isAgg52 Tryd.sizeOf52 enc (fun _ => rfl) (fun x v hv => by simp [enc] at hv; rcases hv with rfl | rfl <;> rfl) (fun x y : R => Lib.compareInt x.1 y.1) swo_lo 50 #[] g 0 cap l.toArray w eg (lays_lo g 0 _ w) hH hgl (by simp; omega)
    change Calls Tryd.prog 49 #[.slice (some ⟨g, 0, none⟩) l.length cap, _] _ _ at hcon
    refine hcon.mono ?_
    rintro e w' ⟨rfl, d', n, os, hp, hs, rfl⟩
    have hsz : d'.size = l.length := by simpa using hp.1
    refine ⟨rfl, d'.toList, ?_, ?_, by simpa using hsz, ?_, ?_⟩
    · have h2 := hp.2.2
      have e1 : d'.extract 0 l.toArray.size = d' := by rw [show l.toArray.size = d'.size by simp [hsz]]; simp
      have e2 : l.toArray.extract 0 l.toArray.size = l.toArray := by simp
      rw [e1, e2] at h2
      simpa using h2
    · unfold Sorted
      rw [List.pairwise_iff_getElem]
      intro i j hi hj hij
      have hi' : i < d'.size := by simpa using hi
      have hj' : j < d'.size := by simpa using hj
      have h2 := hs i j (Nat.zero_le _) hij (by simp; omega)
      rw [lt_lo, getElem!_pos d' i hi', getElem!_pos d' j hj'] at h2
      simp at h2 ⊢
      exact h2
    · refine ⟨by rw [flat_len]; simp [hsz], .inr ⟨g, cap, Sort.putCells id 0 (Sort.flatK enc 2 d') cur, rfl, hb, ?_, hnc, hcm, by simp [Sort.putCells, hcs], ?_⟩⟩
      · show ((w.heap.modify g _) ++ os)[g]? = _
        rw [Array.getElem?_append_left (by simpa using hgl), Array.getElem?_modify, if_pos rfl, hh]
        rfl
      · rw [← flatK_flat]
        apply List.ext_getElem?
        intro j
        by_cases hj : j < l.length * 2
        · rw [List.getElem?_take_of_lt hj, Array.getElem?_toList, Array.getElem?_toList]
          have hjc : j < cur.size := by rw [hcs]; have := Nat.mul_le_mul_right 2 hnc; omega
          have hjf : j < (Sort.flatK enc 2 d').size := by simp [hsz, hj]
          simp only [Sort.putCells, Array.getElem?_mapIdx, Array.getElem?_eq_getElem hjc, Option.map_some, Nat.zero_le, true_and, Nat.zero_add, if_pos hjf, Nat.sub_zero, id]
          rw [getElem!_pos _ j hjf, Array.getElem?_eq_getElem hjf]
        · rw [List.getElem?_eq_none (by simp; omega), List.getElem?_eq_none (by simp; omega)]
    · refine ⟨rfl, rfl, rfl, by simp [sortWorldK, Sort.putRowK, Sort.grow], fun i hi hne => ?_⟩
      have hig : i ≠ g := fun e => hne (by subst e; rfl)
      show ((w.heap.modify g _) ++ os)[i]? = _
      rw [Array.getElem?_append_left (by simpa using hi), Array.getElem?_modify, if_neg (Ne.symm hig)]
end Go.Proofs.YtiaelaepfhiabaaDoor.Rs
