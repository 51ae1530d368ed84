/-
  class.find, walked over the table of sets as it lies (a name and the ends of its ranges, as texts), with eithe
-/
import Derived.Test.YtdeaaidbmneplaaDoorMClEnds
import Derived.Test.YtdeaaidbmneplaaDoorProg
import Derived.LoopTactic
import Derived.Lib.Walk
import Derived.IntWalk
import Derived.KernelRfl
import Derived.Outline
import Derived.Deep.CutRange
import Derived.Deep.WholeRow
set_option linter.unusedSimpArgs false
set_option linter.unusedVariables false
namespace Go.Proofs.YtdeaaidbmneplaaDoor.Cl
open Go.RowKit Go.Proofs.YtdeaaidbmneplaaDoor.Mem Go.Proofs.YtdeaaidbmneplaaDoor.Rs
structure TabAt (b off cap : Nat) (w : World) : Prop where
  head : w.cell? ⟨2, 0, none⟩ = some (.slice (some ⟨b, off, none⟩) 14 cap)
  rows : ∀ (k : Nat) (n : List UInt8) (l : List R), nmB[k]? = some n → sets[k]? = some l → w.cell? ⟨b, off + k * 2, none⟩ = some (str n) ∧ w.cell? ⟨b, off + k * 2 + 1, none⟩ = some (str (endsOf l))
  room : 14 ≤ cap
  top : cap ≤ 9223372036854775807
def Tb (w : World) : Prop := ∃ b off cap, TabAt b off cap w
theorem TabAt.lt {b off cap : Nat} {w : World} (h : TabAt b off cap w) : 2 < w.heap.size ∧ b < w.heap.size := ⟨cell_lt h.head, cell_lt (h.rows 0 _ _ rfl rfl).1⟩
theorem TabAt.below {b off cap B : Nat} {w w' : World} (h : TabAt b off cap w) (hb : Below B w w') (hB : w.heap.size ≤ B) : TabAt b off cap w' :=
  ⟨(hb.cell (p := ⟨2, 0, none⟩) (by have := h.lt; show 2 < B; omega)).trans h.head, fun k n l hn hl => by
    obtain ⟨c0, c1⟩ := h.rows k n l hn hl
    exact ⟨(hb.cell (p := ⟨b, off + k * 2, none⟩) (by have := h.lt; show b < B; omega)).trans c0, (hb.cell (p := ⟨b, off + k * 2 + 1, none⟩) (by have := h.lt; show b < B; omega)).trans c1⟩, h.room, h.top⟩
theorem Tb.below {w w' : World} (h : Tb w) (hb : Below w.heap.size w w') : Tb w' := by
  obtain ⟨b, off, cap, h⟩ := h
  exact ⟨b, off, cap, h.below hb (Nat.le_refl _)⟩
def GivesF (s : List UInt8) (w : World) (e : Ending) (w' : World) : Prop := e = .returned (.tuple #[str (endsOf (nameL s)), .bool (isName s)]) ∧ Below w.heap.size w w'
def PRel (s : List UInt8) (W : World) (i : Value) (wr : World) : Prop := ∃ k : Nat, i = .int .i64 k ∧ k ≤ 14 ∧ (∀ j n, j < k → nmB[j]? = some n → n ≠ s) ∧ Below W.heap.size W wr
theorem place_hit {s n : List UInt8} {k : Nat} (hn : nmB[k]? = some n) (he : n = s) (hb : ∀ j m, j < k → nmB[j]? = some m → m ≠ s) : place s = some k := by
  unfold place
  obtain ⟨hk, rfl⟩ := List.getElem?_eq_some_iff.1 hn
  rw [List.findIdx?_eq_some_iff_getElem]
  exact ⟨hk, by simpa using he, fun j hj => by simpa using hb j _ hj (List.getElem?_eq_getElem (by omega))⟩
theorem place_none {s : List UInt8} (hb : ∀ j m, j < 14 → nmB[j]? = some m → m ≠ s) : place s = none := by
  unfold place
  rw [List.findIdx?_eq_none_iff]
  intro x hx
  obtain ⟨j, hj, rfl⟩ := List.mem_iff_getElem.1 hx
  simpa using hb j _ (by rw [nmB_len] at hj; exact hj) (List.getElem?_eq_getElem hj)
theorem name_hit {s : List UInt8} {k : Nat} {l : List R} (h : place s = some k) (hl : sets[k]? = some l) : nameL s = l ∧ isName s = true := by
  unfold nameL isName
  rw [h]
  exact ⟨by simp [List.getD, hl], rfl⟩
theorem name_none {s : List UInt8} (h : place s = none) : nameL s = [] ∧ isName s = false := by
  unfold nameL isName
  rw [h]
  exact ⟨rfl, rfl⟩
set_option maxHeartbeats 1000000 in
theorem word1 (n : List UInt8) (w : World) :
    Calls Tryd.prog 47 #[str n] w fun e w' => e = .returned (.bool (n == [119, 111, 114, 100])) ∧ w = w' := by
  go_enter Tryd.func47, Tryd.ntmps47
  go_wp2
  go_ret
  exact ⟨rfl, rfl⟩
set_option maxRecDepth 100000 in
set_option maxHeartbeats 4000000 in
theorem find_word (w : World) (hT : Tb w) : Calls Tryd.prog 46 #[.func (.func 47) #[] #[]] w (GivesF [119, 111, 114, 100] w) := by
  obtain ⟨tb, toff, tcap, hT⟩ := hT
  have HT := hide hT
  have c0 := hT.head
  have hr1 := hT.room
  have hr2 := hT.top
  have hlt := hT.lt
  clear hT
  go_enter Tryd.func46, Tryd.ntmps46
  go_wp2_with fail
  go_loopw [8] (fun i wr => PRel [119, 111, 114, 100] w i wr) (fun i _ => 14 - (intOf i).toNat)
  case atStart => exact ⟨0, rfl, by omega, fun j m hj => absurd hj (by omega), Below.refl _ _⟩
  case round =>
    obtain ⟨k, rfl, hk, hno, hb⟩ := hrel
    go_hideQ
    have HNO := hide hno
    have HB0 := hide hb
    clear hno hb
    by_cases hlt : k < 14
    · obtain ⟨n, hn⟩ : ∃ n, nmB[k]? = some n := ⟨_, List.getElem?_eq_getElem (by rw [nmB_len]; exact hlt)⟩
      obtain ⟨l, hl, hlm⟩ := sets_at hlt
      obtain ⟨c1, c2⟩ := (unhide HT).rows k n l hn hl
      have hlb := (unhide HT).lt
      have c1 : wr.cell? ⟨tb, toff + k * 2, none⟩ = some (str n) := ((unhide HB0).cell (p := ⟨tb, toff + k * 2, none⟩) hlb.2).trans c1
      have c2 : wr.cell? ⟨tb, toff + k * 2 + 1, none⟩ = some (str (endsOf l)) := ((unhide HB0).cell (p := ⟨tb, toff + k * 2 + 1, none⟩) hlb.2).trans c2
      have hki : (k : Int) < 14 := by omega
      have HN := hide hn
      have HL := hide hl
      have HE0 := hide (show GivesF [119, 111, 114, 100] w (.returned (.tuple #[str (endsOf l), .bool true])) (wr.alloc (.cells #[str n, str (endsOf l)] 97)) ∨ n ≠ [119, 111, 114, 100] from by
        by_cases he : n = [119, 111, 114, 100]
        · obtain ⟨k1, k2⟩ := name_hit (place_hit hn he (unhide HNO)) hl
          exact .inl ⟨by rw [k1, k2], (unhide HB0).alloc (unhide HB0).size _⟩
        · exact .inr he)
      generalize endsOf l = es at *
      clear hn hl hlm
      go_wp2_with fail
      refine (word1 n _).mono ?_
      rintro e w2 ⟨rfl, hw⟩
      subst hw
      have bk1 := Blk.new wr 97 #[str n, str es]
      have d0 := bk1.cell 0
      have d1 := bk1.cell 1
      by_cases he : n = [119, 111, 114, 100]
      · have hq1 : (n == [119, 111, 114, 100]) = true := by rw [beq_iff_eq]; exact he
        have HE := hide he
        clear he bk1
        go_wp2_with fail
        refine bodyPost_ret (v := .tuple #[str es, .bool true]) (by simp [results, Tryd.results46, go_sem]) rfl ?_
        exact (unhide HE0).resolve_right (fun h => h (unhide HE))
      · have hq1 : (n == [119, 111, 114, 100]) = false := by rw [beq_eq_false_iff_ne]; exact he
        have HE := hide he
        clear he d0 d1 bk1
        go_wp2_with fail
        have hR : PRel [119, 111, 114, 100] w (.int .i64 ((k : Int) + 1)) (wr.alloc (.cells #[str n, str es] 97)) := by
          refine ⟨k + 1, by go_num, by omega, fun j m hj hm => ?_, (unhide HB0).alloc (unhide HB0).size _⟩
          rcases Nat.lt_or_ge j k with h | h
          · exact (unhide HNO) j m h hm
          · obtain rfl : j = k := by omega
            obtain rfl := Option.some.inj ((unhide HN).symm.trans hm)
            exact unhide HE
        exact ⟨⟨_, _, _, _, _, _, _, _, _, _, _, _, _, _, hR, rfl⟩, by simp [intOf]; omega⟩
    · have hki : (14 : Int) ≤ (k : Int) := by omega
      obtain rfl : k = 14 := by omega
      obtain ⟨k1, k2⟩ := name_none (place_none (unhide HNO))
      have K := hide (show GivesF [119, 111, 114, 100] w (.returned (.tuple #[.string { data := #[] }, .bool false])) wr from ⟨by rw [k1, k2]; rfl, unhide HB0⟩)
      clear k1 k2
      go_wp2_with fail
      refine bodyPost_ret (v := .tuple #[.string { data := #[] }, .bool false]) (by simp [results, Tryd.results46, go_sem]) rfl ?_
      exact unhide K
end Go.Proofs.YtdeaaidbmneplaaDoor.Cl
