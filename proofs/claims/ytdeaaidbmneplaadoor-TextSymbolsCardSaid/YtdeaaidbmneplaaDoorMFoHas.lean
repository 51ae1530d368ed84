/-
  fold.row.has and fold.lower, walked over the table as it lies.
-/
import Derived.Test.YtdeaaidbmneplaaDoorRows
import Derived.Test.YtdeaaidbmneplaaDoorMSymMem
import Derived.Test.YtdeaaidbmneplaaDoorMPuA
import Derived.IntWalk
import Derived.Lib.Walk
set_option linter.unusedSimpArgs false
set_option linter.unusedVariables false
namespace Go.Proofs.YtdeaaidbmneplaaDoor.Fo
open Go.RowKit Go.Proofs.YtdeaaidbmneplaaDoor.Mem
structure Tab (b off cap : Nat) (w : World) : Prop where
  head : w.cell? ⟨3, 0, none⟩ = some (.slice (some ⟨b, off, none⟩) 24 cap)
  rows : ∀ (k : Nat) (r : Row), U[k]? = some r → w.cell? ⟨b, off + k * 4, none⟩ = some (.int .i64 r.lo) ∧ w.cell? ⟨b, off + k * 4 + 1, none⟩ = some (.int .i64 r.hi) ∧ w.cell? ⟨b, off + k * 4 + 2, none⟩ = some (.int .i64 r.step) ∧ w.cell? ⟨b, off + k * 4 + 3, none⟩ = some (.int .i64 r.far)
  room : 24 ≤ cap
  top : cap ≤ 9223372036854775807
theorem Tab.keep {b off cap : Nat} {w w' : World} (h : Tab b off cap w) (h0 : w'.heap[3]? = w.heap[3]?) (h1 : w'.heap[b]? = w.heap[b]?) : Tab b off cap w' :=
  ⟨(World.cell?_of_block (w := w) (a := ⟨3, 0, none⟩) h0).trans h.head, fun k r hr => by
    obtain ⟨c0, c1, c2, c3⟩ := h.rows k r hr
    exact ⟨(World.cell?_of_block (w := w) (a := ⟨b, _, none⟩) h1).trans c0, (World.cell?_of_block (w := w) (a := ⟨b, _, none⟩) h1).trans c1, (World.cell?_of_block (w := w) (a := ⟨b, _, none⟩) h1).trans c2, (World.cell?_of_block (w := w) (a := ⟨b, _, none⟩) h1).trans c3⟩, h.room, h.top⟩
theorem Tab.lt {b off cap : Nat} {w : World} (h : Tab b off cap w) : 3 < w.heap.size ∧ b < w.heap.size := ⟨cell_lt h.head, cell_lt (h.rows 0 _ rfl).1⟩
theorem Tab.below {b off cap B : Nat} {w w' : World} (h : Tab b off cap w) (hb : Below B w w') (hB : w.heap.size ≤ B) : Tab b off cap w' :=
  h.keep (hb.block _ (by have := h.lt; omega)) (hb.block _ (by have := h.lt; omega))
theorem below_alloc' {w wr : World} (h : Below w.heap.size w wr) (o : Obj) : Below w.heap.size w (wr.alloc o) := h.alloc h.size o
theorem has_wrap {x : Int} {r : Row} (hr : r ∈ U) (hlo : -9223372036854775808 ≤ x) (hhi : x ≤ 9223372036854775807) : hasR (IntKind.i64.wrap (x - r.far)) r = hasR (x - r.far) r ∧ (hasR (x - r.far) r = true → IntKind.i64.wrap (x - r.far) = x - r.far) := by
  obtain ⟨h0, h1, h2, h3, h4, h5⟩ := row_ok r hr
  by_cases hw : IntKind.i64.wrap (x - r.far) = x - r.far
  · rw [hw]; exact ⟨rfl, fun _ => rfl⟩
  · have e1 : hasR (x - r.far) r = false := by
      rw [Bool.eq_false_iff]
      intro h
      obtain ⟨k0, k1, _⟩ := has_iff.1 h
      exact hw (by simp [IntKind.wrap, IntKind.bits, IntKind.signed]; omega)
    refine ⟨?_, fun h => by rw [e1] at h; cases h⟩
    rw [e1, Bool.eq_false_iff]
    intro h
    obtain ⟨k0, k1, _⟩ := has_iff.1 h
    refine hw ?_
    simp [IntKind.wrap, IntKind.bits, IntKind.signed] at k0 k1 ⊢
    omega
theorem wrap_ok (x : Int) (h : -9223372036854775808 ≤ x) (h2 : x ≤ 9223372036854775807) : IntKind.i64.wrap x = x := by simp [IntKind.wrap, IntKind.bits, IntKind.signed]; omega
set_option maxHeartbeats 1000000 in
theorem has_any (a b s f x : Int) (w : World) (h0 : 0 ≤ a) (h1 : b ≤ 1114367) (hs : s = 1 ∨ s = 2) :
    Calls Tryd.prog 58 #[.agg #[.int .i64 a, .int .i64 b, .int .i64 s, .int .i64 f], .int .i64 x] w fun e w' => e = .returned (.bool (hasR x ⟨a, b, s, f⟩)) ∧ Below w.heap.size w w' := by
  have hb := hide ((Below.refl w.heap.size w).alloc (Nat.le_refl _) (.cells #[.int .i64 a, .int .i64 b, .int .i64 s, .int .i64 f] 100))
  by_cases k0 : a ≤ x
  · by_cases k1 : x ≤ b
    · have hw : IntKind.i64.wrap (x - a) = x - a := wrap_ok _ (by omega) (by omega)
      rcases hs with rfl | rfl
      · have e := hide (show hasR x ⟨a, b, 1, f⟩ = true by simp [hasR, k0, k1])
        go_enter Tryd.func58, Tryd.ntmps58
        go_wp2
        go_ret
        exact ⟨by rw [unhide e]; try rfl, unhide hb⟩
      · have hh : hasR x ⟨a, b, 2, f⟩ = ((x - a).tmod 2 == 0) := by simp [hasR, k0, k1]
        have e := hide hh
        clear hh
        generalize hm : (x - a).tmod 2 = m at e
        by_cases hm0 : m = 0
        · have d : (m == 0) = true := by simp [hm0]
          have E := hide (show hasR x ⟨a, b, 2, f⟩ = true by rw [unhide e, d])
          clear hm0 e
          go_enter Tryd.func58, Tryd.ntmps58
          go_wp2
          go_ret
          exact ⟨by rw [unhide E]; try rfl, unhide hb⟩
        · have d : (m == 0) = false := by simp [hm0]
          have E := hide (show hasR x ⟨a, b, 2, f⟩ = false by rw [unhide e, d])
          clear hm0 e
          go_enter Tryd.func58, Tryd.ntmps58
          go_wp2
          go_ret
          exact ⟨by rw [unhide E]; try rfl, unhide hb⟩
    · have e := hide (show hasR x ⟨a, b, s, f⟩ = false by simp [hasR, k1])
      clear hs
      go_enter Tryd.func58, Tryd.ntmps58
      go_wp2
      go_ret
      exact ⟨by rw [unhide e]; try rfl, unhide hb⟩
  · have e := hide (show hasR x ⟨a, b, s, f⟩ = false by simp [hasR, k0])
    clear hs
    go_enter Tryd.func58, Tryd.ntmps58
    go_wp2
    go_ret
    exact ⟨by rw [unhide e]; try rfl, unhide hb⟩
def LRel (x : Int) (w : World) (i : Value) (wr : World) : Prop := ∃ k : Nat, i = .int .i64 k ∧ k ≤ 24 ∧ U.find? (hasR x) = (U.drop k).find? (hasR x) ∧ Below w.heap.size w wr
set_option maxHeartbeats 2000000 in
theorem lower_any (x : Int) (w : World) {b off cap : Nat} (hT : Tab b off cap w) :
    Calls Tryd.prog 52 #[.int .i64 x] w fun e w' => e = .returned (.int .i64 (withP x)) ∧ Below w.heap.size w w' := by
  have hd := hT.head
  have HT := hide hT
  clear hT
  go_enter Tryd.func52, Tryd.ntmps52
  go_wp2
  go_loopw [7] (fun i wr => LRel x w i wr) (fun i _ => 24 - (intOf i).toNat)
  case atStart => exact ⟨0, rfl, by omega, rfl, Below.refl _ _⟩
  case round =>
    obtain ⟨k, rfl, hk, hf, hbw⟩ := hrel
    by_cases hlt : k < 24
    · obtain ⟨r, hr⟩ : ∃ r, U[k]? = some r := ⟨_, List.getElem?_eq_getElem (show k < U.length from hlt)⟩
      obtain ⟨c0, c1, c2, c3⟩ := ((unhide HT).below hbw (Nat.le_refl _)).rows k r hr
      have hdr : U.drop k = r :: U.drop (k + 1) := by
        have hl := (List.getElem?_eq_some_iff.1 hr)
        rw [List.drop_eq_getElem_cons hl.1, hl.2]
      have hok := row_ok r (List.mem_of_getElem? hr)
      have hmem := hide (List.mem_of_getElem? hr)
      have hlt' : (k : Int) < 24 := by omega
      have hk0 : (0 : Int) ≤ (k : Int) := by omega
      have HF := hide hf
      have HD := hide hdr
      have HB := hide hbw
      obtain ⟨a, z, s, f⟩ := r
      simp only at c0 c1 c2 c3 hok
      have HO := hide hok
      clear hf hdr hr hbw hd hok
      go_wp2_with fail
      have hb1 := below_alloc' (unhide HB) (.cells #[.int .i64 a, .int .i64 z, .int .i64 s, .int .i64 f] 100)
      have hblk := Blk.new wr 100 #[.int .i64 a, .int .i64 z, .int .i64 s, .int .i64 f]
      clear c0 c1 c2 c3
      refine (has_any a z s f x _ (unhide HO).1 (unhide HO).2.2.1 (unhide HO).2.2.2.1).mono ?_
      rintro e w1 ⟨rfl, hw1⟩
      have hblk1 := hblk.below hw1 (by simp)
      have c3 := hblk1.cell 3
      have HB1 := hide (hb1.trans (hw1.mono hb1.size))
      clear hb1 hblk hw1 hblk1
      cases hh : hasR x ⟨a, z, s, f⟩ with
      | true =>
        have hlow := hide (show withP x = x + f by
          rw [← lowP_eq, lowP, unhide HF, unhide HD, List.find?_cons, hh])
        have hx := has_iff.1 hh
        have hwr : IntKind.i64.wrap (x + f) = x + f := wrap_ok _ (by have := unhide HO; simp only at hx; omega) (by have := unhide HO; simp only at hx; omega)
        clear hx hh
        go_wp2
        go_ret
        exact ⟨by rw [unhide hlow]; try rfl, unhide HB1⟩
      | false =>
        have hn := hide hh
        clear hh
        go_wp2
        first | go_roundw | refine ⟨?rel, ?measure⟩
        case rel => exact ⟨k + 1, by go_num, by omega, by rw [unhide HF, unhide HD, List.find?_cons, unhide hn], unhide HB1⟩
        case measure => simp [intOf]; omega
    · obtain rfl : k = 24 := by omega
      have hlow := hide (show withP x = x by rw [← lowP_eq, lowP, hf]; rfl)
      have HB := hide hbw
      clear hf hbw
      go_wp2
      go_ret
      exact ⟨by rw [unhide hlow]; try rfl, unhide HB⟩
end Go.Proofs.YtdeaaidbmneplaaDoor.Fo
