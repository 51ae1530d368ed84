/-
  The reference's New, walked. Condition: at most 1000 numbers.
-/
import Derived.Test.YtjnljhigaapalaaUnRefPut
set_option linter.unusedVariables false
set_option linter.unusedSimpArgs false
namespace Go.Proofs.Ytjnljhigaapalaa.Un
open Go.RowKit Go.Proofs.Ytjnljhigaapalaa.Mem
open Go.Proofs.Ytjnljhigaapalaa.Ev (CV intA below_box ret_b own_reads own_below own_base)
theorem build_B (A : Option Addr) (n c : Nat) (w : World) : Sem.run Try.prog (Instr.build 30 #[(0, .slice A n c)]) w = .ok (.agg #[.slice A n c]) w := run_build w 30 _ _ (by kernel_rfl)
def NRel (n : Nat) (x : Int) (w : World) (v i : Value) (wr : World) : Prop := ∃ k : Nat, i = .int .i64 k ∧ k ≤ n ∧ wr.ownsRow (w.heap.size + 1) 3 1 v k ((List.replicate k x).map Mem.i64) ∧ Blk wr w.heap.size 30 #[.slice none 0 0] ∧ Below w.heap.size w wr ∧ w.heap.size + 1 ≤ wr.heap.size
section
attribute [local go_sem] build_B
set_option maxRecDepth 100000 in
set_option maxHeartbeats 2000000 in
theorem rnew_any (n : Nat) (x : Int) (w : World) (hn : n ≤ 1000) : Calls Try.prog 8 #[.int .i64 (n : Int), .int .i64 x] w fun e w' => (∃ A c, e = .returned (.agg #[.slice A 1 c]) ∧ RV [List.replicate n x] A c (fun k => w.heap.size ≤ k ∧ k < w'.heap.size) w') ∧ Below w.heap.size w w' := by
  have h2 := zero_B.1
  obtain ⟨i0, hi, hz0, hz1, hz2⟩ := info_parts info_int
  have HR0 := hide (show NRel n x w (.slice none 0 0) (.int .i64 0) (w.alloc (.cells #[.slice none 0 0] 30)) from ⟨0, rfl, by omega, World.ownsRow_nil _ _ _ _, Blk.new _ _ _, below_box _ _, by simp⟩)
  go_enter Try.func8, Try.ntmps8
  go_wp2_with fail
  go_loopw [5, 6] (fun v i wr => NRel n x w v i wr) (fun _ i _ => n - (intOf i).toNat)
  case atStart => exact unhide HR0
  case round =>
    obtain ⟨k, rfl, hk, ho, hb, hbl, hsz⟩ := hrel
    go_hideQ
    have HO := hide ho
    have HBK := hide hb
    have HBL := hide hbl
    clear ho hb hbl
    by_cases hlt : k < n
    · have hki : (k : Int) < (n : Int) := by omega
      have hmx : k + 1 ≤ maxLen := by unfold maxLen; omega
      go_wp2_with (at_builtin; refine wpList_append_any _ rfl (.tmp 12) (.tmp 14) 32 rfl (w.heap.size + 1) 3 i0 (.int .i64 0) 1 8 Try.underlying32 hi hz0 hz1 hz2 rfl (by decide) _ k _ rfl ((unhide HO).alloc _) _ _ 1 _ [.int .i64 x] rfl (reads_new1 _ _ _) (by simp [Value.oneCell']) hmx (by omega) (by rw [World.size_alloc]; omega) ?_; intro v4 w4 ho4 hg4 hn4; have HO4 := hide ho4; have HG4 := hide hg4; clear ho4 hg4 hn4)
      have hg4 := unhide HG4
      have hR : NRel n x w v4 (.int .i64 ((k : Int) + 1)) w4 := by
        have hbk := (unhide HBK).alloc (.cells #[.int .i64 x] 3)
        refine ⟨k + 1, by go_num, by omega, ?_, hbk.grown hg4 (fun e => own_blk_ne ((unhide HO).alloc _) hbk (by decide) e.symm), ((unhide HBL).alloc (unhide HBL).size _).grown hg4 (by rw [World.size_alloc]; omega) (fun g e => by have := own_base (unhide HO) g e; omega), ?_⟩
        · rw [List.replicate_succ', List.map_append]
          exact unhide HO4
        · have := hg4.size
          rw [World.size_alloc] at this
          omega
      have hme : n - (intOf (.int .i64 ((k : Int) + 1))).toNat < n - k := by simp [intOf]; omega
      first | exact ⟨hR, hme⟩ | exact ⟨⟨_, _, _, hR, rfl, rfl, rfl⟩, hme⟩ | (go_roundw; exact hR; exact hme)
    · obtain rfl : k = n := by omega
      obtain ⟨A5, c5, hv5, -, h6, h7⟩ := own_reads (unhide HO)
      subst hv5
      have hbk := (unhide HBK).alloc (.cells #[.slice A5 k c5] 32)
      have b0 : (wr.alloc (.cells #[.slice A5 k c5] 32)).cell? ⟨w.heap.size, 0, none⟩ = some (.slice none 0 0) := hbk.cell 0
      have b1 := hbk.frozen 0
      have HBK2 := hide (hbk.set_ 0 (.slice (some ⟨wr.heap.size, 0, none⟩) 1 1))
      go_wp2_with fail
      have hbf : Below w.heap.size w ((wr.alloc (.cells #[.slice A5 k c5] 32)).setCell ⟨w.heap.size, 0, none⟩ (.slice (some ⟨wr.heap.size, 0, none⟩) 1 1)) := ((unhide HBL).alloc (unhide HBL).size _).setCell (p := ⟨w.heap.size, 0, none⟩) (Nat.le_refl _) _
      have hnb := (Blk.new wr 32 #[.slice A5 k c5]).far (p := ⟨w.heap.size, 0, none⟩) (by simp; omega) (.slice (some ⟨wr.heap.size, 0, none⟩) 1 1)
      have hof := ownsRow_setCell_other ((unhide HO).alloc (.cells #[.slice A5 k c5] 32)) (a := ⟨w.heap.size, 0, none⟩) (own_blk_ne ((unhide HO).alloc _) hbk (by decide)) (.slice (some ⟨wr.heap.size, 0, none⟩) 1 1)
      have hz : ((wr.alloc (.cells #[.slice A5 k c5] 32)).setCell ⟨w.heap.size, 0, none⟩ (.slice (some ⟨wr.heap.size, 0, none⟩) 1 1)).heap.size = wr.heap.size + 1 := by simp [World.setCell]
      refine bodyPost_ret (results_cell_row rfl _ _ w.heap.size 30 _ (0, 0) _ rfl (unhide HBK2) Try.underlying30 rfl (by kernel_rfl)) rfl ⟨⟨some ⟨wr.heap.size, 0, none⟩, 1, rfl, [.slice A5 k c5], ?_⟩, hbf⟩
      refine ⟨Nat.le_refl _, by omega, rfl, fun _ => ⟨wr.heap.size, rfl, ⟨(unhide HBL).size, by rw [hz]; omega⟩, by rw [hz]; omega, fun j v hv => ?_⟩, fun j l hl => ?_⟩
      · rw [hnb.cell j]
        simpa using hv
      · have hj : j = 0 := by
          have := (List.getElem?_eq_some_iff.1 hl).1
          simp at this
          omega
        subst hj
        rw [List.getElem?_cons_zero] at hl
        cases hl
        refine ⟨A5, c5, by rw [List.length_replicate]; rfl, ?_⟩
        rcases Nat.eq_zero_or_pos k with rfl | hk0
        · exact ⟨by simp, h7, fun h => absurd h (by simp)⟩
        · obtain ⟨t, rfl⟩ : ∃ t, k = t + 1 := ⟨k - 1, by omega⟩
          obtain ⟨g, c6, e6⟩ := ownsRow_succ hof
          cases e6
          have hg := own_base hof g rfl
          refine LV.of_own (by rw [List.length_replicate]) hof ⟨by omega, ?_⟩
          rcases hof.2 with ⟨h, -⟩ | ⟨g', cap, cur, e, -, h1, -⟩
          · cases h
          · cases e
            exact (Array.getElem?_eq_some_iff.1 h1).1
end
end Go.Proofs.Ytjnljhigaapalaa.Un
