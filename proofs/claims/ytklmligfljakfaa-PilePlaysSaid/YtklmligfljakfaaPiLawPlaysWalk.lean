/-
  PilePlays, walked: true at any limit and any steps. No conditions but that the steps lie in memory.
-/
import Derived.Test.YtklmligfljakfaaPiPlay
import Derived.Deep.CutBlock
set_option linter.unusedVariables false
set_option linter.unusedSimpArgs false
namespace Go.Proofs.Ytklmligfljakfaa.Pi
open Go.RowKit Go.Proofs.Ytklmligfljakfaa.Mem Go.Proofs.Ytklmligfljakfaa.Kp
open Go.Proofs.Ytklmligfljakfaa.Plan (wp_plan plan pick pl_t pl_l pl_k pl_e pl_n pl_s pl_ls)
set_option maxRecDepth 100000 in
set_option maxHeartbeats 1000000 in
theorem plays_out (lim : Int) (l : List Opn) (A : Option Addr) (c : Nat) (w : World) (h : lim < 0 ∨ 65536 < lim) :
    Calls Try.prog 3 #[.int .i64 lim, .slice A l.length c] w fun e w' => e = .returned (.bool true) ∧ Below w.heap.size w w' := by
  have C := hide (anchor_any w)
  have C1 := hide (fun W => new_out lim W h)
  obtain ⟨q, hq⟩ : ∃ q, decide (lim < 0) = q := ⟨_, rfl⟩
  have HQ := hide (show q = false → decide (65536 < lim) = true by rw [← hq]; simp; omega)
  clear h
  go_enter Try.func3, Try.ntmps3
  go_wp2_with fail
  refine (unhide C).mono ?_
  rintro e w1 ⟨rfl, hb1⟩
  have HB1 := hide hb1
  clear hb1
  go_wp2_with fail
  refine ((unhide C1) _).mono ?_
  rintro e w2 ⟨rfl, rfl⟩
  cases q with
  | true =>
    go_wp2
    go_ret
    exact ⟨rfl, unhide HB1⟩
  | false =>
    have d1 := unhide HQ rfl
    go_wp2
    go_ret
    exact ⟨rfl, unhide HB1⟩
set_option maxRecDepth 100000 in
set_option maxHeartbeats 1000000 in
theorem plays_big (n : Nat) (l : List Opn) (A : Option Addr) (c : Nat) (w : World) (hn : n ≤ 65536) (h : 80 < l.length) :
    Calls Try.prog 3 #[.int .i64 (n : Int), .slice A l.length c] w fun e w' => e = .returned (.bool true) ∧ Below w.heap.size w w' := by
  have C := hide (anchor_any w)
  have d0 : decide ((n : Int) < 0) = false := by simp
  have d1 : decide ((65536 : Int) < (n : Int)) = false := by simp; omega
  have d2 : decide ((80 : Int) < (l.length : Int)) = true := by simp; omega
  have d3 : decide (80 < l.length) = true := by simp; omega
  have HN := hide hn
  clear h hn
  go_enter Try.func3, Try.ntmps3
  go_wp2_with fail
  refine (unhide C).mono ?_
  rintro e w1 ⟨rfl, hb1⟩
  have C1 := hide (new_in (fun k => k < w1.heap.size) w1.heap.size n w1 (unhide HN) (fun k h => h) (fun k h => h) (Nat.le_refl _))
  have HB1 := hide hb1
  clear C hb1
  go_wp2_with fail
  refine (unhide C1).mono ?_
  rintro e w2 ⟨⟨rfl, h2⟩, hb2⟩
  have HB2 := hide ((unhide HB1).trans (hb2.mono (unhide HB1).size))
  clear C1 h2 hb2
  go_wp2
  go_ret
  exact ⟨rfl, unhide HB2⟩
section
attribute [local go_sem high] slice_headE neq_bool_same
attribute [local go_sem] neq_same equal_same eq_guard build_en0
set_option maxRecDepth 100000 in
set_option maxHeartbeats 16000000 in
theorem plays_small (lim : Nat) (l : List Opn) (A0 : Option Addr) (c0 : Nat) (w : World) (hn : lim ≤ 65536) (hl : l.length ≤ 80) (ho : OV l A0 c0 w.heap.size w) :
    Calls Try.prog 3 #[.int .i64 (lim : Int), .slice A0 l.length c0] w fun e w' => e = .returned (.bool true) ∧ Below w.heap.size w w' := by
  have C := hide (anchor_any w)
  have d0 : decide ((lim : Int) < 0) = false := by simp
  have d1 : decide ((65536 : Int) < (lim : Int)) = false := by simp; omega
  have d2 : decide ((80 : Int) < (l.length : Int)) = false := by simp; omega
  have d3 : decide (80 < l.length) = false := by simp; omega
  have r1 := ho.room
  have r2 := ho.top
  have HO := hide ho
  obtain ⟨m, hm⟩ : ∃ m, l.length = m := ⟨_, rfl⟩
  have HM := hide hm
  rw [hm] at hl d2 d3 r1 ⊢
  have HN := hide hn
  have HLL := hide hl
  clear ho hm hl
  go_enter Try.func3, Try.ntmps3
  go_wp2_with fail
  refine (unhide C).mono ?_
  rintro e w1 ⟨rfl, hb1⟩
  have C1 := hide (new_in (fun k => k < w1.heap.size) w1.heap.size lim w1 (unhide HN) (fun k h => h) (fun k h => h) (Nat.le_refl _))
  have HB1 := hide hb1
  have HO1 := hide ((unhide HO).below hb1 (Nat.le_refl _))
  clear C hb1 HO
  go_wp2_with fail
  refine (unhide C1).mono ?_
  rintro e w2 ⟨⟨rfl, h2⟩, hb2⟩
  have HR0 := hide (show PRel w1 w1.heap.size lim m (.slice none 0 0) (.int .i64 0) (.int .i64 0) w2 from ⟨0, 0, rfl, Nat.zero_le _, rfl, _, [], none, 0, rfl, ⟨h2, World.ownsRow_nil _ _ _ _, fun g hg => by cases hg⟩, Nat.le_refl _, hb2⟩)
  clear C1 h2 hb2
  go_wp2_with fail
  go_loopw [7, 8, 50] (fun v ms i wr => PRel w1 w1.heap.size lim m v ms i wr) (fun _ _ i _ => m - (intOf i).toNat)
  case atStart => exact unhide HR0
  case round =>
    obtain ⟨k, most, rfl, hk, rfl, K, L, A, c, rfl, hgs, hLk, hbel⟩ := hrel
    go_hideQ
    by_cases hlt : k < m
    · obtain ⟨⟨ki, x0, x1, x2, x3, x4, x5⟩, hx⟩ : ∃ x, l[k]? = some x := ⟨_, List.getElem?_eq_getElem (by rw [unhide HM]; exact hlt)⟩
      obtain ⟨ob, off, eA, hbl, hc⟩ := ((unhide HO1).moved (w' := wr) (fun p hp => hbel.cell (Nat.lt_of_lt_of_le hp (unhide HB1).size))).lies (by rw [unhide HM]; omega)
      obtain ⟨q0, q1, q2, q3, q4, q5, q6⟩ := hc k _ hx
      simp only at q0 q1 q2 q3 q4 q5 q6
      subst eA
      have hki : (k : Int) < (m : Int) := by omega
      have hbx := below_box wr (oOp ki ⟨x0, x1, x2, x3, x4, x5⟩)
      have HOB := hide (Blk.new wr 32 #[.int .i64 ki, .bool x0, .int .i64 x1, .int .i64 x2, .int .i64 x3, .int .i64 x4, .int .i64 x5])
      obtain ⟨K1, hK1⟩ : ∃ K1 : Nat → Prop, (fun j => K j ∨ (wr.heap.size ≤ j ∧ j < (wr.alloc (oOp ki ⟨x0, x1, x2, x3, x4, x5⟩)).heap.size)) = K1 := ⟨_, rfl⟩
      have hg1 := hgs.more hbx
      rw [hK1] at hg1
      have HKO := hide (show K1 wr.heap.size by rw [← hK1]; exact .inr ⟨Nat.le_refl _, by simp⟩)
      have CB := hide (lbar_any L A c _ hg1.ev)
      have hkb : k ≤ 80 := by have := unhide HLL; omega
      obtain ⟨n, hn2⟩ : ∃ n, L.length = n := ⟨_, rfl⟩
      have HNL := hide hn2
      have hnk : n ≤ k := by omega
      have HNK := hide hnk
      have HG1 := hide hg1
      have HBE1 := hide (hbel.trans (hbx.mono hbel.size))
      rw [hn2] at CB ⊢
      clear hgs hbel hbx hc hx hbl hg1 hK1 hn2 hLk
      go_wp2_with fail
      refine (unhide CB).mono ?_
      rintro e w3 ⟨rfl, hb3⟩
      have HG3 := hide ((unhide HG1).below hb3)
      have HBE3 := hide ((unhide HBE1).trans (hb3.mono (unhide HBE1).size))
      have hob := (unhide HOB).below hb3 (by simp)
      have p0 := hob.cell 0
      have HOB3 := hide hob
      obtain ⟨z, hz⟩ : ∃ z, barZ L = z := ⟨_, rfl⟩
      have HZ := hide hz
      rw [hz]
      clear CB hb3 HG1 HBE1 HOB hob hz q0 q1 q2 q3 q4 q5 q6
      go_upto_block 2 with (fail)
      go_cut [7, 12, 13, 14, 15] from 51 to 208 (fun v _ _ _ _ wx => MRel w1 w1.heap.size lim most k v wx)
      case first =>
        rcases (by omega : ki = 1 ∨ ki = 2 ∨ ki = 3 ∨ ki = 4 ∨ (ki ≠ 1 ∧ ki ≠ 2 ∧ ki ≠ 3 ∧ ki ≠ 4)) with hkind | hkind | hkind | hkind | hkind
        · obtain rfl : ki = 1 := hkind
          have p1 := (unhide HOB3).cell 1
          have p2 := (unhide HOB3).cell 2
          have p3 := (unhide HOB3).cell 3
          have p4 := (unhide HOB3).cell 4
          have p5 := (unhide HOB3).cell 5
          have p6 := (unhide HOB3).cell 6
          have CP := hide (push_any (unhide HG3).pv ⟨x0, x1, x2, x3, x4, x5⟩)
          rw [unhide HNL] at CP
          by_cases hroom : n < lim
          · have hd : decide ((n : Int) < (lim : Int)) = true := by simpa using hroom
            have hd2 : decide (n < lim) = true := by simpa using hroom
            have e1 : pushL L lim ⟨x0, x1, x2, x3, x4, x5⟩ = L ++ [⟨x0, x1, x2, x3, x4, x5⟩] := by unfold pushL; rw [if_pos (by rw [unhide HNL]; exact hroom)]
            rw [hd2, e1] at CP
            clear e1
            go_wp2_with fail
            refine (unhide CP).mono ?_
            rintro e w5 ⟨rfl, h5, k5⟩
            have hob := k5.blk (unhide HOB3) (unhide HKO)
            have hg5 := (unhide HG3).piled h5 k5
            have s1 := hob.cell 1
            have s2 := hob.cell 2
            have s3 := hob.cell 3
            have s4 := hob.cell 4
            have s5 := hob.cell 5
            have s6 := hob.cell 6
            have HG5 := hide hg5
            have HBE5 := hide ((unhide HBE3).trans (k5.below (unhide HG3).pv.lo))
            clear CP h5 k5 hob hg5 p1 p2 p3 p4 p5 p6
            go_wp2_with (at_builtin; go_loud (refine wp_app_en (so := 73) (sn := 76) (x := ⟨x0, x1, x2, x3, x4, x5⟩) (unhide HG5) (unhide HNL) (by have := unhide HNK; omega) rfl rfl rfl rfl rfl ?_; intro K6 A6 c6 w6 hg6 hb6; have HG6 := hide hg6; have HBE6 := hide ((unhide HBE5).trans hb6); clear hg6 hb6))
            go_meet
            refine ⟨K6, L ++ [⟨x0, x1, x2, x3, x4, x5⟩], A6, c6, ?_, ?_, ?_, unhide HBE6⟩
            · rw [List.length_append, unhide HNL]; rfl
            · exact unhide HG6
            · rw [List.length_append, unhide HNL]; have := unhide HNK; simp; omega
          · have hd : decide ((n : Int) < (lim : Int)) = false := by simpa using hroom
            have hd2 : decide (n < lim) = false := by simpa using hroom
            have e1 : pushL L lim ⟨x0, x1, x2, x3, x4, x5⟩ = L := by unfold pushL; rw [if_neg (by rw [unhide HNL]; exact hroom)]
            rw [hd2, e1] at CP
            clear e1
            go_wp2_with fail
            refine (unhide CP).mono ?_
            rintro e w5 ⟨rfl, h5, k5⟩
            have HG5 := hide ((unhide HG3).piled h5 k5)
            have HBE5 := hide ((unhide HBE3).trans (k5.below (unhide HG3).pv.lo))
            clear CP h5 k5 p1 p2 p3 p4 p5 p6
            go_wp2_with fail
            go_meet
            refine ⟨K1, L, A, c, ?_, ?_, ?_, unhide HBE5⟩
            · rw [unhide HNL]
            · exact unhide HG5
            · rw [unhide HNL]; have := unhide HNK; omega
        · as_aux_lemma =>
            obtain rfl : ki = 2 := hkind
            have CP := hide (vpop_any (unhide HG3).pv)
            rw [unhide HNL] at CP
            obtain ⟨y, hy⟩ : ∃ y, lastE L = y := ⟨_, rfl⟩
            obtain ⟨t, ht⟩ : ∃ t, decide (0 < n) = t := ⟨_, rfl⟩
            have HY := hide hy
            have dt : decide ((0 : Int) < (n : Int)) = t := by rw [← ht]; apply Bool.eq_iff_iff.2; simp only [decide_eq_true_iff]; omega
            rw [hy, ht] at CP
            clear hy
            obtain ⟨y0, y1, y2, y3, y4, y5⟩ := y
            go_wp2_with fail
            refine (unhide CP).mono ?_
            rintro e w5 ⟨rfl, h5, k5⟩
            have hbx := below_box w5 (oEn ⟨y0, y1, y2, y3, y4, y5⟩)
            have hg5 := ((unhide HG3).piled h5 k5).below hbx
            have hbe5 := ((unhide HBE3).trans (k5.below (unhide HG3).pv.lo))
            have HS := hide (show (fun wx => Blk wx w5.heap.size 30 #[.bool y0, .int .i64 y1, .int .i64 y2, .int .i64 y3, .int .i64 y4, .int .i64 y5] ∧ GS K1 w1.heap.size w1.heap.size lim (L.take (n - 1)) L A c most wx ∧ Below w1.heap.size w1 wx) (w5.alloc (oEn ⟨y0, y1, y2, y3, y4, y5⟩)).drew from ⟨Blk.new w5 _ _, hg5.below (Below.refl _ _).drew, (hbe5.trans (hbx.mono hbe5.size)).drew⟩)
            have CA := hide (show ∀ wx, (fun wx => Blk wx w5.heap.size 30 #[.bool y0, .int .i64 y1, .int .i64 y2, .int .i64 y3, .int .i64 y4, .int .i64 y5] ∧ GS K1 w1.heap.size w1.heap.size lim (L.take (n - 1)) L A c most wx ∧ Below w1.heap.size w1 wx) wx → Calls Try.prog 11 #[.slice A n c] wx fun e w' => e = .returned (enV ⟨y0, y1, y2, y3, y4, y5⟩) ∧ (fun wx => Blk wx w5.heap.size 30 #[.bool y0, .int .i64 y1, .int .i64 y2, .int .i64 y3, .int .i64 y4, .int .i64 y5] ∧ GS K1 w1.heap.size w1.heap.size lim (L.take (n - 1)) L A c most wx ∧ Below w1.heap.size w1 wx) w' from fun wx h => by
              have := last_any L A c wx h.2.1.ev
              rw [unhide HNL, unhide HY] at this
              exact this.mono fun e w' ⟨h1, h2⟩ => ⟨h1, h.1.below h2 h.1.lt, h.2.1.below h2, h.2.2.trans (h2.mono h.2.2.size)⟩)
            clear CP h5 k5 hbx hg5 hbe5
            go_wp2_with fail
            refine wp_region_noPanic ?_
            refine wp_plan (fun wx => Blk wx w5.heap.size 30 #[.bool y0, .int .i64 y1, .int .i64 y2, .int .i64 y3, .int .i64 y4, .int .i64 y5] ∧ GS K1 w1.heap.size w1.heap.size lim (L.take (n - 1)) L A c most wx ∧ Below w1.heap.size w1 wx) [(.l, 0), (.t, 1), (.k, 2), (.t, 3), (.t, 4), (.t, 5), (.t, 6), (.t, 7), (.t, 8), (.t, 9), (.t, 10)] (by kernel_rfl) (by as_aux_lemma => kernel_rfl) (fun _ _ _ _ _ h => h) ?_
            simp only [plan, pick]
            repeat ((first | (apply pl_t; (· rfl); (· (intro w; go_simp; try with_reducible rfl))) | (apply pl_l; (· rfl); (· exact (unhide HS)); (· (rintro wx hS; obtain ⟨s0, s1, s2, s3, s4, s5⟩ := blk6 hS.1; clear hS; go_simp; try with_reducible rfl))) | (refine pl_s rfl ?_) | (refine pl_ls rfl (unhide HS) ?_)); try simp only [Act.put, List.setIfInBounds_toArray, List.set_cons_zero, List.set_cons_succ])
            refine pl_k fun K9 hK => ?_
            go_simp
            refine ((unhide CA) _ (unhide HS)).mono ?_
            rintro e w7 ⟨rfl, hs7⟩
            have HS7 := hide hs7
            go_simp
            refine hK.out _ _ hs7 ?_
            clear hK K9 hs7 CA
            repeat ((first | (apply pl_t; (· rfl); (· (intro w; go_simp; try with_reducible rfl))) | (apply pl_l; (· rfl); (· exact (unhide HS7)); (· (rintro wx hS; obtain ⟨s0, s1, s2, s3, s4, s5⟩ := blk6 hS.1; clear hS; go_simp; try with_reducible rfl))) | (refine pl_s rfl ?_) | (refine pl_ls rfl (unhide HS7) ?_)); try simp only [Act.put, List.setIfInBounds_toArray, List.set_cons_zero, List.set_cons_succ])
            refine pl_n (NoPanic.normal ?_)
            obtain ⟨j, hj⟩ : ∃ j, n - 1 = j := ⟨_, rfl⟩
            have hcut : GS K1 w1.heap.size w1.heap.size lim (L.take j) (L.take j) A c most w7 := by
              have := (unhide HS7).2.1
              rw [hj] at this
              exact this.cut (by rw [unhide HNL]; omega)
            have HC := hide hcut
            have HBE7 := hide (unhide HS7).2.2
            have hjn : j ≤ n := by omega
            have HJ := hide (show (L.take j).length = j by rw [List.length_take, unhide HNL]; omega)
            have HLM := hide (show n ≤ most by have := (unhide HG3).le; rw [unhide HNL] at this; exact this)
            have hnc : n ≤ c := by have := (unhide HG3).ev.room; rw [unhide HNL] at this; exact this
            have ws : IntKind.i64.wrap ((n : Int) - 1) = (n : Int) - 1 := by rw [IntKind.wrap_i64]; omega
            have HKJ := hide (show j ≤ k + 1 by have := unhide HNK; omega)
            rcases Nat.eq_zero_or_pos n with h0 | h0
            · have hj0 : j = 0 := by omega
              have hm1 : ¬ (n : Int) - 1 > 0 := by omega
              have hm2 : (n : Int) - 1 < 0 := by omega
              have hif : (if (n : Int) - 1 < 0 then (0 : Int) else (n : Int) - 1) = (j : Int) := by split <;> omega
              have hif3 : (if (0 : Int) < (n : Int) - 1 then (n : Int) - 1 else (0 : Int)) = (j : Int) := by split <;> omega
              have HH := hide (And.intro hj hj0)
              clear hj hj0 h0 hcut hm1 hm2
              go_wp2_with fail
              go_meet
              refine ⟨K1, L.take j, A, c, ?_, ?_, ?_, unhide HBE7⟩
              · rw [unhide HJ]
              · rw [unhide HJ, Nat.max_eq_left (by have := unhide HLM; omega)]; exact unhide HC
              · rw [unhide HJ]; exact unhide HKJ
            · have hif : (if (n : Int) - 1 < 0 then (0 : Int) else (n : Int) - 1) = (j : Int) := by split <;> omega
              have hif3 : (if (0 : Int) < (n : Int) - 1 then (n : Int) - 1 else (0 : Int)) = (j : Int) := by split <;> omega
              have HH := hide hj
              clear hj h0 hcut
              go_wp2_with fail
              go_meet
              refine ⟨K1, L.take j, A, c, ?_, ?_, ?_, unhide HBE7⟩
              · rw [unhide HJ]
              · rw [unhide HJ, Nat.max_eq_left (by have := unhide HLM; omega)]; exact unhide HC
              · rw [unhide HJ]; exact unhide HKJ
        · as_aux_lemma =>
            obtain rfl : ki = 3 := hkind
            have CP := hide (vcut_any (unhide HG3).pv)
            rcases barZ_form L with hz | ⟨j, hz, hj⟩
            · obtain rfl : z = -1 := by rw [← unhide HZ, hz]
              obtain ⟨e1, e2, e3⟩ := bar_none hz
              have HCN := hide e2
              rw [e1, e3, show en0 = ⟨false, 0, 0, 0, 0, 0⟩ from rfl] at CP
              clear e1 e2 e3 hz
              go_wp2_with fail
              refine (unhide CP).mono ?_
              rintro e w5 ⟨rfl, h5, k5⟩
              have hbx := below_box w5 (oEn ⟨false, 0, 0, 0, 0, 0⟩)
              have hg5 := ((unhide HG3).piled h5 k5).below hbx
              have hbe5 := ((unhide HBE3).trans (k5.below (unhide HG3).pv.lo))
              have HS := hide (show (fun wx => Blk wx w5.heap.size 30 #[.bool false, .int .i64 0, .int .i64 0, .int .i64 0, .int .i64 0, .int .i64 0] ∧ GS K1 w1.heap.size w1.heap.size lim (L.take (cutN L)) L A c most wx ∧ Below w1.heap.size w1 wx) (w5.alloc (oEn ⟨false, 0, 0, 0, 0, 0⟩)).drew from ⟨Blk.new w5 _ _, hg5.below (Below.refl _ _).drew, (hbe5.trans (hbx.mono hbe5.size)).drew⟩)
              clear CP h5 k5 hbx hg5 hbe5
              go_wp2_with fail
              refine wp_region_noPanic ?_
              refine wp_plan (fun wx => Blk wx w5.heap.size 30 #[.bool false, .int .i64 0, .int .i64 0, .int .i64 0, .int .i64 0, .int .i64 0] ∧ GS K1 w1.heap.size w1.heap.size lim (L.take (cutN L)) L A c most wx ∧ Below w1.heap.size w1 wx) [(.t, 0), (.t, 1), (.t, 2), (.t, 3), (.t, 4), (.t, 5), (.t, 6), (.t, 7), (.l, 8), (.t, 9), (.t, 10), (.t, 11), (.t, 12), (.t, 13), (.t, 14), (.t, 15), (.l, 16), (.t, 17), (.t, 18), (.t, 19), (.l, 20), (.t, 21), (.t, 22), (.t, 23)] (by kernel_rfl) (by as_aux_lemma => kernel_rfl) (fun _ _ _ _ _ h => h) ?_
              simp only [plan, pick]
              repeat ((first | (apply pl_t; (· rfl); (· (intro w; go_simp; try with_reducible rfl))) | (apply pl_l; (· rfl); (· exact (unhide HS)); (· (rintro wx hS; obtain ⟨s0, s1, s2, s3, s4, s5⟩ := blk6 hS.1; clear hS; go_simp; try with_reducible rfl))) | (refine pl_s rfl ?_) | (refine pl_ls rfl (unhide HS) ?_)); try simp only [Act.put, List.setIfInBounds_toArray, List.set_cons_zero, List.set_cons_succ])
              refine pl_n (NoPanic.normal ?_)
              have HBE7 := hide (unhide HS).2.2
              have HLM := hide (show n ≤ most by have := (unhide HG3).le; rw [unhide HNL] at this; exact this)
              have HC := hide (show GS K1 w1.heap.size w1.heap.size lim L L A c most (w5.alloc (oEn ⟨false, 0, 0, 0, 0, 0⟩)).drew by
                have := (unhide HS).2.1
                rw [unhide HCN, List.take_length] at this
                exact this)
              go_wp2_with fail
              go_meet
              refine ⟨K1, L, A, c, ?_, ?_, ?_, unhide HBE7⟩
              · rw [unhide HNL]
              · rw [unhide HNL, Nat.max_eq_left (by have := unhide HLM; omega)]; exact unhide HC
              · rw [unhide HNL]; have := unhide HNK; omega
            · obtain rfl : z = (j : Int) := by rw [← unhide HZ, hz]
              obtain ⟨e1, e2, e3⟩ := bar_some hz hj
              have HCN := hide e2
              obtain ⟨y, hy⟩ : ∃ y, barE L = y := ⟨_, rfl⟩
              rw [hy] at e1 CP
              have HE := hide e1
              rw [e3] at CP
              obtain ⟨y0, y1, y2, y3, y4, y5⟩ := y
              rw [unhide HNL] at hj
              have hj0 : decide ((0 : Int) ≤ (j : Int)) = true := by simp
              have hjn : (j : Int) < (n : Int) := by omega
              obtain ⟨rg, eR⟩ := (unhide HG3).form (by rw [unhide HNL]; omega)
              subst eR
              clear e1 e2 e3 hz hy
              go_wp2_with fail
              refine (unhide CP).mono ?_
              rintro e w5 ⟨rfl, h5, k5⟩
              have hbx := below_box w5 (oEn ⟨y0, y1, y2, y3, y4, y5⟩)
              have hg5 := ((unhide HG3).piled h5 k5).below hbx
              have hbe5 := ((unhide HBE3).trans (k5.below (unhide HG3).pv.lo))
              have HS := hide (show (fun wx => Blk wx w5.heap.size 30 #[.bool y0, .int .i64 y1, .int .i64 y2, .int .i64 y3, .int .i64 y4, .int .i64 y5] ∧ GS K1 w1.heap.size w1.heap.size lim (L.take (cutN L)) L (some ⟨rg, 0, none⟩) c most wx ∧ Below w1.heap.size w1 wx) (w5.alloc (oEn ⟨y0, y1, y2, y3, y4, y5⟩)).drew from ⟨Blk.new w5 _ _, hg5.below (Below.refl _ _).drew, (hbe5.trans (hbx.mono hbe5.size)).drew⟩)
              clear CP h5 k5 hbx hg5 hbe5
              go_wp2_with fail
              refine wp_region_noPanic ?_
              refine wp_plan (fun wx => Blk wx w5.heap.size 30 #[.bool y0, .int .i64 y1, .int .i64 y2, .int .i64 y3, .int .i64 y4, .int .i64 y5] ∧ GS K1 w1.heap.size w1.heap.size lim (L.take (cutN L)) L (some ⟨rg, 0, none⟩) c most wx ∧ Below w1.heap.size w1 wx) [(.t, 0), (.t, 1), (.t, 2), (.t, 3), (.t, 4), (.t, 5), (.t, 6), (.t, 7), (.l, 8), (.t, 9), (.t, 10), (.t, 11), (.t, 12), (.t, 13), (.t, 14), (.t, 15), (.l, 16), (.t, 17), (.t, 18), (.t, 19), (.l, 20), (.t, 21), (.t, 22), (.t, 23)] (by kernel_rfl) (by as_aux_lemma => kernel_rfl) (fun _ _ _ _ _ h => h) ?_
              simp only [plan, pick]
              repeat ((first | (apply pl_t; (· rfl); (· (intro w; go_simp; try with_reducible rfl))) | (apply pl_l; (· rfl); (· exact (unhide HS)); (· (rintro wx hS; obtain ⟨s0, s1, s2, s3, s4, s5⟩ := blk6 hS.1; obtain ⟨v0, v1, v2, v3, v4, v5⟩ := hS.2.1.six (unhide HE); simp only at v0 v1 v2 v3 v4 v5; clear hS; go_simp; try with_reducible rfl))) | (refine pl_s rfl ?_) | (refine pl_ls rfl (unhide HS) ?_)); try simp only [Act.put, List.setIfInBounds_toArray, List.set_cons_zero, List.set_cons_succ])
              refine pl_n (NoPanic.normal ?_)
              have HBE7 := hide (unhide HS).2.2
              have HLM := hide (show n ≤ most by have := (unhide HG3).le; rw [unhide HNL] at this; exact this)
              have HC := hide (show GS K1 w1.heap.size w1.heap.size lim (L.take j) (L.take j) (some ⟨rg, 0, none⟩) c most (w5.alloc (oEn ⟨y0, y1, y2, y3, y4, y5⟩)).drew by
                have := (unhide HS).2.1
                rw [unhide HCN] at this
                exact this.cut (by rw [unhide HNL]; omega))
              have HJ := hide (show (L.take j).length = j by rw [List.length_take, unhide HNL]; omega)
              have hnc : n ≤ c := by have := (unhide HG3).ev.room; rw [unhide HNL] at this; exact this
              have hjn2 : j ≤ n := by omega
              go_wp2_with fail
              go_meet
              refine ⟨K1, L.take j, some ⟨rg, 0, none⟩, c, ?_, ?_, ?_, unhide HBE7⟩
              · rw [unhide HJ]
              · rw [unhide HJ, Nat.max_eq_left (by have := unhide HLM; omega)]; exact unhide HC
              · rw [unhide HJ]; have := unhide HNK; omega
        · as_aux_lemma =>
            obtain rfl : ki = 4 := hkind
            have CP := hide (vclear_any (unhide HG3).pv)
            go_wp2_with fail
            refine (unhide CP).mono ?_
            rintro e w5 ⟨rfl, h5, k5⟩
            have HG5 := hide (((unhide HG3).piled h5 k5).nil_)
            have HBE5 := hide ((unhide HBE3).trans (k5.below (unhide HG3).pv.lo))
            clear CP h5 k5
            go_wp2_with fail
            go_meet
            exact ⟨K1, [], none, 0, rfl, by rw [List.length_nil, Nat.max_eq_left (Nat.zero_le _)]; exact unhide HG5, Nat.zero_le _, unhide HBE5⟩
        · as_aux_lemma =>
            obtain ⟨e1, e2, e3, e4⟩ := hkind
            have f1 : (ki == 1) = false := by simpa using e1
            have f2 : (ki == 2) = false := by simpa using e2
            have f3 : (ki == 3) = false := by simpa using e3
            have f4 : (ki == 4) = false := by simpa using e4
            have HLM := hide (show n ≤ most by have := (unhide HG3).le; rw [unhide HNL] at this; exact this)
            clear e1 e2 e3 e4
            go_wp2_with fail
            go_meet
            refine ⟨K1, L, A, c, ?_, ?_, ?_, unhide HBE3⟩
            · rw [unhide HNL]
            · rw [unhide HNL, Nat.max_eq_left (by have := unhide HLM; omega)]; exact unhide HG3
            · rw [unhide HNL]; have := unhide HNK; omega
      case rest =>
        as_aux_lemma =>
          obtain ⟨K2, L2, A2, c2, rfl, hg8, hL2, hbe8⟩ := hcut
          obtain ⟨n2, hn2⟩ : ∃ n2, L2.length = n2 := ⟨_, rfl⟩
          obtain ⟨m2, hm2⟩ : ∃ m2, max most n2 = m2 := ⟨_, rfl⟩
          rw [hn2, hm2] at hg8
          rw [hn2] at hL2
          have HN2 := hide hn2
          have HL2 := hide hL2
          have hif : (if (most : Int) < (n2 : Int) then (n2 : Int) else (most : Int)) = (m2 : Int) := by split <;> omega
          have CT := hide (vtop_any hg8.pv)
          obtain ⟨y, hy⟩ : ∃ y, lastE L2 = y := ⟨_, rfl⟩
          obtain ⟨t, ht⟩ : ∃ t, decide (0 < n2) = t := ⟨_, rfl⟩
          have HY := hide hy
          have dt : decide ((0 : Int) < (n2 : Int)) = t := by rw [← ht]; apply Bool.eq_iff_iff.2; simp only [decide_eq_true_iff]; omega
          rw [hn2, hy, ht] at CT
          have HG8 := hide hg8
          have HBE8 := hide hbe8
          have HM2 := hide hm2
          rw [hn2]
          clear hg8 hbe8 hn2 hm2 hy hL2 p0 HG3 HBE3 HOB3 HZ HNL HNK HKO
          obtain ⟨y0, y1, y2, y3, y4, y5⟩ := y
          have hn80 : n2 ≤ 81 := by have := unhide HL2; omega
          go_upto_region 36 with (fail)
          go_cut [8] from 142 to 145 (fun v wx => v = .int .i64 (m2 : Int) ∧ wx = wc)
          case first =>
            have hm := unhide HM2
            rcases Nat.lt_or_ge most n2 with hh | hh
            · have e1 : m2 = n2 := by omega
              have h1 : (most : Int) < (n2 : Int) := by omega
              have h2 : decide ((most : Int) < (n2 : Int)) = true := by simpa using h1
              clear hm hif
              go_wp2_with fail
              all_goals (go_meet; exact ⟨by rw [e1], rfl⟩)
            · have e1 : m2 = most := by omega
              have h1 : ¬ (most : Int) < (n2 : Int) := by omega
              have h2 : decide ((most : Int) < (n2 : Int)) = false := by simpa using h1
              clear hm hif
              go_wp2_with fail
              all_goals (go_meet; exact ⟨by rw [e1], rfl⟩)
          case rest =>
            obtain ⟨rfl, rfl⟩ := hcut
            clear hif
            go_wp2_with fail
            refine (unhide CT).mono ?_
            rintro e w9 ⟨rfl, hb9⟩
            have b9 := below_box w9 (oEn ⟨y0, y1, y2, y3, y4, y5⟩)
            have hb89 := hb9.trans (b9.mono hb9.size)
            have hg9 := (unhide HG8).below hb89
            have CB := hide (vbar_any hg9.pv)
            have HG9 := hide hg9
            have HBE9 := hide ((unhide HBE8).trans (hb89.mono (unhide HBE8).size))
            have HK9 := hide (Blk.new w9 30 #[.bool y0, .int .i64 y1, .int .i64 y2, .int .i64 y3, .int .i64 y4, .int .i64 y5])
            obtain ⟨u, hu⟩ : ∃ u, barE L2 = u := ⟨_, rfl⟩
            have HU := hide hu
            rw [hu] at CB
            clear hu CT hb9 b9 hb89 hg9
            obtain ⟨u0, u1, u2, u3, u4, u5⟩ := u
            obtain ⟨z2, hz2⟩ : ∃ z2, barZ L2 = z2 := ⟨_, rfl⟩
            have HZ2 := hide hz2
            rw [hz2] at CB
            clear hz2
            go_wp2_with fail
            refine (unhide CB).mono ?_
            rintro e w11 ⟨rfl, hb11⟩
            have b11 := below_box w11 (oEn ⟨u0, u1, u2, u3, u4, u5⟩)
            have hbb := hb11.trans (b11.mono hb11.size)
            have hg11 := (unhide HG9).below hbb
            have CX := hide (lbar_any L2 A2 c2 _ hg11.ev)
            rw [unhide HN2, unhide HZ2] at CX
            have HG11 := hide hg11
            have HBE11 := hide ((unhide HBE9).trans (hbb.mono (unhide HBE9).size))
            have HK9' := hide ((unhide HK9).below hbb (unhide HK9).lt)
            have HK11 := hide (Blk.new w11 30 #[.bool u0, .int .i64 u1, .int .i64 u2, .int .i64 u3, .int .i64 u4, .int .i64 u5])
            clear CB hb11 b11 hbb hg11 HG9 HBE9 HK9
            go_wp2_with fail
            refine (unhide CX).mono ?_
            rintro e w12 ⟨rfl, hb12⟩
            have htf : TF K2 w1 w1.heap.size lim L2 A2 c2 m2 w9.heap.size w11.heap.size ⟨y0, y1, y2, y3, y4, y5⟩ ⟨u0, u1, u2, u3, u4, u5⟩ w12.drew :=
              (⟨(unhide HK9').below hb12 (unhide HK9').lt, (unhide HK11).below hb12 (unhide HK11).lt, (unhide HG11).below hb12, (unhide HBE11).trans (hb12.mono (unhide HBE11).size)⟩ : TF _ _ _ _ _ _ _ _ _ _ _ _ w12).below (Below.refl _ _).drew
            have HS := hide htf
            clear CX hb12 htf HG11 HBE11 HK9' HK11
            have dn : ((n2 : Int) != (n2 : Int)) = false := by simp
            have dm : ((m2 : Int) != (m2 : Int)) = false := by simp
            rcases barZ_form L2 with hz | ⟨j, hz, hj⟩
            · obtain rfl : z2 = -1 := by rw [← unhide HZ2, hz]
              have hue : (⟨u0, u1, u2, u3, u4, u5⟩ : En) = en0 := by rw [← unhide HU]; exact (bar_none hz).1
              injection hue with i0 i1 i2 i3 i4 i5
              subst i0 i1 i2 i3 i4 i5
              clear hz
              have CL := hide (show ∀ wx, (TF K2 w1 w1.heap.size lim L2 A2 c2 m2 w9.heap.size w11.heap.size ⟨y0, y1, y2, y3, y4, y5⟩ ⟨false, 0, 0, 0, 0, 0⟩) wx → Calls Try.prog 16 #[.pointer (some ⟨w1.heap.size, 0, none⟩)] wx fun e w' => e = .returned (.int .i64 (n2 : Int)) ∧ w' = wx from fun wx h => by
                have := vlen_any h.gs.pv
                rw [unhide HN2] at this
                exact this)
              have CM := hide (show ∀ wx, (TF K2 w1 w1.heap.size lim L2 A2 c2 m2 w9.heap.size w11.heap.size ⟨y0, y1, y2, y3, y4, y5⟩ ⟨false, 0, 0, 0, 0, 0⟩) wx → Calls Try.prog 17 #[.pointer (some ⟨w1.heap.size, 0, none⟩)] wx fun e w' => e = .returned (.int .i64 (m2 : Int)) ∧ w' = wx from fun wx h => vmost_any h.gs.pv)
              have CA := hide (show ∀ wx, (TF K2 w1 w1.heap.size lim L2 A2 c2 m2 w9.heap.size w11.heap.size ⟨y0, y1, y2, y3, y4, y5⟩ ⟨false, 0, 0, 0, 0, 0⟩) wx → Calls Try.prog 11 #[.slice A2 n2 c2] wx fun e w' => e = .returned (enV ⟨y0, y1, y2, y3, y4, y5⟩) ∧ (TF K2 w1 w1.heap.size lim L2 A2 c2 m2 w9.heap.size w11.heap.size ⟨y0, y1, y2, y3, y4, y5⟩ ⟨false, 0, 0, 0, 0, 0⟩) w' from fun wx h => by
                have := last_any L2 A2 c2 wx h.gs.ev
                rw [unhide HN2, unhide HY] at this
                exact this.mono fun e w' ⟨h1, h2⟩ => ⟨h1, h.below h2⟩)
              go_wp2_with fail
              refine wp_region_noPanic ?_
              refine wp_plan (TF K2 w1 w1.heap.size lim L2 A2 c2 m2 w9.heap.size w11.heap.size ⟨y0, y1, y2, y3, y4, y5⟩ ⟨false, 0, 0, 0, 0, 0⟩) [(.t, 0), (.t, 2), (.t, 3), (.k, 1), (.t, 4), (.t, 5), (.t, 6), (.t, 8), (.k, 7), (.t, 9), (.t, 10), (.t, 11), (.l, 12), (.t, 13), (.k, 14), (.t, 15), (.t, 16), (.t, 17), (.t, 18), (.t, 19), (.t, 20), (.t, 21), (.t, 22), (.t, 23), (.t, 24), (.t, 25), (.t, 26), (.t, 27), (.t, 28), (.t, 29), (.t, 30), (.t, 31), (.t, 32), (.l, 33), (.t, 34), (.t, 35), (.t, 36), (.l, 37), (.t, 38), (.t, 39), (.t, 40), (.t, 41), (.t, 42), (.t, 43), (.t, 44), (.l, 45), (.t, 46), (.t, 47), (.t, 48), (.t, 49)] (by kernel_rfl) (by as_aux_lemma => kernel_rfl) (fun _ _ _ _ _ h => h) ?_
              simp only [plan, pick]
              repeat ((first | (apply pl_t; (· rfl); (· (intro w; go_simp; try with_reducible rfl))) | (apply pl_l; (· rfl); (· exact (unhide HS)); (· (rintro wx hS; obtain ⟨s0, s1, s2, s3, s4, s5⟩ := blk6 hS.k1; obtain ⟨t0, t1, t2, t3, t4, t5⟩ := blk6 hS.k2; clear hS; go_simp; try with_reducible rfl))) | (refine pl_s rfl ?_) | (refine pl_ls rfl (unhide HS) ?_)); try simp only [Act.put, List.setIfInBounds_toArray, List.set_cons_zero, List.set_cons_succ])
              refine pl_k fun K9 hK => ?_
              go_simp
              refine ((unhide CL) _ (unhide HS)).mono ?_
              rintro e wa ⟨rfl, hwa⟩
              subst hwa
              go_simp
              refine hK.out _ _ (unhide HS) ?_
              clear hK K9
              repeat ((first | (apply pl_t; (· rfl); (· (intro w; go_simp; try with_reducible rfl))) | (apply pl_l; (· rfl); (· exact (unhide HS)); (· (rintro wx hS; obtain ⟨s0, s1, s2, s3, s4, s5⟩ := blk6 hS.k1; obtain ⟨t0, t1, t2, t3, t4, t5⟩ := blk6 hS.k2; clear hS; go_simp; try with_reducible rfl))) | (refine pl_s rfl ?_) | (refine pl_ls rfl (unhide HS) ?_)); try simp only [Act.put, List.setIfInBounds_toArray, List.set_cons_zero, List.set_cons_succ])
              refine pl_k fun K9 hK => ?_
              go_simp
              refine ((unhide CM) _ (unhide HS)).mono ?_
              rintro e wa ⟨rfl, hwa⟩
              subst hwa
              go_simp
              refine hK.out _ _ (unhide HS) ?_
              clear hK K9
              repeat ((first | (apply pl_t; (· rfl); (· (intro w; go_simp; try with_reducible rfl))) | (apply pl_l; (· rfl); (· exact (unhide HS)); (· (rintro wx hS; obtain ⟨s0, s1, s2, s3, s4, s5⟩ := blk6 hS.k1; obtain ⟨t0, t1, t2, t3, t4, t5⟩ := blk6 hS.k2; clear hS; go_simp; try with_reducible rfl))) | (refine pl_s rfl ?_) | (refine pl_ls rfl (unhide HS) ?_)); try simp only [Act.put, List.setIfInBounds_toArray, List.set_cons_zero, List.set_cons_succ])
              refine pl_k fun K9 hK => ?_
              go_simp
              refine ((unhide CA) _ (unhide HS)).mono ?_
              rintro e wb ⟨rfl, hsb⟩
              have HS3 := hide hsb
              go_simp
              refine hK.out _ _ hsb ?_
              clear hK K9 hsb CL CM CA
              repeat ((first | (apply pl_t; (· rfl); (· (intro w; go_simp; try with_reducible rfl))) | (apply pl_l; (· rfl); (· exact (unhide HS3)); (· (rintro wx hS; obtain ⟨s0, s1, s2, s3, s4, s5⟩ := blk6 hS.k1; obtain ⟨t0, t1, t2, t3, t4, t5⟩ := blk6 hS.k2; clear hS; go_simp; try with_reducible rfl))) | (refine pl_s rfl ?_) | (refine pl_ls rfl (unhide HS3) ?_)); try simp only [Act.put, List.setIfInBounds_toArray, List.set_cons_zero, List.set_cons_succ])
              refine pl_n (NoPanic.normal ?_)
              have HR := hide (show PRel w1 w1.heap.size lim m (.slice A2 n2 c2) (.int .i64 (m2 : Int)) (.int .i64 ((k : Int) + 1)) wb from ⟨k + 1, m2, by go_num, by omega, rfl, K2, L2, A2, c2, by rw [unhide HN2], (unhide HS3).gs, by rw [unhide HN2]; exact unhide HL2, (unhide HS3).bel⟩)
              clear HS HS3
              go_wp2_with fail
              have hR := unhide HR
              have hme : m - (intOf (.int .i64 ((k : Int) + 1))).toNat < m - k := by simp [intOf]; omega
              first | exact ⟨hR, hme⟩ | exact ⟨⟨_, _, _, hR, rfl, rfl, rfl⟩, hme⟩ | exact ⟨⟨_, _, hR, rfl, rfl⟩, hme⟩ | (go_roundw; exact hR; exact hme)
            · obtain rfl : z2 = (j : Int) := by rw [← unhide HZ2, hz]
              rw [unhide HN2] at hj
              have hj0 : decide ((0 : Int) ≤ (j : Int)) = true := by simp
              have hjn : (j : Int) < (n2 : Int) := by omega
              have HE := hide (show L2[j]? = some ⟨u0, u1, u2, u3, u4, u5⟩ by rw [← unhide HU]; exact (bar_some hz (by rw [unhide HN2]; exact hj)).1)
              obtain ⟨rg, eR⟩ := (unhide HS).gs.form (by rw [unhide HN2]; omega)
              subst eR
              clear hz
              have CL := hide (show ∀ wx, (TF K2 w1 w1.heap.size lim L2 (some ⟨rg, 0, none⟩) c2 m2 w9.heap.size w11.heap.size ⟨y0, y1, y2, y3, y4, y5⟩ ⟨u0, u1, u2, u3, u4, u5⟩) wx → Calls Try.prog 16 #[.pointer (some ⟨w1.heap.size, 0, none⟩)] wx fun e w' => e = .returned (.int .i64 (n2 : Int)) ∧ w' = wx from fun wx h => by
                have := vlen_any h.gs.pv
                rw [unhide HN2] at this
                exact this)
              have CM := hide (show ∀ wx, (TF K2 w1 w1.heap.size lim L2 (some ⟨rg, 0, none⟩) c2 m2 w9.heap.size w11.heap.size ⟨y0, y1, y2, y3, y4, y5⟩ ⟨u0, u1, u2, u3, u4, u5⟩) wx → Calls Try.prog 17 #[.pointer (some ⟨w1.heap.size, 0, none⟩)] wx fun e w' => e = .returned (.int .i64 (m2 : Int)) ∧ w' = wx from fun wx h => vmost_any h.gs.pv)
              have CA := hide (show ∀ wx, (TF K2 w1 w1.heap.size lim L2 (some ⟨rg, 0, none⟩) c2 m2 w9.heap.size w11.heap.size ⟨y0, y1, y2, y3, y4, y5⟩ ⟨u0, u1, u2, u3, u4, u5⟩) wx → Calls Try.prog 11 #[.slice (some ⟨rg, 0, none⟩) n2 c2] wx fun e w' => e = .returned (enV ⟨y0, y1, y2, y3, y4, y5⟩) ∧ (TF K2 w1 w1.heap.size lim L2 (some ⟨rg, 0, none⟩) c2 m2 w9.heap.size w11.heap.size ⟨y0, y1, y2, y3, y4, y5⟩ ⟨u0, u1, u2, u3, u4, u5⟩) w' from fun wx h => by
                have := last_any L2 (some ⟨rg, 0, none⟩) c2 wx h.gs.ev
                rw [unhide HN2, unhide HY] at this
                exact this.mono fun e w' ⟨h1, h2⟩ => ⟨h1, h.below h2⟩)
              go_wp2_with fail
              refine wp_region_noPanic ?_
              refine wp_plan (TF K2 w1 w1.heap.size lim L2 (some ⟨rg, 0, none⟩) c2 m2 w9.heap.size w11.heap.size ⟨y0, y1, y2, y3, y4, y5⟩ ⟨u0, u1, u2, u3, u4, u5⟩) [(.t, 0), (.t, 2), (.t, 3), (.k, 1), (.t, 4), (.t, 5), (.t, 6), (.t, 8), (.k, 7), (.t, 9), (.t, 10), (.t, 11), (.l, 12), (.t, 13), (.k, 14), (.t, 15), (.t, 16), (.t, 17), (.t, 18), (.t, 19), (.t, 20), (.t, 21), (.t, 22), (.t, 23), (.t, 24), (.t, 25), (.t, 26), (.t, 27), (.t, 28), (.t, 29), (.t, 30), (.t, 31), (.t, 32), (.l, 33), (.t, 34), (.t, 35), (.t, 36), (.l, 37), (.t, 38), (.t, 39), (.t, 40), (.t, 41), (.t, 42), (.t, 43), (.t, 44), (.l, 45), (.t, 46), (.t, 47), (.t, 48), (.t, 49)] (by kernel_rfl) (by as_aux_lemma => kernel_rfl) (fun _ _ _ _ _ h => h) ?_
              simp only [plan, pick]
              repeat ((first | (apply pl_t; (· rfl); (· (intro w; go_simp; try with_reducible rfl))) | (apply pl_l; (· rfl); (· exact (unhide HS)); (· (rintro wx hS; obtain ⟨s0, s1, s2, s3, s4, s5⟩ := blk6 hS.k1; obtain ⟨t0, t1, t2, t3, t4, t5⟩ := blk6 hS.k2; obtain ⟨v0, v1, v2, v3, v4, v5⟩ := hS.gs.six (unhide HE); simp only at v0 v1 v2 v3 v4 v5; clear hS; go_simp; try with_reducible rfl))) | (refine pl_s rfl ?_) | (refine pl_ls rfl (unhide HS) ?_)); try simp only [Act.put, List.setIfInBounds_toArray, List.set_cons_zero, List.set_cons_succ])
              refine pl_k fun K9 hK => ?_
              go_simp
              refine ((unhide CL) _ (unhide HS)).mono ?_
              rintro e wa ⟨rfl, hwa⟩
              subst hwa
              go_simp
              refine hK.out _ _ (unhide HS) ?_
              clear hK K9
              repeat ((first | (apply pl_t; (· rfl); (· (intro w; go_simp; try with_reducible rfl))) | (apply pl_l; (· rfl); (· exact (unhide HS)); (· (rintro wx hS; obtain ⟨s0, s1, s2, s3, s4, s5⟩ := blk6 hS.k1; obtain ⟨t0, t1, t2, t3, t4, t5⟩ := blk6 hS.k2; obtain ⟨v0, v1, v2, v3, v4, v5⟩ := hS.gs.six (unhide HE); simp only at v0 v1 v2 v3 v4 v5; clear hS; go_simp; try with_reducible rfl))) | (refine pl_s rfl ?_) | (refine pl_ls rfl (unhide HS) ?_)); try simp only [Act.put, List.setIfInBounds_toArray, List.set_cons_zero, List.set_cons_succ])
              refine pl_k fun K9 hK => ?_
              go_simp
              refine ((unhide CM) _ (unhide HS)).mono ?_
              rintro e wa ⟨rfl, hwa⟩
              subst hwa
              go_simp
              refine hK.out _ _ (unhide HS) ?_
              clear hK K9
              repeat ((first | (apply pl_t; (· rfl); (· (intro w; go_simp; try with_reducible rfl))) | (apply pl_l; (· rfl); (· exact (unhide HS)); (· (rintro wx hS; obtain ⟨s0, s1, s2, s3, s4, s5⟩ := blk6 hS.k1; obtain ⟨t0, t1, t2, t3, t4, t5⟩ := blk6 hS.k2; obtain ⟨v0, v1, v2, v3, v4, v5⟩ := hS.gs.six (unhide HE); simp only at v0 v1 v2 v3 v4 v5; clear hS; go_simp; try with_reducible rfl))) | (refine pl_s rfl ?_) | (refine pl_ls rfl (unhide HS) ?_)); try simp only [Act.put, List.setIfInBounds_toArray, List.set_cons_zero, List.set_cons_succ])
              refine pl_k fun K9 hK => ?_
              go_simp
              refine ((unhide CA) _ (unhide HS)).mono ?_
              rintro e wb ⟨rfl, hsb⟩
              have HS3 := hide hsb
              go_simp
              refine hK.out _ _ hsb ?_
              clear hK K9 hsb CL CM CA
              repeat ((first | (apply pl_t; (· rfl); (· (intro w; go_simp; try with_reducible rfl))) | (apply pl_l; (· rfl); (· exact (unhide HS3)); (· (rintro wx hS; obtain ⟨s0, s1, s2, s3, s4, s5⟩ := blk6 hS.k1; obtain ⟨t0, t1, t2, t3, t4, t5⟩ := blk6 hS.k2; obtain ⟨v0, v1, v2, v3, v4, v5⟩ := hS.gs.six (unhide HE); simp only at v0 v1 v2 v3 v4 v5; clear hS; go_simp; try with_reducible rfl))) | (refine pl_s rfl ?_) | (refine pl_ls rfl (unhide HS3) ?_)); try simp only [Act.put, List.setIfInBounds_toArray, List.set_cons_zero, List.set_cons_succ])
              refine pl_n (NoPanic.normal ?_)
              have HR := hide (show PRel w1 w1.heap.size lim m (.slice (some ⟨rg, 0, none⟩) n2 c2) (.int .i64 (m2 : Int)) (.int .i64 ((k : Int) + 1)) wb from ⟨k + 1, m2, by go_num, by omega, rfl, K2, L2, (some ⟨rg, 0, none⟩), c2, by rw [unhide HN2], (unhide HS3).gs, by rw [unhide HN2]; exact unhide HL2, (unhide HS3).bel⟩)
              clear HS HS3
              go_wp2_with fail
              have hR := unhide HR
              have hme : m - (intOf (.int .i64 ((k : Int) + 1))).toNat < m - k := by simp [intOf]; omega
              first | exact ⟨hR, hme⟩ | exact ⟨⟨_, _, _, hR, rfl, rfl, rfl⟩, hme⟩ | exact ⟨⟨_, _, hR, rfl, rfl⟩, hme⟩ | (go_roundw; exact hR; exact hme)
    · obtain rfl : k = m := by omega
      have HBE := hide hbel
      clear hbel hgs
      go_wp2
      go_ret
      exact ⟨rfl, (unhide HB1).trans ((unhide HBE).mono (unhide HB1).size)⟩
end
theorem walkPlays (lim : Int) (l : List Opn) (A : Option Addr) (c : Nat) (w : World) (ho : OV l A c w.heap.size w) :
    Calls Try.prog 3 #[.int .i64 lim, .slice A l.length c] w fun e w' => e = .returned (.bool true) ∧ Below w.heap.size w w' := by
  by_cases h : lim < 0 ∨ 65536 < lim
  · exact plays_out lim l A c w h
  · obtain ⟨n, rfl⟩ : ∃ n : Nat, lim = (n : Int) := ⟨lim.toNat, by omega⟩
    by_cases h2 : 80 < l.length
    · exact plays_big n l A c w (by omega) h2
    · exact plays_small n l A c w (by omega) (by omega) ho
end Go.Proofs.Ytklmligfljakfaa.Pi
