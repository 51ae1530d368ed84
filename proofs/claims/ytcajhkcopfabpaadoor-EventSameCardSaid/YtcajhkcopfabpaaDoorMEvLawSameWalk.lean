/-
  EventSame, walked: true at any two states and any number.
-/
import Derived.Test.YtcajhkcopfabpaaDoorMEvMid
import Derived.Deep.CutRange
set_option linter.unusedSimpArgs false
set_option linter.unusedVariables false
namespace Go.Proofs.YtcajhkcopfabpaaDoor.Ev
open Go.RowKit Go.Proofs.YtcajhkcopfabpaaDoor.Mem
theorem neq_bool (a b : Bool) (w : World) : Sem.run Tryd.prog (binOp .neq 4 (.bool a) (.bool b)) w = .ok (.bool (a != b)) w := by
  cases a <;> cases b <;> go_simp
def NR (a b : St) (M : Nat) (q i : Value) : Prop := ∃ k : Nat, i = .int .i64 k ∧ k ≤ M ∧ q = .bool (same0 a b && decide (a.caps.take k = b.caps.take k))
def KR (n : Nat) (i : Value) : Prop := ∃ k : Nat, i = .int .i64 k ∧ k ≤ n
section
attribute [local go_sem] run_not_true run_not_false neq_bool
set_option maxRecDepth 100000 in
set_option maxHeartbeats 4000000 in
theorem walkSame (a b : St) (A B : Option Addr) (ca cb : Nat) (x : Int) (w : World) (hN : Nm w) (hA : CV a.caps A ca w) (hB : CV b.caps B cb w) (hl : a.caps.length ≤ 17592186044416) :
    Calls Tryd.prog 5 #[.agg #[.int .i64 a.kind, .int .i64 a.node, .int .i64 a.phase, .int .i64 a.pos, .int .i64 a.start, .int .i64 a.depth, .int .i64 a.origin, .slice A a.caps.length ca], .agg #[.int .i64 b.kind, .int .i64 b.node, .int .i64 b.phase, .int .i64 b.pos, .int .i64 b.start, .int .i64 b.depth, .int .i64 b.origin, .slice B b.caps.length cb], .int .i64 x] w fun e w' => e = .returned (.bool true) ∧ Below w.heap.size w w' := by
  obtain ⟨i0, hi, hz0, hz1, hz2⟩ := info_parts info_int
  have h2 := zero_state.1
  have hs := S2.new a b A B ca cb w hA hB
  have CA := hide (anchor_any _ (hN.below hs.bel (Nat.le_refl _)))
  have a1 := hA.room
  have a2 := hA.top
  have b1 := hB.room
  have b2 := hB.top
  have HS := hide hs
  have HR := hide (And.intro (And.intro a1 a2) (And.intro b1 b2))
  have HMX := hide (show 0 + a.caps.length ≤ maxLen by unfold maxLen; omega)
  have HMB := hide (show (0 + a.caps.length) * 8 ≤ 140737488355328 by omega)
  have CO := hide (fun W (h : S2 a b A B ca cb w W) => own_any a A ca W (h.cA a1 a2) hl)
  clear hN hA hB hs hl
  go_enter Tryd.func5, Tryd.ntmps5
  go_wp2_with fail
  refine (unhide CA).mono ?_
  rintro e w1 ⟨rfl, hb1⟩
  have HS1 := hide ((unhide HS).below hb1)
  clear CA HS hb1
  obtain ⟨k0, k1, k2, k3, k4, k5, k6, k7⟩ := cells8 (unhide HS1).boxA
  obtain ⟨l0, l1, l2, l3, l4, l5, l6, l7⟩ := cells8 (unhide HS1).boxB
  go_upto_region 3 with (fail)
  go_cut [7] from 13 to 70 (fun q wx => q = .bool (same0 a b) ∧ wx = w1)
  case first =>
    by_cases p0 : a.kind = b.kind
    · have e0 : (a.kind == b.kind) = true := by simp [p0]
      by_cases p1 : a.node = b.node
      · have e1 : (a.node == b.node) = true := by simp [p1]
        by_cases p2 : a.phase = b.phase
        · have e2 : (a.phase == b.phase) = true := by simp [p2]
          by_cases p3 : a.pos = b.pos
          · have e3 : (a.pos == b.pos) = true := by simp [p3]
            by_cases p4 : a.start = b.start
            · have e4 : (a.start == b.start) = true := by simp [p4]
              by_cases p5 : a.depth = b.depth
              · have e5 : (a.depth == b.depth) = true := by simp [p5]
                by_cases p6 : a.origin = b.origin
                · have e6 : (a.origin == b.origin) = true := by simp [p6]
                  by_cases p7 : a.caps.length = b.caps.length
                  · have e7 : ((a.caps.length : Int) == (b.caps.length : Int)) = true := by simp [p7]
                    have HQ := hide (show same0 a b = true by unfold same0; simp [p0, p1, p2, p3, p4, p5, p6, p7])
                    clear p0 p1 p2 p3 p4 p5 p6 p7
                    go_wp2_with fail
                    go_meet
                    exact ⟨by rw [unhide HQ], rfl⟩
                  · have e7 : ((a.caps.length : Int) == (b.caps.length : Int)) = false := by simp; omega
                    have HQ := hide (show same0 a b = false by unfold same0; simp [p7])
                    clear p0 p1 p2 p3 p4 p5 p6 p7
                    go_wp2_with fail
                    go_meet
                    exact ⟨by rw [unhide HQ], rfl⟩
                · have e6 : (a.origin == b.origin) = false := by simp; omega
                  have HQ := hide (show same0 a b = false by unfold same0; simp [p6])
                  clear p0 p1 p2 p3 p4 p5 p6
                  go_wp2_with fail
                  go_meet
                  exact ⟨by rw [unhide HQ], rfl⟩
              · have e5 : (a.depth == b.depth) = false := by simp; omega
                have HQ := hide (show same0 a b = false by unfold same0; simp [p5])
                clear p0 p1 p2 p3 p4 p5
                go_wp2_with fail
                go_meet
                exact ⟨by rw [unhide HQ], rfl⟩
            · have e4 : (a.start == b.start) = false := by simp; omega
              have HQ := hide (show same0 a b = false by unfold same0; simp [p4])
              clear p0 p1 p2 p3 p4
              go_wp2_with fail
              go_meet
              exact ⟨by rw [unhide HQ], rfl⟩
          · have e3 : (a.pos == b.pos) = false := by simp; omega
            have HQ := hide (show same0 a b = false by unfold same0; simp [p3])
            clear p0 p1 p2 p3
            go_wp2_with fail
            go_meet
            exact ⟨by rw [unhide HQ], rfl⟩
        · have e2 : (a.phase == b.phase) = false := by simp; omega
          have HQ := hide (show same0 a b = false by unfold same0; simp [p2])
          clear p0 p1 p2
          go_wp2_with fail
          go_meet
          exact ⟨by rw [unhide HQ], rfl⟩
      · have e1 : (a.node == b.node) = false := by simp; omega
        have HQ := hide (show same0 a b = false by unfold same0; simp [p1])
        clear p0 p1
        go_wp2_with fail
        go_meet
        exact ⟨by rw [unhide HQ], rfl⟩
    · have e0 : (a.kind == b.kind) = false := by simp; omega
      have HQ := hide (show same0 a b = false by unfold same0; simp [p0])
      clear p0
      go_wp2_with fail
      go_meet
      exact ⟨by rw [unhide HQ], rfl⟩
  case rest =>
    obtain ⟨rfl, rfl⟩ := hcut
    obtain ⟨M, hM⟩ : ∃ M : Nat, (min (a.caps.length : Int) (b.caps.length : Int)) = (M : Int) := ⟨min a.caps.length b.caps.length, by omega⟩
    have hMa : M ≤ a.caps.length := by omega
    have hMb : M ≤ b.caps.length := by omega
    have HM := hide (show M = min a.caps.length b.caps.length by omega)
    go_upto_region 5 with (fail)
    clear hM k0 k1 k2 k3 k4 k5 k6 k7 l0 l1 l2 l3 l4 l5 l6 l7
    go_loopw [7, 78] (fun q i wr => NR a b M q i ∧ S2 a b A B ca cb w wr) (fun _ i _ => M - (intOf i).toNat)
    case atStart => exact ⟨⟨0, rfl, by omega, by simp⟩, unhide HS1⟩
    case round =>
      obtain ⟨⟨k, rfl, hk, rfl⟩, hT⟩ := hrel
      go_hideQ
      have HT := hide hT
      clear hT HS1
      by_cases hlt : k < M
      · have hki : (k : Int) < (M : Int) := by omega
        have k7 := (unhide HT).boxA.cell 7
        have l7 := (unhide HT).boxB.cell 7
        obtain ⟨y, hy⟩ : ∃ y, a.caps[k]? = some y := ⟨_, List.getElem?_eq_getElem (by omega)⟩
        obtain ⟨z, hz⟩ : ∃ z, b.caps[k]? = some z := ⟨_, List.getElem?_eq_getElem (by omega)⟩
        obtain ⟨ba, oa, rfl, -, hca⟩ := (unhide HT).rA.flat (by omega)
        obtain ⟨bb, ob, rfl, -, hcb⟩ := (unhide HT).rB.flat (by omega)
        have d1 := hca k (.int .i64 y) (by rw [List.getElem?_map, hy]; rfl)
        have d2 := hcb k (.int .i64 z) (by rw [List.getElem?_map, hz]; rfl)
        have ia : (k : Int) < (a.caps.length : Int) := by omega
        have ib : (k : Int) < (b.caps.length : Int) := by omega
        have HST := hide (same0_step a b hy hz)
        clear hy hz hca hcb
        obtain ⟨q, hq⟩ : ∃ q, (same0 a b && decide (a.caps.take k = b.caps.take k)) = q := ⟨_, rfl⟩
        rw [hq]
        have HQ := hide hq
        clear hq
        cases q with
        | false =>
          go_wp2_with fail
          go_quiet (fail)
          go_wp2_with fail
          exact ⟨⟨⟨k + 1, by go_num, by omega, by rw [unhide HST, unhide HQ]; rfl⟩, (unhide HT).drewN _⟩, by simp [intOf]; omega⟩
        | true =>
          by_cases hyz : y = z
          · have hd : (y == z) = true := by simp [hyz]
            have HD := hide (show decide (y = z) = true by simp [hyz])
            clear hyz
            go_wp2_with fail
            go_quiet (fail)
            go_wp2_with fail
            exact ⟨⟨⟨k + 1, by go_num, by omega, by rw [unhide HST, unhide HQ, unhide HD]; rfl⟩, (unhide HT).drewN _⟩, by simp [intOf]; omega⟩
          · have hd : (y == z) = false := by simp [hyz]
            have HD := hide (show decide (y = z) = false by simp [hyz])
            clear hyz
            go_wp2_with fail
            go_quiet (fail)
            go_wp2_with fail
            exact ⟨⟨⟨k + 1, by go_num, by omega, by rw [unhide HST, unhide HQ, unhide HD]; rfl⟩, (unhide HT).drewN _⟩, by simp [intOf]; omega⟩
      · obtain rfl : k = M := by omega
        rw [same0_same a b k (unhide HM)]
        clear hlt hk
        obtain ⟨k0, k1, k2, k3, k4, k5, k6, k7⟩ := cells8 (unhide HT).boxA
        have HSd := hide ((unhide HT).below (Below.refl _ _).drew)
        go_upto_region 9 with (fail)
        go_cut [9, 10] from 96 to 101 (fun c v wx => ∃ gc A5 c5 A6 c6, c = .pointer (some ⟨gc, 0, none⟩) ∧ v = .slice A6 a.caps.length c6 ∧ MS a b A B ca cb w gc A5 c5 A6 c6 wx)
        case first =>
          refine wp_region_noPanic ?_
          refine wp_region_held_drew (S := (fun wx => Hid (S2 a b A B ca cb w wx) ∧ wx.cell? ⟨w.heap.size, 0, none⟩ = some (.int .i64 a.kind) ∧ wx.cell? ⟨w.heap.size, 1, none⟩ = some (.int .i64 a.node) ∧ wx.cell? ⟨w.heap.size, 2, none⟩ = some (.int .i64 a.phase) ∧ wx.cell? ⟨w.heap.size, 3, none⟩ = some (.int .i64 a.pos) ∧ wx.cell? ⟨w.heap.size, 4, none⟩ = some (.int .i64 a.start) ∧ wx.cell? ⟨w.heap.size, 5, none⟩ = some (.int .i64 a.depth) ∧ wx.cell? ⟨w.heap.size, 6, none⟩ = some (.int .i64 a.origin) ∧ wx.cell? ⟨w.heap.size, 7, none⟩ = some (.slice A a.caps.length ca))) (by kernel_rfl) (S2.held (unhide HSd)) (fun hH0 => ?_)
          refine wpAnyH_take (i := 0) (oi := { dst := some 96, op := _, type := _, pos := _, after := _, guard := _ }) (v := ?v0) rfl (by kernel_rfl) (by kernel_rfl) (by kernel_rfl) (fun _ _ _ h => h) (Or.inl ⟨by rfl, ?y0⟩) hH0 ?r0
          case y0 => (intro w hSw; (try dsimp only at hSw); go_simp; try with_reducible rfl)
          try simp only [Act.put, List.setIfInBounds_toArray, List.set_cons_zero, List.set_cons_succ]
          refine wpAnyH_take (i := 3) (oi := { dst := some 99, op := _, type := _, pos := _, after := _, guard := _ }) (v := ?v3) rfl (by kernel_rfl) (by kernel_rfl) (by kernel_rfl) (fun _ _ _ h => h) (Or.inl ⟨by rfl, ?y3⟩) hH0 ?r3
          case y3 => (intro w hSw; (try dsimp only at hSw); go_simp; try with_reducible rfl)
          try simp only [Act.put, List.setIfInBounds_toArray, List.set_cons_zero, List.set_cons_succ]
          refine wpAnyH_take (i := 4) (oi := { dst := some 100, op := _, type := _, pos := _, after := _, guard := _ }) (v := ?v4) rfl (by kernel_rfl) (by kernel_rfl) (by kernel_rfl) (fun _ _ _ h => h) (Or.inl ⟨by rfl, ?y4⟩) hH0 ?r4
          case y4 => (intro w hSw; (try dsimp only at hSw); go_simp; try with_reducible rfl)
          try simp only [Act.put, List.setIfInBounds_toArray, List.set_cons_zero, List.set_cons_succ]
          generalize wr.drew = w10 at HSd hH0 ⊢
          refine wpAnyH_ready (rs := [1, 2, 6]) (by kernel_rfl) (by simp) ?_
          refine AllReadyH.cons (o := { dst := some 97, op := _, type := _, pos := _, after := _, guard := _ }) rfl (fun K hK => ?_) (AllReadyH.cons (o := { dst := some 98, op := _, type := _, pos := _, after := _, guard := _ }) rfl (fun K hK => ?_) (AllReadyH.cons (o := { dst := some 9, op := _, type := _, pos := _, after := _, guard := _ }) rfl (fun K hK => ?_) AllReadyH.nil))
          · go_simp
            refine ((unhide CO) _ (unhide HSd)).mono ?_
            rintro e w11 ⟨A5, c5, rfl, ho, hb⟩
            have HB1 := hide hb
            have HO1 := hide (own_lower ho (unhide HSd).two)
            clear ho hb
            have HS1 := hide ((unhide HSd).below (unhide HB1))
            refine hK.out _ _ (S2.held (unhide HS1)) (fun hH1 => ?_)
            clear hK K
            try simp only [Act.put, List.setIfInBounds_toArray, List.set_cons_zero, List.set_cons_succ]
            refine wpAnyH_ready (rs := [2, 6]) (by kernel_rfl) (by simp) ?_
            refine AllReadyH.cons (o := { dst := some 98, op := _, type := _, pos := _, after := _, guard := _ }) rfl (fun K hK => ?_) (AllReadyH.cons (o := { dst := some 9, op := _, type := _, pos := _, after := _, guard := _ }) rfl (fun K hK => ?_) AllReadyH.nil)
            · go_simp
              have HE2 := hide (own_lower (own_empty w11 3) (unhide HS1).two)
              have HD2 := hide (fun (k : Nat) (hk : (Value.slice A5 a.caps.length c5).ownBlock = some k) => Nat.ne_of_lt (own_lt (unhide HO1) k hk))
              have HS2 := hide ((unhide HS1).below (below_box w11 (.cells #[] 3)))
              have HO2 := hide (own_below (unhide HO1) (below_box w11 (.cells #[] 3)))
              generalize (w11.alloc (.cells #[] 3)) = w12 at HE2 HO2 HS2 ⊢
              refine hK.out _ _ (S2.held (unhide HS2)) (fun hH2 => ?_)
              clear hK K
              try simp only [Act.put, List.setIfInBounds_toArray, List.set_cons_zero, List.set_cons_succ]
              refine wpAnyH_ready (rs := [5, 6]) (by kernel_rfl) (by simp) ?_
              refine AllReadyH.cons (o := { dst := some 101, op := _, type := _, pos := _, after := _, guard := _ }) rfl (fun K hK => ?_) (AllReadyH.cons (o := { dst := some 9, op := _, type := _, pos := _, after := _, guard := _ }) rfl (fun K hK => ?_) AllReadyH.nil)
              · refine step_append_any w12 rfl (.tmp 98) (.tmp 100) 22 rfl (w.heap.size + 2) 3 i0 (.int .i64 0) 1 8 Tryd.underlying22 hi hz0 hz1 hz2 rfl (by decide) _ 0 [] rfl (unhide HE2) w.heap.size A a.caps.length ca (a.caps.map Mem.i64) rfl (unhide HS2).rA (one_i64 a.caps) (unhide HMX) (unhide HMB) (unhide HS2).two ?_
                intro v6 w13 ho6 hg6 hn6
                have hd6 : ∀ k, (Value.slice A5 a.caps.length c5).ownBlock = some k → v6.ownBlock ≠ some k := fun k hk e => by
                  rcases hn6 with h6 | h6
                  · rw [h6] at e; exact (unhide HD2) k hk (Option.some.inj e).symm
                  · rw [h6] at e; have := own_lt (unhide HO2) k hk; have := Option.some.inj e; omega
                have hr6 : ∀ g, (Value.slice (some ⟨w11.heap.size, 0, none⟩) 0 0).ownBlock = some g → w.heap.size + 2 ≤ g := own_base (unhide HE2)
                have HS3 := hide ((unhide HS2).grown hg6 hr6)
                have HO3 := hide (own_kept (unhide HO2) hg6 (fun k hk e => (unhide HD2) k hk (Option.some.inj e).symm))
                rw [Nat.zero_add, List.nil_append] at ho6
                obtain ⟨A6, c6, rfl, -, -, -⟩ := own_reads ho6
                have HP3 := hide ho6
                have HD3 := hide hd6
                clear ho6 hg6 hn6 hd6 hr6
                refine hK.out _ _ (S2.held (unhide HS3)) (fun hH3 => ?_)
                clear hK K
                try simp only [Act.put, List.setIfInBounds_toArray, List.set_cons_zero, List.set_cons_succ]
                refine wpAnyH_ready (rs := [6]) (by kernel_rfl) (by simp) ?_
                refine AllReadyH.cons (o := { dst := some 9, op := _, type := _, pos := _, after := _, guard := _ }) rfl (fun K hK => ?_) AllReadyH.nil
                · go_simp
                  have HA4 := hide (Blk.new w13 24 #[.int .i64 0, .int .i64 0, .int .i64 0, .int .i64 0, .int .i64 0, .int .i64 0, .int .i64 0, .slice none 0 0])
                  have HG4 := hide (unhide HS3).two
                  have HS4 := hide ((unhide HS3).below (below_box w13 (.cells #[.int .i64 0, .int .i64 0, .int .i64 0, .int .i64 0, .int .i64 0, .int .i64 0, .int .i64 0, .slice none 0 0] 24)))
                  have HO4 := hide (own_below (unhide HO3) (below_box w13 (.cells #[.int .i64 0, .int .i64 0, .int .i64 0, .int .i64 0, .int .i64 0, .int .i64 0, .int .i64 0, .slice none 0 0] 24)))
                  have HP4 := hide (own_below (unhide HP3) (below_box w13 (.cells #[.int .i64 0, .int .i64 0, .int .i64 0, .int .i64 0, .int .i64 0, .int .i64 0, .int .i64 0, .slice none 0 0] 24)))
                  generalize (w13.alloc (.cells #[.int .i64 0, .int .i64 0, .int .i64 0, .int .i64 0, .int .i64 0, .int .i64 0, .int .i64 0, .slice none 0 0] 24)) = w14 at HA4 HO4 HP4 HS4 ⊢
                  refine hK.out _ _ (S2.held (unhide HS4)) (fun hH4 => ?_)
                  clear hK K
                  try simp only [Act.put, List.setIfInBounds_toArray, List.set_cons_zero, List.set_cons_succ]
                  obtain ⟨z0, z1, z2, z3, z4, z5, z6, z7⟩ := cells8 (unhide HA4)
                  obtain ⟨f0, f1, f2, f3, f4, f5, f6, f7⟩ := froz8 (unhide HA4)
                  have HMS := hide (ms_done (unhide HS4) (unhide HA4) (unhide HG4) (unhide HO4) (unhide HP4) (unhide HD3))
                  refine wpAnyH_ready (rs := [7]) (by kernel_rfl) (by simp) ?_
                  refine AllReadyH.cons (o := { dst := none, op := _, type := _, pos := _, after := _, guard := _ }) rfl (fun K hK => ?_) AllReadyH.nil
                  go_simp
                  clear z0 z1 z2 z3 z4 z5 z6 z7 f0 f1 f2 f3 f4 f5 f6 f7
                  refine hK.out _ _ (S2.held (unhide HMS).s2) (fun hHz => ?_)
                  clear hK K
                  try simp only [Act.put, List.setIfInBounds_toArray, List.set_cons_zero, List.set_cons_succ]
                  refine wpAnyH_take (i := 8) (oi := { dst := some 10, op := _, type := _, pos := _, after := _, guard := _ }) (v := ?v8t5) rfl (by kernel_rfl) (by kernel_rfl) (by kernel_rfl) (fun _ _ _ h => h) (Or.inl ⟨by rfl, ?y8t5⟩) hHz ?r8t5
                  case y8t5 => (intro w hSw; (try dsimp only at hSw); go_simp; try with_reducible rfl)
                  try simp only [Act.put, List.setIfInBounds_toArray, List.set_cons_zero, List.set_cons_succ]
                  refine wpAnyH_done (by kernel_rfl) ?_ _
                  refine NoPanic.normal ?_
                  go_wp2_with fail
                  go_meet
                  exact ⟨_, _, _, _, _, rfl, rfl, unhide HMS⟩
              · go_simp
                have HA6 := hide (Blk.new w12 24 #[.int .i64 0, .int .i64 0, .int .i64 0, .int .i64 0, .int .i64 0, .int .i64 0, .int .i64 0, .slice none 0 0])
                have HG6 := hide (unhide HS2).two
                have HS6 := hide ((unhide HS2).below (below_box w12 (.cells #[.int .i64 0, .int .i64 0, .int .i64 0, .int .i64 0, .int .i64 0, .int .i64 0, .int .i64 0, .slice none 0 0] 24)))
                have HO6 := hide (own_below (unhide HO2) (below_box w12 (.cells #[.int .i64 0, .int .i64 0, .int .i64 0, .int .i64 0, .int .i64 0, .int .i64 0, .int .i64 0, .slice none 0 0] 24)))
                have HE6 := hide (own_below (unhide HE2) (below_box w12 (.cells #[.int .i64 0, .int .i64 0, .int .i64 0, .int .i64 0, .int .i64 0, .int .i64 0, .int .i64 0, .slice none 0 0] 24)))
                generalize (w12.alloc (.cells #[.int .i64 0, .int .i64 0, .int .i64 0, .int .i64 0, .int .i64 0, .int .i64 0, .int .i64 0, .slice none 0 0] 24)) = w16 at HA6 HE6 HO6 HS6 ⊢
                refine hK.out _ _ (S2.held (unhide HS6)) (fun hH6 => ?_)
                clear hK K
                try simp only [Act.put, List.setIfInBounds_toArray, List.set_cons_zero, List.set_cons_succ]
                refine wpAnyH_ready (rs := [5]) (by kernel_rfl) (by simp) ?_
                refine AllReadyH.cons (o := { dst := some 101, op := _, type := _, pos := _, after := _, guard := _ }) rfl (fun K hK => ?_) AllReadyH.nil
                · refine step_append_any w16 rfl (.tmp 98) (.tmp 100) 22 rfl (w.heap.size + 2) 3 i0 (.int .i64 0) 1 8 Tryd.underlying22 hi hz0 hz1 hz2 rfl (by decide) _ 0 [] rfl (unhide HE6) w.heap.size A a.caps.length ca (a.caps.map Mem.i64) rfl (unhide HS6).rA (one_i64 a.caps) (unhide HMX) (unhide HMB) (unhide HS6).two ?_
                  intro v6 w17 ho6 hg6 hn6
                  have hd6 : ∀ k, (Value.slice A5 a.caps.length c5).ownBlock = some k → v6.ownBlock ≠ some k := fun k hk e => by
                    rcases hn6 with h6 | h6
                    · rw [h6] at e; exact (unhide HD2) k hk (Option.some.inj e).symm
                    · rw [h6] at e; have := own_lt (unhide HO6) k hk; have := Option.some.inj e; omega
                  have hr6 : ∀ g, (Value.slice (some ⟨w11.heap.size, 0, none⟩) 0 0).ownBlock = some g → w.heap.size + 2 ≤ g := own_base (unhide HE6)
                  have HS7 := hide ((unhide HS6).grown hg6 hr6)
                  have HO7 := hide (own_kept (unhide HO6) hg6 (fun k hk e => (unhide HD2) k hk (Option.some.inj e).symm))
                  have HA7 := hide ((unhide HA6).grown hg6 (fun e => own_blk_ne (unhide HE6) (unhide HA6) (by decide) e.symm))
                  rw [Nat.zero_add, List.nil_append] at ho6
                  obtain ⟨A6, c6, rfl, -, -, -⟩ := own_reads ho6
                  have HP7 := hide ho6
                  have HD7 := hide hd6
                  clear ho6 hg6 hn6 hd6 hr6
                  refine hK.out _ _ (S2.held (unhide HS7)) (fun hH7 => ?_)
                  clear hK K
                  try simp only [Act.put, List.setIfInBounds_toArray, List.set_cons_zero, List.set_cons_succ]
                  obtain ⟨z0, z1, z2, z3, z4, z5, z6, z7⟩ := cells8 (unhide HA7)
                  obtain ⟨f0, f1, f2, f3, f4, f5, f6, f7⟩ := froz8 (unhide HA7)
                  have HMS := hide (ms_done (unhide HS7) (unhide HA7) (unhide HG6) (unhide HO7) (unhide HP7) (unhide HD7))
                  refine wpAnyH_ready (rs := [7]) (by kernel_rfl) (by simp) ?_
                  refine AllReadyH.cons (o := { dst := none, op := _, type := _, pos := _, after := _, guard := _ }) rfl (fun K hK => ?_) AllReadyH.nil
                  go_simp
                  clear z0 z1 z2 z3 z4 z5 z6 z7 f0 f1 f2 f3 f4 f5 f6 f7
                  refine hK.out _ _ (S2.held (unhide HMS).s2) (fun hHz => ?_)
                  clear hK K
                  try simp only [Act.put, List.setIfInBounds_toArray, List.set_cons_zero, List.set_cons_succ]
                  refine wpAnyH_take (i := 8) (oi := { dst := some 10, op := _, type := _, pos := _, after := _, guard := _ }) (v := ?v8t8) rfl (by kernel_rfl) (by kernel_rfl) (by kernel_rfl) (fun _ _ _ h => h) (Or.inl ⟨by rfl, ?y8t8⟩) hHz ?r8t8
                  case y8t8 => (intro w hSw; (try dsimp only at hSw); go_simp; try with_reducible rfl)
                  try simp only [Act.put, List.setIfInBounds_toArray, List.set_cons_zero, List.set_cons_succ]
                  refine wpAnyH_done (by kernel_rfl) ?_ _
                  refine NoPanic.normal ?_
                  go_wp2_with fail
                  go_meet
                  exact ⟨_, _, _, _, _, rfl, rfl, unhide HMS⟩
            · go_simp
              have HA9 := hide (Blk.new w11 24 #[.int .i64 0, .int .i64 0, .int .i64 0, .int .i64 0, .int .i64 0, .int .i64 0, .int .i64 0, .slice none 0 0])
              have HG9 := hide (unhide HS1).two
              have HS9 := hide ((unhide HS1).below (below_box w11 (.cells #[.int .i64 0, .int .i64 0, .int .i64 0, .int .i64 0, .int .i64 0, .int .i64 0, .int .i64 0, .slice none 0 0] 24)))
              have HO9 := hide (own_below (unhide HO1) (below_box w11 (.cells #[.int .i64 0, .int .i64 0, .int .i64 0, .int .i64 0, .int .i64 0, .int .i64 0, .int .i64 0, .slice none 0 0] 24)))
              generalize (w11.alloc (.cells #[.int .i64 0, .int .i64 0, .int .i64 0, .int .i64 0, .int .i64 0, .int .i64 0, .int .i64 0, .slice none 0 0] 24)) = w19 at HA9 HO9 HS9 ⊢
              refine hK.out _ _ (S2.held (unhide HS9)) (fun hH9 => ?_)
              clear hK K
              try simp only [Act.put, List.setIfInBounds_toArray, List.set_cons_zero, List.set_cons_succ]
              refine wpAnyH_ready (rs := [2]) (by kernel_rfl) (by simp) ?_
              refine AllReadyH.cons (o := { dst := some 98, op := _, type := _, pos := _, after := _, guard := _ }) rfl (fun K hK => ?_) AllReadyH.nil
              · go_simp
                have HE10 := hide (own_lower (own_empty w19 3) (unhide HS9).two)
                have HD10 := hide (fun (k : Nat) (hk : (Value.slice A5 a.caps.length c5).ownBlock = some k) => Nat.ne_of_lt (own_lt (unhide HO9) k hk))
                have HS10 := hide ((unhide HS9).below (below_box w19 (.cells #[] 3)))
                have HO10 := hide (own_below (unhide HO9) (below_box w19 (.cells #[] 3)))
                have HA10 := hide ((unhide HA9).below (below_box w19 (.cells #[] 3)) (unhide HA9).lt)
                generalize (w19.alloc (.cells #[] 3)) = w20 at HA10 HE10 HO10 HS10 ⊢
                refine hK.out _ _ (S2.held (unhide HS10)) (fun hH10 => ?_)
                clear hK K
                try simp only [Act.put, List.setIfInBounds_toArray, List.set_cons_zero, List.set_cons_succ]
                refine wpAnyH_ready (rs := [5]) (by kernel_rfl) (by simp) ?_
                refine AllReadyH.cons (o := { dst := some 101, op := _, type := _, pos := _, after := _, guard := _ }) rfl (fun K hK => ?_) AllReadyH.nil
                · refine step_append_any w20 rfl (.tmp 98) (.tmp 100) 22 rfl (w.heap.size + 2) 3 i0 (.int .i64 0) 1 8 Tryd.underlying22 hi hz0 hz1 hz2 rfl (by decide) _ 0 [] rfl (unhide HE10) w.heap.size A a.caps.length ca (a.caps.map Mem.i64) rfl (unhide HS10).rA (one_i64 a.caps) (unhide HMX) (unhide HMB) (unhide HS10).two ?_
                  intro v6 w21 ho6 hg6 hn6
                  have hd6 : ∀ k, (Value.slice A5 a.caps.length c5).ownBlock = some k → v6.ownBlock ≠ some k := fun k hk e => by
                    rcases hn6 with h6 | h6
                    · rw [h6] at e; exact (unhide HD10) k hk (Option.some.inj e).symm
                    · rw [h6] at e; have := own_lt (unhide HO10) k hk; have := Option.some.inj e; omega
                  have hr6 : ∀ g, (Value.slice (some ⟨w19.heap.size, 0, none⟩) 0 0).ownBlock = some g → w.heap.size + 2 ≤ g := own_base (unhide HE10)
                  have HS11 := hide ((unhide HS10).grown hg6 hr6)
                  have HO11 := hide (own_kept (unhide HO10) hg6 (fun k hk e => (unhide HD10) k hk (Option.some.inj e).symm))
                  have HA11 := hide ((unhide HA10).grown hg6 (fun e => own_blk_ne (unhide HE10) (unhide HA10) (by decide) e.symm))
                  rw [Nat.zero_add, List.nil_append] at ho6
                  obtain ⟨A6, c6, rfl, -, -, -⟩ := own_reads ho6
                  have HP11 := hide ho6
                  have HD11 := hide hd6
                  clear ho6 hg6 hn6 hd6 hr6
                  refine hK.out _ _ (S2.held (unhide HS11)) (fun hH11 => ?_)
                  clear hK K
                  try simp only [Act.put, List.setIfInBounds_toArray, List.set_cons_zero, List.set_cons_succ]
                  obtain ⟨z0, z1, z2, z3, z4, z5, z6, z7⟩ := cells8 (unhide HA11)
                  obtain ⟨f0, f1, f2, f3, f4, f5, f6, f7⟩ := froz8 (unhide HA11)
                  have HMS := hide (ms_done (unhide HS11) (unhide HA11) (unhide HG9) (unhide HO11) (unhide HP11) (unhide HD11))
                  refine wpAnyH_ready (rs := [7]) (by kernel_rfl) (by simp) ?_
                  refine AllReadyH.cons (o := { dst := none, op := _, type := _, pos := _, after := _, guard := _ }) rfl (fun K hK => ?_) AllReadyH.nil
                  go_simp
                  clear z0 z1 z2 z3 z4 z5 z6 z7 f0 f1 f2 f3 f4 f5 f6 f7
                  refine hK.out _ _ (S2.held (unhide HMS).s2) (fun hHz => ?_)
                  clear hK K
                  try simp only [Act.put, List.setIfInBounds_toArray, List.set_cons_zero, List.set_cons_succ]
                  refine wpAnyH_take (i := 8) (oi := { dst := some 10, op := _, type := _, pos := _, after := _, guard := _ }) (v := ?v8t12) rfl (by kernel_rfl) (by kernel_rfl) (by kernel_rfl) (fun _ _ _ h => h) (Or.inl ⟨by rfl, ?y8t12⟩) hHz ?r8t12
                  case y8t12 => (intro w hSw; (try dsimp only at hSw); go_simp; try with_reducible rfl)
                  try simp only [Act.put, List.setIfInBounds_toArray, List.set_cons_zero, List.set_cons_succ]
                  refine wpAnyH_done (by kernel_rfl) ?_ _
                  refine NoPanic.normal ?_
                  go_wp2_with fail
                  go_meet
                  exact ⟨_, _, _, _, _, rfl, rfl, unhide HMS⟩
          · go_simp
            have HE13 := hide (own_lower (own_empty w10 3) (unhide HSd).two)
            have HS13 := hide ((unhide HSd).below (below_box w10 (.cells #[] 3)))
            generalize (w10.alloc (.cells #[] 3)) = w23 at HE13 HS13 ⊢
            refine hK.out _ _ (S2.held (unhide HS13)) (fun hH13 => ?_)
            clear hK K
            try simp only [Act.put, List.setIfInBounds_toArray, List.set_cons_zero, List.set_cons_succ]
            refine wpAnyH_ready (rs := [1, 6]) (by kernel_rfl) (by simp) ?_
            refine AllReadyH.cons (o := { dst := some 97, op := _, type := _, pos := _, after := _, guard := _ }) rfl (fun K hK => ?_) (AllReadyH.cons (o := { dst := some 9, op := _, type := _, pos := _, after := _, guard := _ }) rfl (fun K hK => ?_) AllReadyH.nil)
            · go_simp
              refine ((unhide CO) _ (unhide HS13)).mono ?_
              rintro e w24 ⟨A5, c5, rfl, ho, hb⟩
              have HB14 := hide hb
              have HO14 := hide (own_lower ho (unhide HS13).two)
              have HD14 := hide (fun (k : Nat) (hk : (Value.slice A5 a.caps.length c5).ownBlock = some k) => Nat.ne_of_gt (Nat.lt_of_lt_of_le (own_lt (unhide HE13) _ rfl) (own_base ho k hk)))
              clear ho hb
              have HS14 := hide ((unhide HS13).below (unhide HB14))
              have HE14 := hide (own_below (unhide HE13) (unhide HB14))
              refine hK.out _ _ (S2.held (unhide HS14)) (fun hH14 => ?_)
              clear hK K
              try simp only [Act.put, List.setIfInBounds_toArray, List.set_cons_zero, List.set_cons_succ]
              refine wpAnyH_ready (rs := [5, 6]) (by kernel_rfl) (by simp) ?_
              refine AllReadyH.cons (o := { dst := some 101, op := _, type := _, pos := _, after := _, guard := _ }) rfl (fun K hK => ?_) (AllReadyH.cons (o := { dst := some 9, op := _, type := _, pos := _, after := _, guard := _ }) rfl (fun K hK => ?_) AllReadyH.nil)
              · refine step_append_any w24 rfl (.tmp 98) (.tmp 100) 22 rfl (w.heap.size + 2) 3 i0 (.int .i64 0) 1 8 Tryd.underlying22 hi hz0 hz1 hz2 rfl (by decide) _ 0 [] rfl (unhide HE14) w.heap.size A a.caps.length ca (a.caps.map Mem.i64) rfl (unhide HS14).rA (one_i64 a.caps) (unhide HMX) (unhide HMB) (unhide HS14).two ?_
                intro v6 w25 ho6 hg6 hn6
                have hd6 : ∀ k, (Value.slice A5 a.caps.length c5).ownBlock = some k → v6.ownBlock ≠ some k := fun k hk e => by
                  rcases hn6 with h6 | h6
                  · rw [h6] at e; exact (unhide HD14) k hk (Option.some.inj e).symm
                  · rw [h6] at e; have := own_lt (unhide HO14) k hk; have := Option.some.inj e; omega
                have hr6 : ∀ g, (Value.slice (some ⟨w10.heap.size, 0, none⟩) 0 0).ownBlock = some g → w.heap.size + 2 ≤ g := own_base (unhide HE14)
                have HS15 := hide ((unhide HS14).grown hg6 hr6)
                have HO15 := hide (own_kept (unhide HO14) hg6 (fun k hk e => (unhide HD14) k hk (Option.some.inj e).symm))
                rw [Nat.zero_add, List.nil_append] at ho6
                obtain ⟨A6, c6, rfl, -, -, -⟩ := own_reads ho6
                have HP15 := hide ho6
                have HD15 := hide hd6
                clear ho6 hg6 hn6 hd6 hr6
                refine hK.out _ _ (S2.held (unhide HS15)) (fun hH15 => ?_)
                clear hK K
                try simp only [Act.put, List.setIfInBounds_toArray, List.set_cons_zero, List.set_cons_succ]
                refine wpAnyH_ready (rs := [6]) (by kernel_rfl) (by simp) ?_
                refine AllReadyH.cons (o := { dst := some 9, op := _, type := _, pos := _, after := _, guard := _ }) rfl (fun K hK => ?_) AllReadyH.nil
                · go_simp
                  have HA16 := hide (Blk.new w25 24 #[.int .i64 0, .int .i64 0, .int .i64 0, .int .i64 0, .int .i64 0, .int .i64 0, .int .i64 0, .slice none 0 0])
                  have HG16 := hide (unhide HS15).two
                  have HS16 := hide ((unhide HS15).below (below_box w25 (.cells #[.int .i64 0, .int .i64 0, .int .i64 0, .int .i64 0, .int .i64 0, .int .i64 0, .int .i64 0, .slice none 0 0] 24)))
                  have HO16 := hide (own_below (unhide HO15) (below_box w25 (.cells #[.int .i64 0, .int .i64 0, .int .i64 0, .int .i64 0, .int .i64 0, .int .i64 0, .int .i64 0, .slice none 0 0] 24)))
                  have HP16 := hide (own_below (unhide HP15) (below_box w25 (.cells #[.int .i64 0, .int .i64 0, .int .i64 0, .int .i64 0, .int .i64 0, .int .i64 0, .int .i64 0, .slice none 0 0] 24)))
                  generalize (w25.alloc (.cells #[.int .i64 0, .int .i64 0, .int .i64 0, .int .i64 0, .int .i64 0, .int .i64 0, .int .i64 0, .slice none 0 0] 24)) = w26 at HA16 HO16 HP16 HS16 ⊢
                  refine hK.out _ _ (S2.held (unhide HS16)) (fun hH16 => ?_)
                  clear hK K
                  try simp only [Act.put, List.setIfInBounds_toArray, List.set_cons_zero, List.set_cons_succ]
                  obtain ⟨z0, z1, z2, z3, z4, z5, z6, z7⟩ := cells8 (unhide HA16)
                  obtain ⟨f0, f1, f2, f3, f4, f5, f6, f7⟩ := froz8 (unhide HA16)
                  have HMS := hide (ms_done (unhide HS16) (unhide HA16) (unhide HG16) (unhide HO16) (unhide HP16) (unhide HD15))
                  refine wpAnyH_ready (rs := [7]) (by kernel_rfl) (by simp) ?_
                  refine AllReadyH.cons (o := { dst := none, op := _, type := _, pos := _, after := _, guard := _ }) rfl (fun K hK => ?_) AllReadyH.nil
                  go_simp
                  clear z0 z1 z2 z3 z4 z5 z6 z7 f0 f1 f2 f3 f4 f5 f6 f7
                  refine hK.out _ _ (S2.held (unhide HMS).s2) (fun hHz => ?_)
                  clear hK K
                  try simp only [Act.put, List.setIfInBounds_toArray, List.set_cons_zero, List.set_cons_succ]
                  refine wpAnyH_take (i := 8) (oi := { dst := some 10, op := _, type := _, pos := _, after := _, guard := _ }) (v := ?v8t17) rfl (by kernel_rfl) (by kernel_rfl) (by kernel_rfl) (fun _ _ _ h => h) (Or.inl ⟨by rfl, ?y8t17⟩) hHz ?r8t17
                  case y8t17 => (intro w hSw; (try dsimp only at hSw); go_simp; try with_reducible rfl)
                  try simp only [Act.put, List.setIfInBounds_toArray, List.set_cons_zero, List.set_cons_succ]
                  refine wpAnyH_done (by kernel_rfl) ?_ _
                  refine NoPanic.normal ?_
                  go_wp2_with fail
                  go_meet
                  exact ⟨_, _, _, _, _, rfl, rfl, unhide HMS⟩
              · go_simp
                have HA18 := hide (Blk.new w24 24 #[.int .i64 0, .int .i64 0, .int .i64 0, .int .i64 0, .int .i64 0, .int .i64 0, .int .i64 0, .slice none 0 0])
                have HG18 := hide (unhide HS14).two
                have HS18 := hide ((unhide HS14).below (below_box w24 (.cells #[.int .i64 0, .int .i64 0, .int .i64 0, .int .i64 0, .int .i64 0, .int .i64 0, .int .i64 0, .slice none 0 0] 24)))
                have HO18 := hide (own_below (unhide HO14) (below_box w24 (.cells #[.int .i64 0, .int .i64 0, .int .i64 0, .int .i64 0, .int .i64 0, .int .i64 0, .int .i64 0, .slice none 0 0] 24)))
                have HE18 := hide (own_below (unhide HE14) (below_box w24 (.cells #[.int .i64 0, .int .i64 0, .int .i64 0, .int .i64 0, .int .i64 0, .int .i64 0, .int .i64 0, .slice none 0 0] 24)))
                generalize (w24.alloc (.cells #[.int .i64 0, .int .i64 0, .int .i64 0, .int .i64 0, .int .i64 0, .int .i64 0, .int .i64 0, .slice none 0 0] 24)) = w28 at HA18 HE18 HO18 HS18 ⊢
                refine hK.out _ _ (S2.held (unhide HS18)) (fun hH18 => ?_)
                clear hK K
                try simp only [Act.put, List.setIfInBounds_toArray, List.set_cons_zero, List.set_cons_succ]
                refine wpAnyH_ready (rs := [5]) (by kernel_rfl) (by simp) ?_
                refine AllReadyH.cons (o := { dst := some 101, op := _, type := _, pos := _, after := _, guard := _ }) rfl (fun K hK => ?_) AllReadyH.nil
                · refine step_append_any w28 rfl (.tmp 98) (.tmp 100) 22 rfl (w.heap.size + 2) 3 i0 (.int .i64 0) 1 8 Tryd.underlying22 hi hz0 hz1 hz2 rfl (by decide) _ 0 [] rfl (unhide HE18) w.heap.size A a.caps.length ca (a.caps.map Mem.i64) rfl (unhide HS18).rA (one_i64 a.caps) (unhide HMX) (unhide HMB) (unhide HS18).two ?_
                  intro v6 w29 ho6 hg6 hn6
                  have hd6 : ∀ k, (Value.slice A5 a.caps.length c5).ownBlock = some k → v6.ownBlock ≠ some k := fun k hk e => by
                    rcases hn6 with h6 | h6
                    · rw [h6] at e; exact (unhide HD14) k hk (Option.some.inj e).symm
                    · rw [h6] at e; have := own_lt (unhide HO18) k hk; have := Option.some.inj e; omega
                  have hr6 : ∀ g, (Value.slice (some ⟨w10.heap.size, 0, none⟩) 0 0).ownBlock = some g → w.heap.size + 2 ≤ g := own_base (unhide HE18)
                  have HS19 := hide ((unhide HS18).grown hg6 hr6)
                  have HO19 := hide (own_kept (unhide HO18) hg6 (fun k hk e => (unhide HD14) k hk (Option.some.inj e).symm))
                  have HA19 := hide ((unhide HA18).grown hg6 (fun e => own_blk_ne (unhide HE18) (unhide HA18) (by decide) e.symm))
                  rw [Nat.zero_add, List.nil_append] at ho6
                  obtain ⟨A6, c6, rfl, -, -, -⟩ := own_reads ho6
                  have HP19 := hide ho6
                  have HD19 := hide hd6
                  clear ho6 hg6 hn6 hd6 hr6
                  refine hK.out _ _ (S2.held (unhide HS19)) (fun hH19 => ?_)
                  clear hK K
                  try simp only [Act.put, List.setIfInBounds_toArray, List.set_cons_zero, List.set_cons_succ]
                  obtain ⟨z0, z1, z2, z3, z4, z5, z6, z7⟩ := cells8 (unhide HA19)
                  obtain ⟨f0, f1, f2, f3, f4, f5, f6, f7⟩ := froz8 (unhide HA19)
                  have HMS := hide (ms_done (unhide HS19) (unhide HA19) (unhide HG18) (unhide HO19) (unhide HP19) (unhide HD19))
                  refine wpAnyH_ready (rs := [7]) (by kernel_rfl) (by simp) ?_
                  refine AllReadyH.cons (o := { dst := none, op := _, type := _, pos := _, after := _, guard := _ }) rfl (fun K hK => ?_) AllReadyH.nil
                  go_simp
                  clear z0 z1 z2 z3 z4 z5 z6 z7 f0 f1 f2 f3 f4 f5 f6 f7
                  refine hK.out _ _ (S2.held (unhide HMS).s2) (fun hHz => ?_)
                  clear hK K
                  try simp only [Act.put, List.setIfInBounds_toArray, List.set_cons_zero, List.set_cons_succ]
                  refine wpAnyH_take (i := 8) (oi := { dst := some 10, op := _, type := _, pos := _, after := _, guard := _ }) (v := ?v8t20) rfl (by kernel_rfl) (by kernel_rfl) (by kernel_rfl) (fun _ _ _ h => h) (Or.inl ⟨by rfl, ?y8t20⟩) hHz ?r8t20
                  case y8t20 => (intro w hSw; (try dsimp only at hSw); go_simp; try with_reducible rfl)
                  try simp only [Act.put, List.setIfInBounds_toArray, List.set_cons_zero, List.set_cons_succ]
                  refine wpAnyH_done (by kernel_rfl) ?_ _
                  refine NoPanic.normal ?_
                  go_wp2_with fail
                  go_meet
                  exact ⟨_, _, _, _, _, rfl, rfl, unhide HMS⟩
            · go_simp
              have HA21 := hide (Blk.new w23 24 #[.int .i64 0, .int .i64 0, .int .i64 0, .int .i64 0, .int .i64 0, .int .i64 0, .int .i64 0, .slice none 0 0])
              have HG21 := hide (unhide HS13).two
              have HS21 := hide ((unhide HS13).below (below_box w23 (.cells #[.int .i64 0, .int .i64 0, .int .i64 0, .int .i64 0, .int .i64 0, .int .i64 0, .int .i64 0, .slice none 0 0] 24)))
              have HE21 := hide (own_below (unhide HE13) (below_box w23 (.cells #[.int .i64 0, .int .i64 0, .int .i64 0, .int .i64 0, .int .i64 0, .int .i64 0, .int .i64 0, .slice none 0 0] 24)))
              generalize (w23.alloc (.cells #[.int .i64 0, .int .i64 0, .int .i64 0, .int .i64 0, .int .i64 0, .int .i64 0, .int .i64 0, .slice none 0 0] 24)) = w31 at HA21 HE21 HS21 ⊢
              refine hK.out _ _ (S2.held (unhide HS21)) (fun hH21 => ?_)
              clear hK K
              try simp only [Act.put, List.setIfInBounds_toArray, List.set_cons_zero, List.set_cons_succ]
              refine wpAnyH_ready (rs := [1]) (by kernel_rfl) (by simp) ?_
              refine AllReadyH.cons (o := { dst := some 97, op := _, type := _, pos := _, after := _, guard := _ }) rfl (fun K hK => ?_) AllReadyH.nil
              · go_simp
                refine ((unhide CO) _ (unhide HS21)).mono ?_
                rintro e w32 ⟨A5, c5, rfl, ho, hb⟩
                have HB22 := hide hb
                have HO22 := hide (own_lower ho (unhide HS21).two)
                have HD22 := hide (fun (k : Nat) (hk : (Value.slice A5 a.caps.length c5).ownBlock = some k) => Nat.ne_of_gt (Nat.lt_of_lt_of_le (own_lt (unhide HE21) _ rfl) (own_base ho k hk)))
                clear ho hb
                have HS22 := hide ((unhide HS21).below (unhide HB22))
                have HE22 := hide (own_below (unhide HE21) (unhide HB22))
                have HA22 := hide ((unhide HA21).below (unhide HB22) (unhide HA21).lt)
                refine hK.out _ _ (S2.held (unhide HS22)) (fun hH22 => ?_)
                clear hK K
                try simp only [Act.put, List.setIfInBounds_toArray, List.set_cons_zero, List.set_cons_succ]
                refine wpAnyH_ready (rs := [5]) (by kernel_rfl) (by simp) ?_
                refine AllReadyH.cons (o := { dst := some 101, op := _, type := _, pos := _, after := _, guard := _ }) rfl (fun K hK => ?_) AllReadyH.nil
                · refine step_append_any w32 rfl (.tmp 98) (.tmp 100) 22 rfl (w.heap.size + 2) 3 i0 (.int .i64 0) 1 8 Tryd.underlying22 hi hz0 hz1 hz2 rfl (by decide) _ 0 [] rfl (unhide HE22) w.heap.size A a.caps.length ca (a.caps.map Mem.i64) rfl (unhide HS22).rA (one_i64 a.caps) (unhide HMX) (unhide HMB) (unhide HS22).two ?_
                  intro v6 w33 ho6 hg6 hn6
                  have hd6 : ∀ k, (Value.slice A5 a.caps.length c5).ownBlock = some k → v6.ownBlock ≠ some k := fun k hk e => by
                    rcases hn6 with h6 | h6
                    · rw [h6] at e; exact (unhide HD22) k hk (Option.some.inj e).symm
                    · rw [h6] at e; have := own_lt (unhide HO22) k hk; have := Option.some.inj e; omega
                  have hr6 : ∀ g, (Value.slice (some ⟨w10.heap.size, 0, none⟩) 0 0).ownBlock = some g → w.heap.size + 2 ≤ g := own_base (unhide HE22)
                  have HS23 := hide ((unhide HS22).grown hg6 hr6)
                  have HO23 := hide (own_kept (unhide HO22) hg6 (fun k hk e => (unhide HD22) k hk (Option.some.inj e).symm))
                  have HA23 := hide ((unhide HA22).grown hg6 (fun e => own_blk_ne (unhide HE22) (unhide HA22) (by decide) e.symm))
                  rw [Nat.zero_add, List.nil_append] at ho6
                  obtain ⟨A6, c6, rfl, -, -, -⟩ := own_reads ho6
                  have HP23 := hide ho6
                  have HD23 := hide hd6
                  clear ho6 hg6 hn6 hd6 hr6
                  refine hK.out _ _ (S2.held (unhide HS23)) (fun hH23 => ?_)
                  clear hK K
                  try simp only [Act.put, List.setIfInBounds_toArray, List.set_cons_zero, List.set_cons_succ]
                  obtain ⟨z0, z1, z2, z3, z4, z5, z6, z7⟩ := cells8 (unhide HA23)
                  obtain ⟨f0, f1, f2, f3, f4, f5, f6, f7⟩ := froz8 (unhide HA23)
                  have HMS := hide (ms_done (unhide HS23) (unhide HA23) (unhide HG21) (unhide HO23) (unhide HP23) (unhide HD23))
                  refine wpAnyH_ready (rs := [7]) (by kernel_rfl) (by simp) ?_
                  refine AllReadyH.cons (o := { dst := none, op := _, type := _, pos := _, after := _, guard := _ }) rfl (fun K hK => ?_) AllReadyH.nil
                  go_simp
                  clear z0 z1 z2 z3 z4 z5 z6 z7 f0 f1 f2 f3 f4 f5 f6 f7
                  refine hK.out _ _ (S2.held (unhide HMS).s2) (fun hHz => ?_)
                  clear hK K
                  try simp only [Act.put, List.setIfInBounds_toArray, List.set_cons_zero, List.set_cons_succ]
                  refine wpAnyH_take (i := 8) (oi := { dst := some 10, op := _, type := _, pos := _, after := _, guard := _ }) (v := ?v8t24) rfl (by kernel_rfl) (by kernel_rfl) (by kernel_rfl) (fun _ _ _ h => h) (Or.inl ⟨by rfl, ?y8t24⟩) hHz ?r8t24
                  case y8t24 => (intro w hSw; (try dsimp only at hSw); go_simp; try with_reducible rfl)
                  try simp only [Act.put, List.setIfInBounds_toArray, List.set_cons_zero, List.set_cons_succ]
                  refine wpAnyH_done (by kernel_rfl) ?_ _
                  refine NoPanic.normal ?_
                  go_wp2_with fail
                  go_meet
                  exact ⟨_, _, _, _, _, rfl, rfl, unhide HMS⟩
          · go_simp
            have HA25 := hide (Blk.new w10 24 #[.int .i64 0, .int .i64 0, .int .i64 0, .int .i64 0, .int .i64 0, .int .i64 0, .int .i64 0, .slice none 0 0])
            have HG25 := hide (unhide HSd).two
            have HS25 := hide ((unhide HSd).below (below_box w10 (.cells #[.int .i64 0, .int .i64 0, .int .i64 0, .int .i64 0, .int .i64 0, .int .i64 0, .int .i64 0, .slice none 0 0] 24)))
            generalize (w10.alloc (.cells #[.int .i64 0, .int .i64 0, .int .i64 0, .int .i64 0, .int .i64 0, .int .i64 0, .int .i64 0, .slice none 0 0] 24)) = w35 at HA25 HS25 ⊢
            refine hK.out _ _ (S2.held (unhide HS25)) (fun hH25 => ?_)
            clear hK K
            try simp only [Act.put, List.setIfInBounds_toArray, List.set_cons_zero, List.set_cons_succ]
            refine wpAnyH_ready (rs := [1, 2]) (by kernel_rfl) (by simp) ?_
            refine AllReadyH.cons (o := { dst := some 97, op := _, type := _, pos := _, after := _, guard := _ }) rfl (fun K hK => ?_) (AllReadyH.cons (o := { dst := some 98, op := _, type := _, pos := _, after := _, guard := _ }) rfl (fun K hK => ?_) AllReadyH.nil)
            · go_simp
              refine ((unhide CO) _ (unhide HS25)).mono ?_
              rintro e w36 ⟨A5, c5, rfl, ho, hb⟩
              have HB26 := hide hb
              have HO26 := hide (own_lower ho (unhide HS25).two)
              clear ho hb
              have HS26 := hide ((unhide HS25).below (unhide HB26))
              have HA26 := hide ((unhide HA25).below (unhide HB26) (unhide HA25).lt)
              refine hK.out _ _ (S2.held (unhide HS26)) (fun hH26 => ?_)
              clear hK K
              try simp only [Act.put, List.setIfInBounds_toArray, List.set_cons_zero, List.set_cons_succ]
              refine wpAnyH_ready (rs := [2]) (by kernel_rfl) (by simp) ?_
              refine AllReadyH.cons (o := { dst := some 98, op := _, type := _, pos := _, after := _, guard := _ }) rfl (fun K hK => ?_) AllReadyH.nil
              · go_simp
                have HE27 := hide (own_lower (own_empty w36 3) (unhide HS26).two)
                have HD27 := hide (fun (k : Nat) (hk : (Value.slice A5 a.caps.length c5).ownBlock = some k) => Nat.ne_of_lt (own_lt (unhide HO26) k hk))
                have HS27 := hide ((unhide HS26).below (below_box w36 (.cells #[] 3)))
                have HO27 := hide (own_below (unhide HO26) (below_box w36 (.cells #[] 3)))
                have HA27 := hide ((unhide HA26).below (below_box w36 (.cells #[] 3)) (unhide HA26).lt)
                generalize (w36.alloc (.cells #[] 3)) = w37 at HA27 HE27 HO27 HS27 ⊢
                refine hK.out _ _ (S2.held (unhide HS27)) (fun hH27 => ?_)
                clear hK K
                try simp only [Act.put, List.setIfInBounds_toArray, List.set_cons_zero, List.set_cons_succ]
                refine wpAnyH_ready (rs := [5]) (by kernel_rfl) (by simp) ?_
                refine AllReadyH.cons (o := { dst := some 101, op := _, type := _, pos := _, after := _, guard := _ }) rfl (fun K hK => ?_) AllReadyH.nil
                · refine step_append_any w37 rfl (.tmp 98) (.tmp 100) 22 rfl (w.heap.size + 2) 3 i0 (.int .i64 0) 1 8 Tryd.underlying22 hi hz0 hz1 hz2 rfl (by decide) _ 0 [] rfl (unhide HE27) w.heap.size A a.caps.length ca (a.caps.map Mem.i64) rfl (unhide HS27).rA (one_i64 a.caps) (unhide HMX) (unhide HMB) (unhide HS27).two ?_
                  intro v6 w38 ho6 hg6 hn6
                  have hd6 : ∀ k, (Value.slice A5 a.caps.length c5).ownBlock = some k → v6.ownBlock ≠ some k := fun k hk e => by
                    rcases hn6 with h6 | h6
                    · rw [h6] at e; exact (unhide HD27) k hk (Option.some.inj e).symm
                    · rw [h6] at e; have := own_lt (unhide HO27) k hk; have := Option.some.inj e; omega
                  have hr6 : ∀ g, (Value.slice (some ⟨w36.heap.size, 0, none⟩) 0 0).ownBlock = some g → w.heap.size + 2 ≤ g := own_base (unhide HE27)
                  have HS28 := hide ((unhide HS27).grown hg6 hr6)
                  have HO28 := hide (own_kept (unhide HO27) hg6 (fun k hk e => (unhide HD27) k hk (Option.some.inj e).symm))
                  have HA28 := hide ((unhide HA27).grown hg6 (fun e => own_blk_ne (unhide HE27) (unhide HA27) (by decide) e.symm))
                  rw [Nat.zero_add, List.nil_append] at ho6
                  obtain ⟨A6, c6, rfl, -, -, -⟩ := own_reads ho6
                  have HP28 := hide ho6
                  have HD28 := hide hd6
                  clear ho6 hg6 hn6 hd6 hr6
                  refine hK.out _ _ (S2.held (unhide HS28)) (fun hH28 => ?_)
                  clear hK K
                  try simp only [Act.put, List.setIfInBounds_toArray, List.set_cons_zero, List.set_cons_succ]
                  obtain ⟨z0, z1, z2, z3, z4, z5, z6, z7⟩ := cells8 (unhide HA28)
                  obtain ⟨f0, f1, f2, f3, f4, f5, f6, f7⟩ := froz8 (unhide HA28)
                  have HMS := hide (ms_done (unhide HS28) (unhide HA28) (unhide HG25) (unhide HO28) (unhide HP28) (unhide HD28))
                  refine wpAnyH_ready (rs := [7]) (by kernel_rfl) (by simp) ?_
                  refine AllReadyH.cons (o := { dst := none, op := _, type := _, pos := _, after := _, guard := _ }) rfl (fun K hK => ?_) AllReadyH.nil
                  go_simp
                  clear z0 z1 z2 z3 z4 z5 z6 z7 f0 f1 f2 f3 f4 f5 f6 f7
                  refine hK.out _ _ (S2.held (unhide HMS).s2) (fun hHz => ?_)
                  clear hK K
                  try simp only [Act.put, List.setIfInBounds_toArray, List.set_cons_zero, List.set_cons_succ]
                  refine wpAnyH_take (i := 8) (oi := { dst := some 10, op := _, type := _, pos := _, after := _, guard := _ }) (v := ?v8t29) rfl (by kernel_rfl) (by kernel_rfl) (by kernel_rfl) (fun _ _ _ h => h) (Or.inl ⟨by rfl, ?y8t29⟩) hHz ?r8t29
                  case y8t29 => (intro w hSw; (try dsimp only at hSw); go_simp; try with_reducible rfl)
                  try simp only [Act.put, List.setIfInBounds_toArray, List.set_cons_zero, List.set_cons_succ]
                  refine wpAnyH_done (by kernel_rfl) ?_ _
                  refine NoPanic.normal ?_
                  go_wp2_with fail
                  go_meet
                  exact ⟨_, _, _, _, _, rfl, rfl, unhide HMS⟩
            · go_simp
              have HE30 := hide (own_lower (own_empty w35 3) (unhide HS25).two)
              have HS30 := hide ((unhide HS25).below (below_box w35 (.cells #[] 3)))
              have HA30 := hide ((unhide HA25).below (below_box w35 (.cells #[] 3)) (unhide HA25).lt)
              generalize (w35.alloc (.cells #[] 3)) = w40 at HA30 HE30 HS30 ⊢
              refine hK.out _ _ (S2.held (unhide HS30)) (fun hH30 => ?_)
              clear hK K
              try simp only [Act.put, List.setIfInBounds_toArray, List.set_cons_zero, List.set_cons_succ]
              refine wpAnyH_ready (rs := [1]) (by kernel_rfl) (by simp) ?_
              refine AllReadyH.cons (o := { dst := some 97, op := _, type := _, pos := _, after := _, guard := _ }) rfl (fun K hK => ?_) AllReadyH.nil
              · go_simp
                refine ((unhide CO) _ (unhide HS30)).mono ?_
                rintro e w41 ⟨A5, c5, rfl, ho, hb⟩
                have HB31 := hide hb
                have HO31 := hide (own_lower ho (unhide HS30).two)
                have HD31 := hide (fun (k : Nat) (hk : (Value.slice A5 a.caps.length c5).ownBlock = some k) => Nat.ne_of_gt (Nat.lt_of_lt_of_le (own_lt (unhide HE30) _ rfl) (own_base ho k hk)))
                clear ho hb
                have HS31 := hide ((unhide HS30).below (unhide HB31))
                have HE31 := hide (own_below (unhide HE30) (unhide HB31))
                have HA31 := hide ((unhide HA30).below (unhide HB31) (unhide HA30).lt)
                refine hK.out _ _ (S2.held (unhide HS31)) (fun hH31 => ?_)
                clear hK K
                try simp only [Act.put, List.setIfInBounds_toArray, List.set_cons_zero, List.set_cons_succ]
                refine wpAnyH_ready (rs := [5]) (by kernel_rfl) (by simp) ?_
                refine AllReadyH.cons (o := { dst := some 101, op := _, type := _, pos := _, after := _, guard := _ }) rfl (fun K hK => ?_) AllReadyH.nil
                · refine step_append_any w41 rfl (.tmp 98) (.tmp 100) 22 rfl (w.heap.size + 2) 3 i0 (.int .i64 0) 1 8 Tryd.underlying22 hi hz0 hz1 hz2 rfl (by decide) _ 0 [] rfl (unhide HE31) w.heap.size A a.caps.length ca (a.caps.map Mem.i64) rfl (unhide HS31).rA (one_i64 a.caps) (unhide HMX) (unhide HMB) (unhide HS31).two ?_
                  intro v6 w42 ho6 hg6 hn6
                  have hd6 : ∀ k, (Value.slice A5 a.caps.length c5).ownBlock = some k → v6.ownBlock ≠ some k := fun k hk e => by
                    rcases hn6 with h6 | h6
                    · rw [h6] at e; exact (unhide HD31) k hk (Option.some.inj e).symm
                    · rw [h6] at e; have := own_lt (unhide HO31) k hk; have := Option.some.inj e; omega
                  have hr6 : ∀ g, (Value.slice (some ⟨w35.heap.size, 0, none⟩) 0 0).ownBlock = some g → w.heap.size + 2 ≤ g := own_base (unhide HE31)
                  have HS32 := hide ((unhide HS31).grown hg6 hr6)
                  have HO32 := hide (own_kept (unhide HO31) hg6 (fun k hk e => (unhide HD31) k hk (Option.some.inj e).symm))
                  have HA32 := hide ((unhide HA31).grown hg6 (fun e => own_blk_ne (unhide HE31) (unhide HA31) (by decide) e.symm))
                  rw [Nat.zero_add, List.nil_append] at ho6
                  obtain ⟨A6, c6, rfl, -, -, -⟩ := own_reads ho6
                  have HP32 := hide ho6
                  have HD32 := hide hd6
                  clear ho6 hg6 hn6 hd6 hr6
                  refine hK.out _ _ (S2.held (unhide HS32)) (fun hH32 => ?_)
                  clear hK K
                  try simp only [Act.put, List.setIfInBounds_toArray, List.set_cons_zero, List.set_cons_succ]
                  obtain ⟨z0, z1, z2, z3, z4, z5, z6, z7⟩ := cells8 (unhide HA32)
                  obtain ⟨f0, f1, f2, f3, f4, f5, f6, f7⟩ := froz8 (unhide HA32)
                  have HMS := hide (ms_done (unhide HS32) (unhide HA32) (unhide HG25) (unhide HO32) (unhide HP32) (unhide HD32))
                  refine wpAnyH_ready (rs := [7]) (by kernel_rfl) (by simp) ?_
                  refine AllReadyH.cons (o := { dst := none, op := _, type := _, pos := _, after := _, guard := _ }) rfl (fun K hK => ?_) AllReadyH.nil
                  go_simp
                  clear z0 z1 z2 z3 z4 z5 z6 z7 f0 f1 f2 f3 f4 f5 f6 f7
                  refine hK.out _ _ (S2.held (unhide HMS).s2) (fun hHz => ?_)
                  clear hK K
                  try simp only [Act.put, List.setIfInBounds_toArray, List.set_cons_zero, List.set_cons_succ]
                  refine wpAnyH_take (i := 8) (oi := { dst := some 10, op := _, type := _, pos := _, after := _, guard := _ }) (v := ?v8t33) rfl (by kernel_rfl) (by kernel_rfl) (by kernel_rfl) (fun _ _ _ h => h) (Or.inl ⟨by rfl, ?y8t33⟩) hHz ?r8t33
                  case y8t33 => (intro w hSw; (try dsimp only at hSw); go_simp; try with_reducible rfl)
                  try simp only [Act.put, List.setIfInBounds_toArray, List.set_cons_zero, List.set_cons_succ]
                  refine wpAnyH_done (by kernel_rfl) ?_ _
                  refine NoPanic.normal ?_
                  go_wp2_with fail
                  go_meet
                  exact ⟨_, _, _, _, _, rfl, rfl, unhide HMS⟩
        case rest =>
          obtain ⟨gc, A5, c5, A6, c6, rfl, rfl, hms⟩ := hcut
          clear k0 k1 k2 k3 k4 k5 k6 k7 HSd HT
          have HMS := hide hms
          have C1 := hide (same_any a b A B ca cb wc (hms.s2.cA a1 a2) (hms.s2.cB b1 b2))
          have C2 := hide (fun W (h : MS a b A B ca cb w gc A5 c5 A6 c6 W) => same_any a a A A5 ca c5 W (h.s2.cA a1 a2) (own_cv h.o5))
          have C3 := hide (fun W (h : MS a b A B ca cb w gc A5 c5 A6 c6 W) => same_any a a A5 A c5 ca W (own_cv h.o5) (h.s2.cA a1 a2))
          rw [sameB_self] at C2 C3
          obtain ⟨n, hn⟩ : ∃ n, a.caps.length = n := ⟨_, rfl⟩
          have hc5 : n ≤ c5 := by rw [← hn]; exact (own_cv hms.o5).room
          have hc5' : c5 ≤ 9223372036854775807 := (own_cv hms.o5).top
          have hc6 : n ≤ c6 := by rw [← hn]; exact (own_cv hms.o6).room
          have hc6' : c6 ≤ 9223372036854775807 := (own_cv hms.o6).top
          have HN := hide hn
          obtain ⟨k0, k1, k2, k3, k4, k5, k6, k7⟩ := cells8 hms.s2.boxA
          obtain ⟨l0, l1, l2, l3, l4, l5, l6, l7⟩ := cells8 hms.s2.boxB
          clear hms CO HR hn
          generalize sameB a b = sb at *
          go_wp2_with fail
          refine (unhide C1).mono ?_
          rintro e w2 ⟨rfl, hb2⟩
          have HM2 := hide ((unhide HMS).below hb2)
          clear k0 k1 k2 k3 k4 k5 k6 k7 l0 l1 l2 l3 l4 l5 l6 l7 C1 HMS hb2
          obtain ⟨k0, k1, k2, k3, k4, k5, k6, k7⟩ := cells8 (unhide HM2).s2.boxA
          obtain ⟨l0, l1, l2, l3, l4, l5, l6, l7⟩ := cells8 (unhide HM2).boxC
          go_wp2_with fail
          refine ((unhide C2) _ (unhide HM2)).mono ?_
          rintro e w3 ⟨rfl, hb3⟩
          have HM3 := hide ((unhide HM2).below hb3)
          clear k0 k1 k2 k3 k4 k5 k6 k7 l0 l1 l2 l3 l4 l5 l6 l7 C2 HM2 hb3
          obtain ⟨k0, k1, k2, k3, k4, k5, k6, k7⟩ := cells8 (unhide HM3).s2.boxA
          obtain ⟨l0, l1, l2, l3, l4, l5, l6, l7⟩ := cells8 (unhide HM3).boxC
          go_wp2_with fail
          refine ((unhide C3) _ (unhide HM3)).mono ?_
          rintro e w4 ⟨rfl, hb4⟩
          have HM4 := hide ((unhide HM3).below hb4)
          clear k0 k1 k2 k3 k4 k5 k6 k7 l0 l1 l2 l3 l4 l5 l6 l7 C3 HM3 hb4
          have hn := unhide HN
          have HW := hide ((unhide HM4).wr hn)
          have l7 := (unhide HM4).boxC.cell 7
          rw [hn] at a1 l7 hMa ⊢
          clear hn HM4
          go_wp2_with fail
          clear l7
          go_loopw [122] (fun i wr => KR n i ∧ WR a b A B ca cb w gc A5 c5 A6 c6 n wr) (fun i _ => n - (intOf i).toNat)
          case atStart => exact ⟨⟨0, rfl, by omega⟩, unhide HW⟩
          case round =>
            obtain ⟨⟨j, rfl, hj⟩, hW⟩ := hrel
            go_hideQ
            have HWR := hide hW
            clear hW
            by_cases hlt : j < n
            · have l7 := (unhide HWR).boxC.cell 7
              rw [unhide HN] at l7
              obtain ⟨g5, cur, rfl, hb5, hc, hl5, hne⟩ := (unhide HWR).r5 (by omega)
              have d1 := hb5.cell j
              rw [Array.getElem?_eq_getElem (by omega : j < cur.size)] at d1
              have f1 := hb5.frozen j
              have hji : (j : Int) < (n : Int) := by omega
              have HF := hide ((unhide HWR).set (k := j) (by omega) rfl x)
              clear hb5 hl5 hne
              go_wp2_with fail
              have hR : KR n (.int .i64 ((j : Int) + 1)) := ⟨j + 1, by go_num, by omega⟩
              have hme : n - (intOf (.int .i64 ((j : Int) + 1))).toNat < n - j := by simp [intOf]; omega
              first | exact ⟨⟨hR, unhide HF⟩, hme⟩ | exact ⟨⟨_, _, _, ⟨hR, unhide HF⟩, rfl, rfl, rfl⟩, hme⟩ | (go_roundw; exact ⟨hR, unhide HF⟩; exact hme)
            · obtain rfl : j = n := by omega
              clear hlt hj HW
              have HCV := hide (And.intro (unhide HWR).s2 (own_cv (unhide HWR).o6))
              clear HWR
              go_wp2_with fail
              go_loopw [133] (fun i wr => KR j i ∧ S2 a b A B ca cb w wr ∧ CV a.caps A6 c6 wr) (fun i _ => j - (intOf i).toNat)
              case atStart => exact ⟨⟨0, rfl, by omega⟩, unhide HCV⟩
              case round =>
                obtain ⟨⟨i, rfl, hi⟩, hS, hC⟩ := hrel
                go_hideQ
                have HS3 := hide hS
                have HC3 := hide hC
                clear hS hC HCV
                by_cases hlt : i < j
                · have k7 := (unhide HS3).boxA.cell 7
                  rw [unhide HN] at k7
                  obtain ⟨y, hy⟩ : ∃ y, a.caps[i]? = some y := ⟨_, List.getElem?_eq_getElem (by rw [unhide HN]; exact hlt)⟩
                  obtain ⟨ba, oa, rfl, -, hca⟩ := (unhide HS3).rA.flat (by rw [unhide HN]; omega)
                  obtain ⟨bb, ob, rfl, -, hcb⟩ := (unhide HC3).reads.flat (by rw [unhide HN]; omega)
                  have d1 := hca i (.int .i64 y) (by rw [List.getElem?_map, hy]; rfl)
                  have d2 := hcb i (.int .i64 y) (by rw [List.getElem?_map, hy]; rfl)
                  have hii : (i : Int) < (j : Int) := by omega
                  clear hy hca hcb
                  go_wp2_with fail
                  go_quiet (fail)
                  go_wp2_with fail
                  have hR : KR j (.int .i64 ((i : Int) + 1)) := ⟨i + 1, by go_num, by omega⟩
                  have hme : j - (intOf (.int .i64 ((i : Int) + 1))).toNat < j - i := by simp [intOf]; omega
                  have hF := And.intro ((unhide HS3).drewN nq) ((unhide HC3).below (below_drewN (Below.refl _ _) nq))
                  first | exact ⟨⟨hR, hF⟩, hme⟩ | exact ⟨⟨_, _, _, ⟨hR, hF⟩, rfl, rfl, rfl⟩, hme⟩ | (go_roundw; exact ⟨hR, hF⟩; exact hme)
                · obtain rfl : i = j := by omega
                  go_wp2
                  go_ret
                  exact ⟨rfl, (unhide HS3).bel⟩
end
end Go.Proofs.YtcajhkcopfabpaaDoor.Ev
