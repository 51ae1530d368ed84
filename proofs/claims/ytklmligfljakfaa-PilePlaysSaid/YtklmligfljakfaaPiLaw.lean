/-
  Entries that come as an argument, or lie in a row of the law's own (EV); the law's bar and last; the document's example. No conditions.
-/
import Derived.Test.YtklmligfljakfaaPiPush
set_option linter.unusedVariables false
set_option linter.unusedSimpArgs false
namespace Go.Proofs.Ytklmligfljakfaa.Pi
open Go.RowKit Go.Proofs.Ytklmligfljakfaa.Mem Go.Proofs.Ytklmligfljakfaa.Kp
structure EV (l : List En) (A : Option Addr) (cap B : Nat) (w : World) : Prop where
  room : l.length ≤ cap
  top : cap ≤ 9223372036854775807
  lies : 0 < l.length → ∃ b off, A = some ⟨b, off, none⟩ ∧ b < B ∧ ∀ k x, l[k]? = some x → w.cell? ⟨b, off + k * 6, none⟩ = some (.bool x.bar) ∧ w.cell? ⟨b, off + k * 6 + 1, none⟩ = some (.int .i64 x.pc) ∧ w.cell? ⟨b, off + k * 6 + 2, none⟩ = some (.int .i64 x.pos) ∧ w.cell? ⟨b, off + k * 6 + 3, none⟩ = some (.int .i64 x.mark) ∧ w.cell? ⟨b, off + k * 6 + 4, none⟩ = some (.int .i64 x.orig) ∧ w.cell? ⟨b, off + k * 6 + 5, none⟩ = some (.int .i64 x.val)
theorem EV.moved {l : List En} {A : Option Addr} {cap B : Nat} {w w' : World} (h : EV l A cap B w) (hc : ∀ p : Addr, p.block < B → w'.cell? p = w.cell? p) : EV l A cap B w' :=
  ⟨h.room, h.top, fun hn => by
    obtain ⟨b, off, e, hb, hx⟩ := h.lies hn
    refine ⟨b, off, e, hb, fun k x hk => ?_⟩
    obtain ⟨c0, c1, c2, c3, c4, c5⟩ := hx k x hk
    exact ⟨(hc ⟨b, off + k * 6, none⟩ hb).trans c0, (hc ⟨b, off + k * 6 + 1, none⟩ hb).trans c1, (hc ⟨b, off + k * 6 + 2, none⟩ hb).trans c2, (hc ⟨b, off + k * 6 + 3, none⟩ hb).trans c3, (hc ⟨b, off + k * 6 + 4, none⟩ hb).trans c4, (hc ⟨b, off + k * 6 + 5, none⟩ hb).trans c5⟩⟩
theorem EV.keep {l : List En} {A : Option Addr} {cap B : Nat} {w w' : World} {K : Nat → Prop} (h : EV l A cap B w) (hk : Keep K w w') (hK : ∀ k, k < B → K k) : EV l A cap B w' := h.moved fun p hp => hk.cell (hK _ hp)
theorem EV.below {l : List En} {A : Option Addr} {cap B C : Nat} {w w' : World} (h : EV l A cap B w) (hb : Below C w w') (hB : B ≤ C) : EV l A cap B w' := h.moved fun p hp => hb.cell (Nat.lt_of_lt_of_le hp hB)
theorem EV.more {l : List En} {A : Option Addr} {cap B C : Nat} {w : World} (h : EV l A cap B w) (hB : B ≤ C) : EV l A cap C w :=
  ⟨h.room, h.top, fun hn => by
    obtain ⟨b, off, e, hb, hx⟩ := h.lies hn
    exact ⟨b, off, e, Nat.lt_of_lt_of_le hb hB, hx⟩⟩
theorem EV.of_own {l : List En} {A : Option Addr} {cap base : Nat} {w : World} (h : w.ownsRow base 30 6 (.slice A l.length cap) l.length (cellsE l)) : EV l A cap w.heap.size w := by
  obtain ⟨A', cap', e, h1, h2, h3, -⟩ := own_form h
  cases e
  refine ⟨h1, by unfold maxLen at h2; omega, fun hn => ?_⟩
  obtain ⟨g, rfl, hg, hc⟩ := h3 hn
  refine ⟨g, 0, rfl, hg, fun k x hk => ?_⟩
  obtain ⟨q0, q1, q2, q3, q4, q5⟩ := cellsE_at hk
  rw [Nat.zero_add]
  exact ⟨hc _ _ q0, hc _ _ q1, hc _ _ q2, hc _ _ q3, hc _ _ q4, hc _ _ q5⟩
def BRel (l : List En) (w : World) (at_ i : Value) (wr : World) : Prop := ∃ k : Nat, i = .int .i64 (k : Int) ∧ k ≤ l.length ∧ at_ = .int .i64 (barZ (l.take k)) ∧ Below w.heap.size w wr
set_option maxHeartbeats 1000000 in
theorem lbar_any (l : List En) (A : Option Addr) (cap : Nat) (w : World) (h : EV l A cap w.heap.size w) : Calls Try.prog 8 #[.slice A l.length cap] w fun e w' => e = .returned (.int .i64 (barZ l)) ∧ Below w.heap.size w w' := by
  have r1 := h.room
  have r2 := h.top
  obtain ⟨n, hn⟩ : ∃ n, l.length = n := ⟨_, rfl⟩
  have HN := hide hn
  have H := hide h
  rw [hn] at r1 ⊢
  clear h hn
  go_enter Try.func8, Try.ntmps8
  go_wp2_with fail
  go_loopw [3, 8] (fun at_ i wr => BRel l w at_ i wr) (fun _ i _ => n - (intOf i).toNat)
  case atStart => exact ⟨0, rfl, Nat.zero_le _, rfl, Below.refl _ _⟩
  case round =>
    obtain ⟨k, rfl, hk, rfl, hb⟩ := hrel
    go_hideQ
    rw [unhide HN] at hk
    by_cases hlt : k < n
    · obtain ⟨⟨x0, x1, x2, x3, x4, x5⟩, hx⟩ : ∃ x, l[k]? = some x := ⟨_, List.getElem?_eq_getElem (by rw [unhide HN]; exact hlt)⟩
      obtain ⟨b, off, eA, hbl, hc⟩ := ((unhide H).below hb (Nat.le_refl _)).lies (by rw [unhide HN]; omega)
      obtain ⟨c0, c1, c2, c3, c4, c5⟩ := hc k _ hx
      have hz := barZ_take l hx
      simp only at c0 c1 c2 c3 c4 c5 hz
      have hki : (k : Int) < (n : Int) := by omega
      have HB := hide (hb.trans ((below_box wr (oEn ⟨x0, x1, x2, x3, x4, x5⟩)).mono hb.size))
      obtain ⟨z, ez⟩ : ∃ z, barZ (l.take k) = z := ⟨_, rfl⟩
      obtain ⟨z', ez'⟩ : ∃ z', barZ (l.take (k + 1)) = z' := ⟨_, rfl⟩
      rw [ez, ez'] at hz
      have HZ := hide ez'
      rw [ez]
      subst eA
      clear hc hx hb hbl ez ez'
      cases x0 with
      | true =>
        obtain rfl : z' = (k : Int) := by simpa using hz
        clear hz
        go_wp2_with fail
        have hR : BRel l w (.int .i64 (k : Int)) (.int .i64 ((k : Int) + 1)) (wr.alloc (oEn ⟨true, x1, x2, x3, x4, x5⟩)) := ⟨k + 1, by go_num, by rw [unhide HN]; omega, by rw [unhide HZ], unhide HB⟩
        have hme : n - (intOf (.int .i64 ((k : Int) + 1))).toNat < n - k := by simp [intOf]; omega
        first | exact ⟨hR, hme⟩ | exact ⟨⟨_, _, _, hR, rfl, rfl, rfl⟩, hme⟩ | exact ⟨⟨_, _, hR, rfl, rfl⟩, hme⟩ | (go_roundw; exact hR; exact hme)
      | false =>
        obtain rfl : z' = z := by simpa using hz
        clear hz
        go_wp2_with fail
        have hR : BRel l w (.int .i64 z') (.int .i64 ((k : Int) + 1)) (wr.alloc (oEn ⟨false, x1, x2, x3, x4, x5⟩)) := ⟨k + 1, by go_num, by rw [unhide HN]; omega, by rw [unhide HZ], unhide HB⟩
        have hme : n - (intOf (.int .i64 ((k : Int) + 1))).toNat < n - k := by simp [intOf]; omega
        first | exact ⟨hR, hme⟩ | exact ⟨⟨_, _, _, hR, rfl, rfl, rfl⟩, hme⟩ | exact ⟨⟨_, _, hR, rfl, rfl⟩, hme⟩ | (go_roundw; exact hR; exact hme)
    · obtain rfl : k = n := by omega
      have e : barZ (l.take k) = barZ l := by rw [List.take_of_length_le (by rw [unhide HN]; exact Nat.le_refl _)]
      rw [e]
      have HB := hide hb
      clear e hb
      go_wp2
      go_ret
      exact ⟨rfl, unhide HB⟩
section
attribute [local go_sem] build_en0
set_option maxHeartbeats 1000000 in
theorem last_any (l : List En) (A : Option Addr) (cap : Nat) (w : World) (h : EV l A cap w.heap.size w) : Calls Try.prog 11 #[.slice A l.length cap] w fun e w' => e = .returned (enV (lastE l)) ∧ Below w.heap.size w w' := by
  rcases Nat.eq_zero_or_pos l.length with h0 | h0
  · obtain rfl := List.eq_nil_of_length_eq_zero h0
    clear h h0
    go_enter Try.func11, Try.ntmps11
    go_wp2_with fail
    exact bodyPost_ret (results_cell_row rfl _ _ w.heap.size _ _ _ _ rfl (Blk.new w _ _) Try.underlying30 rfl (by kernel_rfl)) rfl ⟨rfl, below_box _ _⟩
  · have r1 := h.room
    have r2 := h.top
    obtain ⟨b, off, rfl, hb, hc⟩ := (h.below (below_box w zEn) (Nat.le_refl _)).lies h0
    obtain ⟨c0, c1, c2, c3, c4, c5⟩ := hc _ _ (lastE_at h0)
    obtain ⟨n, hn⟩ : ∃ n, l.length - 1 = n := ⟨_, rfl⟩
    have e1 : l.length = n + 1 := by omega
    rw [hn] at c0 c1 c2 c3 c4 c5
    rw [e1] at r1 ⊢
    have ws : IntKind.i64.wrap (((n + 1 : Nat) : Int) - 1) = (n : Int) := by rw [IntKind.wrap_i64]; omega
    have ws2 : IntKind.i64.wrap ((n : Int) + 1 - 1) = (n : Int) := by rw [IntKind.wrap_i64]; omega
    have d0 : (((n + 1 : Nat) : Int) == 0) = false := by rw [beq_eq_false_iff_ne]; omega
    have hni : (n : Int) < ((n + 1 : Nat) : Int) := by omega
    generalize lastE l = x at *
    obtain ⟨x0, x1, x2, x3, x4, x5⟩ := x
    simp only at c0 c1 c2 c3 c4 c5
    clear h h0 hc hn e1
    go_enter Try.func11, Try.ntmps11
    go_wp2_with fail
    exact bodyPost_ret (results_cell_row rfl _ _ w.heap.size _ _ _ _ rfl (Blk.new w _ _) Try.underlying30 rfl (by kernel_rfl)) rfl ⟨rfl, below_box _ _⟩
end
theorem build_e1 (a : Int) (w : World) : Sem.run Try.prog (Instr.build 30 #[(1, .int .i64 a)]) w = .ok (.agg #[.bool false, .int .i64 a, .int .i64 0, .int .i64 0, .int .i64 0, .int .i64 0]) w := run_build w 30 _ _ (by kernel_rfl)
theorem build_e2 (b : Bool) (a : Int) (w : World) : Sem.run Try.prog (Instr.build 30 #[(0, .bool b), (1, .int .i64 a)]) w = .ok (.agg #[.bool b, .int .i64 a, .int .i64 0, .int .i64 0, .int .i64 0, .int .i64 0]) w := run_build w 30 _ _ (by kernel_rfl)
section
attribute [local go_sem] build_e1 build_e2
set_option maxRecDepth 100000 in
set_option maxHeartbeats 2000000 in
theorem anchor_any (w : World) : Calls Try.prog 6 #[] w fun e w' => e = .returned (.bool true) ∧ Below w.heap.size w w' := by
  have C0 := hide (new_in (fun k => k < w.heap.size) w.heap.size 9 w (by omega) (fun k h => h) (fun k h => h) (Nat.le_refl _))
  go_enter Try.func6, Try.ntmps6
  go_wp2_with fail
  refine (unhide C0).mono ?_
  rintro e w1 ⟨⟨rfl, h1⟩, hb1⟩
  have C1 := hide (push_any h1 ⟨false, 1, 0, 0, 0, 0⟩)
  have HB := hide (Keep.of_below hb1 (fun k (h : k < w.heap.size) => h))
  clear C0 h1 hb1
  go_wp2_with fail
  refine (unhide C1).mono ?_
  rintro e w2 ⟨rfl, h2, k2⟩
  have C2 := hide (push_any h2 ⟨true, 2, 0, 0, 0, 0⟩)
  have HB2 := hide ((unhide HB).trans k2)
  clear C1 h2 k2 HB
  go_wp2_with fail
  refine (unhide C2).mono ?_
  rintro e w3 ⟨rfl, h3, k3⟩
  have C3 := hide (push_any h3 ⟨false, 3, 0, 0, 0, 0⟩)
  have HB3 := hide ((unhide HB2).trans k3)
  clear C2 h3 k3 HB2
  go_wp2_with fail
  refine (unhide C3).mono ?_
  rintro e w4 ⟨rfl, h4, k4⟩
  have h4' : PV (fun k => k < w.heap.size) w.heap.size w.heap.size [⟨false, 1, 0, 0, 0, 0⟩, ⟨true, 2, 0, 0, 0, 0⟩, ⟨false, 3, 0, 0, 0, 0⟩] 9 3 w4 := h4
  have C4 := hide (vcut_any h4')
  rw [show barE [⟨false, 1, 0, 0, 0, 0⟩, ⟨true, 2, 0, 0, 0, 0⟩, ⟨false, 3, 0, 0, 0, 0⟩] = ⟨true, 2, 0, 0, 0, 0⟩ from rfl, show barZ [⟨false, 1, 0, 0, 0, 0⟩, ⟨true, 2, 0, 0, 0, 0⟩, ⟨false, 3, 0, 0, 0, 0⟩] = 1 from rfl, show cutN [⟨false, 1, 0, 0, 0, 0⟩, ⟨true, 2, 0, 0, 0, 0⟩, ⟨false, 3, 0, 0, 0, 0⟩] = 1 from rfl, List.take_succ_cons, List.take_zero] at C4
  have HB4 := hide ((unhide HB3).trans k4)
  clear C3 h4 h4' k4 HB3
  go_wp2_with fail
  refine (unhide C4).mono ?_
  rintro e w5 ⟨rfl, h5, k5⟩
  have b5 := below_box w5 (oEn ⟨true, 2, 0, 0, 0, 0⟩)
  have C5 := hide (vtop_any (h5.below b5))
  have HB5 := hide (((unhide HB4).trans k5).trans (Keep.of_below b5 h5.hi))
  have HP := hide (h5.below b5)
  have HK5 := hide (Blk.new w5 30 #[.bool true, .int .i64 2, .int .i64 0, .int .i64 0, .int .i64 0, .int .i64 0])
  rw [show lastE [⟨false, 1, 0, 0, 0, 0⟩] = ⟨false, 1, 0, 0, 0, 0⟩ from rfl] at C5
  clear C4 h5 k5 b5 HB4
  go_wp2_with fail
  refine (unhide C5).mono ?_
  rintro e w6 ⟨rfl, hb6⟩
  have b6 := below_box w6 (oEn ⟨false, 1, 0, 0, 0, 0⟩)
  have hb67 := hb6.trans (b6.mono hb6.size)
  have hp := (unhide HP).below hb67
  have CL := hide (vlen_any hp)
  have CM := hide (vmost_any hp)
  have q1 := ((unhide HK5).below hb67 (by simp)).cell 1
  have HB7 := hide ((unhide HB5).trans (Keep.of_below hb67 (unhide HP).hi))
  clear C5 hb6 b6 hb67 hp HP HK5 HB5
  go_wp2_with fail
  refine (unhide CL).mono ?_
  rintro e w7 ⟨rfl, hw7⟩
  subst hw7
  clear CL
  go_wp2_with fail
  refine (unhide CM).mono ?_
  rintro e w8 ⟨rfl, hw8⟩
  subst hw8
  go_wp2
  go_ret
  exact ⟨rfl, (unhide HB7).below fun k h => h⟩
end
end Go.Proofs.Ytklmligfljakfaa.Pi
