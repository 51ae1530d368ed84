/-
  UndoPlays, walked: true at any number of numbers and any steps. No conditions but that the steps lie in memory.
-/
import Derived.Test.YtjnljhigaapalaaUnPlay
import Derived.Deep.RegionHeld3
set_option linter.unusedVariables false
set_option linter.unusedSimpArgs false
namespace Go.Proofs.Ytjnljhigaapalaa.Un
open Go.RowKit Go.Proofs.Ytjnljhigaapalaa.Mem
open Go.Proofs.Ytjnljhigaapalaa.Ev (CV intA below_box ret_b run_not_true run_not_false own_reads own_base)
theorem cells3 {w : World} {g : Nat} {t : TypeId} {a b c : Value} (h : Blk w g t #[a, b, c]) : w.cell? ⟨g, 0, none⟩ = some a ∧ w.cell? ⟨g, 1, none⟩ = some b ∧ w.cell? ⟨g, 2, none⟩ = some c := ⟨h.cell 0, h.cell 1, h.cell 2⟩
set_option maxHeartbeats 1000000 in
theorem plays_out (n x : Int) (l : List Opn) (A : Option Addr) (c : Nat) (w : World) (h : n < 0 ∨ 65536 < n) :
    Calls Try.prog 3 #[.int .i64 n, .int .i64 x, .slice A l.length c] w fun e w' => e = .returned (.bool true) ∧ Below w.heap.size w w' := by
  have C := hide (anchor_any w)
  have C1 := hide (fun W => new_out n x W h)
  by_cases h0 : n < 0
  · have d0 : decide (n < 0) = true := by simpa using h0
    clear h
    go_enter Try.func3, Try.ntmps3
    go_wp2_with fail
    refine (unhide C).mono ?_
    rintro e w1 ⟨rfl, hb1⟩
    have HB1 := hide hb1
    clear hb1
    go_wp2_with fail
    refine ((unhide C1) _).mono ?_
    rintro e w2 ⟨rfl, rfl⟩
    go_wp2
    go_ret
    exact ⟨rfl, unhide HB1⟩
  · have d0 : decide (n < 0) = false := by simpa using h0
    have d1 : decide (65536 < n) = true := by simp; omega
    clear h
    go_enter Try.func3, Try.ntmps3
    go_wp2_with fail
    refine (unhide C).mono ?_
    rintro e w1 ⟨rfl, hb1⟩
    have HB1 := hide hb1
    clear hb1
    go_wp2_with fail
    refine ((unhide C1) _).mono ?_
    rintro e w2 ⟨rfl, rfl⟩
    go_wp2
    go_ret
    exact ⟨rfl, unhide HB1⟩
set_option maxHeartbeats 1000000 in
theorem plays_big (n : Nat) (x : Int) (l : List Opn) (A : Option Addr) (c : Nat) (w : World) (hn : n ≤ 65536) (h : 40 < n ∨ 60 < l.length) :
    Calls Try.prog 3 #[.int .i64 (n : Int), .int .i64 x, .slice A l.length c] w fun e w' => e = .returned (.bool true) ∧ Below w.heap.size w w' := by
  have C := hide (anchor_any w)
  have d0 : decide ((n : Int) < 0) = false := by simp
  have d1 : decide ((65536 : Int) < (n : Int)) = false := by simp; omega
  obtain ⟨q, hq⟩ : ∃ q, decide ((40 : Int) < (n : Int)) = q := ⟨_, rfl⟩
  obtain ⟨r, hr⟩ : ∃ r, decide ((60 : Int) < (l.length : Int)) = r := ⟨_, rfl⟩
  have d2 : decide (40 < n) = q := by rw [← hq]; apply Bool.eq_iff_iff.2; simp only [decide_eq_true_iff]; omega
  have d3 : decide (60 < l.length) = r := by rw [← hr]; apply Bool.eq_iff_iff.2; simp only [decide_eq_true_iff]; omega
  have HQR := hide (show (q || r) = true by rw [← d2, ← d3]; simpa using h)
  have HN := hide hn
  clear h hn
  go_enter Try.func3, Try.ntmps3
  go_wp2_with fail
  refine (unhide C).mono ?_
  rintro e w1 ⟨rfl, hb1⟩
  have C1 := hide (new_in (fun k => k < w1.heap.size) w1.heap.size n x w1 (unhide HN) (fun k h => h) (fun k h => h) (Nat.le_refl _))
  have HB1 := hide hb1
  clear C hb1
  go_wp2_with fail
  refine (unhide C1).mono ?_
  rintro e w2 ⟨⟨bb, rfl, h2⟩, hb2⟩
  have HB2 := hide ((unhide HB1).trans (hb2.mono (unhide HB1).size))
  clear C1 h2 hb2
  cases q with
  | true =>
    go_wp2
    go_ret
    exact ⟨rfl, unhide HB2⟩
  | false =>
    cases r with
    | true =>
      go_wp2
      go_ret
      exact ⟨rfl, unhide HB2⟩
    | false => cases unhide HQR
section
attribute [local go_sem high] neq_bool_same
attribute [local go_sem] run_not_true run_not_false
set_option maxRecDepth 100000 in
set_option maxHeartbeats 64000000 in
theorem plays_small (n : Nat) (x : Int) (l : List Opn) (A0 : Option Addr) (c0 : Nat) (w : World) (hn : n ≤ 40) (hl : l.length ≤ 60) (ho : OV l A0 c0 w.heap.size w) :
    Calls Try.prog 3 #[.int .i64 (n : Int), .int .i64 x, .slice A0 l.length c0] w fun e w' => e = .returned (.bool true) ∧ Below w.heap.size w w' := by
  have C := hide (anchor_any w)
  have d0 : decide ((n : Int) < 0) = false := by simp
  have d1 : decide ((65536 : Int) < (n : Int)) = false := by simp; omega
  have d2 : decide ((40 : Int) < (n : Int)) = false := by simp; omega
  have d3 : decide ((60 : Int) < (l.length : Int)) = false := by simp; omega
  have d4 : decide (40 < n) = false := by simp; omega
  have d5 : decide (60 < l.length) = false := by simp; omega
  have r1 := ho.room
  have r2 := ho.top
  have HO := hide ho
  obtain ⟨m, hm⟩ : ∃ m, l.length = m := ⟨_, rfl⟩
  have HM := hide hm
  rw [hm] at hl d3 d5 r1 ⊢
  have HN := hide hn
  have HLL := hide hl
  clear ho hm
  go_enter Try.func3, Try.ntmps3
  go_wp2_with fail
  refine (unhide C).mono ?_
  rintro e w1 ⟨rfl, hb1⟩
  have C1 := hide (new_in (fun k => k < w1.heap.size) w1.heap.size n x w1 (by have := unhide HN; omega) (fun k h => h) (fun k h => h) (Nat.le_refl _))
  have HB1 := hide hb1
  clear C hb1
  go_wp2_with fail
  refine (unhide C1).mono ?_
  rintro e w2 ⟨⟨bb, rfl, h2⟩, hb2⟩
  have HBV := hide h2
  have HB12 := hide hb2
  have CR := hide (rnew_any n x w2 (by have := unhide HN; omega))
  clear C1 h2 hb2
  go_wp2_with fail
  refine (unhide CR).mono ?_
  rintro e w3 ⟨⟨A3, c3, rfl, h3⟩, hb3⟩
  have HR3 := hide h3
  have HB23 := hide hb3
  clear CR h3 hb3
  go_wp2_with fail
  have hps0 : PS (fun k => k < w1.heap.size ∨ (w2.heap.size ≤ k ∧ k < w3.heap.size + 2)) (fun k => w2.heap.size ≤ k ∧ k < w3.heap.size) w1.heap.size bb w3.heap.size (List.replicate n x) [] (hist (List.replicate n x) []) A3 c3 (.slice (some ⟨w3.heap.size + 1, 0, none⟩) 1 1) [0] ((w3.alloc (.cells #[.slice A3 1 c3] 30)).alloc (.cells #[.int .i64 0] 3)) := by
    have hba := (below_box w3 (.cells #[.slice A3 1 c3] 30)).alloc (by simp) (.cells #[.int .i64 0] 3)
    have hbb := ((unhide HB23).trans (hba.mono (unhide HB23).size))
    have hz1 := (unhide HB12).size
    have hz2 := (unhide HB23).size
    refine ⟨(unhide HBV).more hbb (fun k h => .inl h) (fun k h => ?_), ?_, (Blk.new w3 30 #[.slice A3 1 c3]).alloc _, ?_, fun k h => .inr ⟨h.1, by omega⟩, .inr ⟨by omega, by omega⟩, fun h => by omega, fun g hg => ?_, fun k h => .inl h⟩
    · rcases h with h | h
      · exact .inl h
      · exact .inr ⟨h.1, by simpa using h.2⟩
    · rw [hist_nil]
      exact (unhide HR3).keep hba.size (fun k hp hk => hba.block k hk)
    · have h := World.ownsRow_lit (base := w1.heap.size) (e := 3) (size := 1) (w3.alloc (.cells #[.slice A3 1 c3] 30)) #[.int .i64 0] 1 (by simp; omega) (by unfold maxLen; omega) (by simp)
      simpa using h
    · simp [Value.ownBlock] at hg
      exact ⟨.inr ⟨by omega, by omega⟩, fun h => by omega⟩
  have hbel0 : Below w1.heap.size w1 ((w3.alloc (.cells #[.slice A3 1 c3] 30)).alloc (.cells #[.int .i64 0] 3)) := by
    have hz1 := (unhide HB12).size
    have hz2 := (unhide HB23).size
    exact (((unhide HB12).trans ((unhide HB23).mono hz1)).alloc (by omega) _).alloc (by simp; omega) _
  have HR0 := hide (show PlRel w1.heap.size bb w3.heap.size n m w1 (.slice (some ⟨w3.heap.size + 1, 0, none⟩) 1 1) (.int .i64 0) ((w3.alloc (.cells #[.slice A3 1 c3] 30)).alloc (.cells #[.int .i64 0] 3)) from ⟨0, _, _, _, [], A3, c3, [0], rfl, by omega, hps0, by simp, Nat.le_refl _, rfl, hbel0⟩)
  have HO1 := hide ((unhide HO).keep (Keep.of_below (unhide HB1) (K := fun k => k < w.heap.size) (fun k h => h)) (fun k h => h))
  obtain ⟨j0, hj, jz0, jz1, jz2⟩ := info_parts info_int
  have HW13 := hide (Nat.le_trans (unhide HB12).size (unhide HB23).size)
  clear hps0 hbel0 HBV HR3 HB12 HB23 HO
  go_wp2_with fail
  go_loopw [10, 55] (fun mv i wr => PlRel w1.heap.size bb w3.heap.size n m w1 mv i wr) (fun _ i _ => m - (intOf i).toNat)
  case atStart => exact unhide HR0
  case round =>
    obtain ⟨k, K, P, ns, tr, A, c, ml, rfl, hk, hps, hns, htr, hml, hbel⟩ := hrel
    go_hideQ
    obtain ⟨AM, cM, eM, -, -, -⟩ := own_reads hps.marks
    rw [hml] at eM
    subst eM
    by_cases hlt : k < m
    · obtain ⟨⟨o0, o1, o2⟩, ho⟩ : ∃ o, l[k]? = some o := ⟨_, List.getElem?_eq_getElem (by rw [unhide HM]; exact hlt)⟩
      obtain ⟨b, off, eA, hb, hc⟩ := ((unhide HO1).keep (Keep.of_below hbel (K := fun k => k < w.heap.size) (fun k h => Nat.lt_of_lt_of_le h (unhide HB1).size)) (fun k h => h)).lies (by rw [unhide HM]; omega)
      obtain ⟨q0, q1, q2⟩ := hc k _ ho
      subst eA
      simp only at q0 q1 q2
      have hki : (k : Int) < (m : Int) := by omega
      have hbx := below_box wr (.cells #[.int .i64 o0, .int .i64 o1, .int .i64 o2] 34)
      have HOB := hide (Blk.new wr 34 #[.int .i64 o0, .int .i64 o1, .int .i64 o2])
      obtain ⟨K1, hK1⟩ : ∃ K1 : Nat → Prop, (fun k => K k ∨ (wr.heap.size ≤ k ∧ k < (wr.alloc (.cells #[.int .i64 o0, .int .i64 o1, .int .i64 o2] 34)).heap.size)) = K1 := ⟨_, rfl⟩
      have hps1 := hps.more hbx
      rw [hK1] at hps1
      have HKO := hide (show K1 wr.heap.size by rw [← hK1]; exact .inr ⟨Nat.le_refl _, by simp⟩)
      have HPS1 := hide hps1
      have HBE1 := hide (hbel.trans (hbx.mono hbel.size))
      have hb6 : k ≤ 59 := by have := unhide HLL; omega
      obtain ⟨hN, hhN⟩ : ∃ hN, (hist ns tr).length = hN := ⟨_, rfl⟩
      have HHN := hide hhN
      obtain ⟨tv, htv⟩ : ∃ tv, tr.length = tv := ⟨_, rfl⟩
      have HTV := hide htv
      have htr2 : tv ≤ k := by omega
      have hN2 : hN = tv + 1 := by rw [← hhN, hist_len, htv]
      have HNS := hide hns
      have HN2 := hide hN2
      have HML := hide hml
      have HKT := hide htr2
      clear hps1 hK1
      clear hps hbel hbx ho hc hb hhN htv htr hns hN2 hml htr2
      by_cases hk1 : o0 = 1
      · subst hk1
        have CB := hide (set_any (unhide HPS1).book o1 o2 (by have := unhide HTV; have := unhide HKT; omega))
        go_wp2_with fail
        refine (unhide CB).mono ?_
        rintro e w5 ⟨rfl, h5, k5⟩
        have hps5 := (unhide HPS1).bookd h5 k5
        have hbe5 := (unhide HBE1).trans (k5.below hps5.lo)
        obtain ⟨x0, x1, x2⟩ := cells3 (k5.blk (unhide HOB) (unhide HKO))
        have CR := hide (rset_any hps5.ref (fun k hp => hps5.hi k (hps5.pk k hp)) tr.length ns (hist_len ns tr) (hist_last ns tr) o1 o2 (by rw [unhide HHN]; have := unhide HN2; have := unhide HKT; omega) (by have := unhide HNS; have := unhide HN; omega))
        rw [← hist_set, unhide HHN] at CR
        have c5 : w5.cell? ⟨w3.heap.size, 0, none⟩ = some (.slice A hN c) := by
          have h := hps5.box.cell 0
          rw [unhide HHN] at h
          exact h
        have HPS5 := hide hps5
        have HBE5 := hide hbe5
        clear CB h5 k5 hps5 hbe5
        go_wp2_with fail
        refine (unhide CR).mono ?_
        rintro e w6 ⟨⟨A6, c6, rfl, hr6⟩, hb6⟩
        have hps6 := (unhide HPS5).below hb6
        have c7 : w6.cell? ⟨w3.heap.size, 0, none⟩ = some (.slice A hN c) := by
          have h := hps6.box.cell 0
          rw [unhide HHN] at h
          exact h
        have f7 := hps6.box.frozen 0
        have hps7 := (unhide HPS5).refd hb6 hr6
        have hbe7 := ((unhide HBE5).trans (hb6.mono (unhide HBE5).size)).setCell (p := ⟨w3.heap.size, 0, none⟩) (unhide HW13) (.slice A6 (hist (setN ns o1 o2) (setT ns tr o1 o2)).length c6)
        have hns7 : (setN ns o1 o2).length = n := by rw [setN_len]; exact unhide HNS
        have htr7 : (setT ns tr o1 o2).length ≤ k + 1 := by have h := (setT_len ns tr o1 o2).1; have h2 := unhide HTV; have h3 := unhide HKT; omega
        generalize hasB ns o1 = bq at *
        obtain ⟨n6, hn6⟩ : ∃ n6, (hist (setN ns o1 o2) (setT ns tr o1 o2)).length = n6 := ⟨_, rfl⟩
        rw [hn6] at hps7 hbe7 ⊢
        have HP7 := hide hps7
        have HBE7 := hide hbe7
        have HNS7 := hide hns7
        have HTR7 := hide htr7
        clear CR hr6 hb6 hps6 hps7 hbe7 hns7 htr7 hn6
        go_wp2_with fail
        have hps7 := unhide HP7
        have hbe7 := unhide HBE7
        have hns7 := unhide HNS7
        have htr7 := unhide HTR7
        obtain ⟨w8, hw8⟩ : ∃ w8, w6.setCell ⟨w3.heap.size, 0, none⟩ (.slice A6 n6 c6) = w8 := ⟨_, rfl⟩
        rw [hw8] at hps7 hbe7
        obtain ⟨K2, P2, ns2, tr2, A2, c2, hps8, hns8, htr8⟩ : ∃ (K2 P2 : Nat → Prop) (ns2 : List Int) (tr2 : List Ch) (A2 : Option Addr) (c2 : Nat), PS K2 P2 w1.heap.size bb w3.heap.size ns2 tr2 (hist ns2 tr2) A2 c2 (.slice AM (k + 1) cM) ml w8 ∧ ns2.length = n ∧ tr2.length ≤ k + 1 := ⟨_, _, _, _, _, _, hps7, hns7, htr7⟩
        obtain ⟨m8, hm8⟩ : ∃ m8, tr2.length = m8 := ⟨_, rfl⟩
        obtain ⟨n8, hn8⟩ : ∃ n8, (hist ns2 tr2).length = n8 := ⟨_, rfl⟩
        have hnm : n8 = m8 + 1 := by rw [← hn8, hist_len, hm8]
        have htr9 : m8 ≤ k + 1 := by rw [← hm8]; exact htr8
        have HNS8 := hide hns8
        have HM8 := hide hm8
        have HN8 := hide hn8
        have HNM := hide hnm
        have CM := hide (fun wx (h : PS K2 P2 w1.heap.size bb w3.heap.size ns2 tr2 (hist ns2 tr2) A2 c2 (.slice AM (k + 1) cM) ml wx) => bv_mark h.book)
        have CL := hide (fun wx (h : PS K2 P2 w1.heap.size bb w3.heap.size ns2 tr2 (hist ns2 tr2) A2 c2 (.slice AM (k + 1) cM) ml wx) => bv_len h.book)
        have CP := hide (fun wx (h : PS K2 P2 w1.heap.size bb w3.heap.size ns2 tr2 (hist ns2 tr2) A2 c2 (.slice AM (k + 1) cM) ml wx) => part_any h.book 0 (n : Int))
        have CW := hide (fun wx (h : PS K2 P2 w1.heap.size bb w3.heap.size ns2 tr2 (hist ns2 tr2) A2 c2 (.slice AM (k + 1) cM) ml wx) => now_any h.ref tr2.length ns2 (hist_len ns2 tr2) (hist_last ns2 tr2))
        rw [part_all ns2 (n : Int) (by rw [hns8])] at CP
        rw [hm8] at CM
        rw [hns8] at CL CW
        rw [hn8] at CW
        have ws : IntKind.i64.wrap ((n8 : Int) - 1) = (m8 : Int) := by rw [IntKind.wrap_i64]; omega
        have dm : ((m8 : Int) != (m8 : Int)) = false := by simp
        have dn : ((n : Int) != (n : Int)) = false := by simp
        have HPS8 := hide hps8
        have HBE8 := hide hbe7
        have hb0 : w8.drew.cell? ⟨w3.heap.size, 0, none⟩ = some (.slice A2 n8 c2) := by
          have h := hps8.box.cell 0
          rw [hn8] at h
          exact h
        have HS0 := hide (show PS K2 P2 w1.heap.size bb w3.heap.size ns2 tr2 (hist ns2 tr2) A2 c2 (.slice AM (k + 1) cM) ml w8.drew ∧ Below w1.heap.size w1 w8.drew from ⟨hps8.below (Below.refl _ _).drew, hbe7.drew⟩)
        have HBC := hide (fun wx (h : PS K2 P2 w1.heap.size bb w3.heap.size ns2 tr2 (hist ns2 tr2) A2 c2 (.slice AM (k + 1) cM) ml wx) => (show wx.cell? ⟨w3.heap.size, 0, none⟩ = some (.slice A2 n8 c2) by
          have h := h.box.cell 0
          rw [hn8] at h
          exact h))
        rw [hw8]
        clear hps7 hns7 htr7 hps8 hns8 htr8 hbe7 hw8 hm8 hn8 hnm
        go_wp2_with fail
        go_region_held3 (fun wx => Hid (PS K2 P2 w1.heap.size bb w3.heap.size ns2 tr2 (hist ns2 tr2) A2 c2 (.slice AM (k + 1) cM) ml wx ∧ Below w1.heap.size w1 wx) ∧ wx.cell? ⟨w3.heap.size, 0, none⟩ = some (.slice A2 n8 c2))
          (first | exact ⟨HP9, (unhide HBC) _ (unhide HP9).1⟩ | exact ⟨HS0, hb0⟩)
          (first | (go_at_call 13; have hS := (show Hid (PS K2 P2 w1.heap.size bb w3.heap.size ns2 tr2 (hist ns2 tr2) A2 c2 (.slice AM (k + 1) cM) ml _ ∧ Below w1.heap.size w1 _) ∧ _ by assumption).1; refine ((unhide CM) _ (unhide hS).1).mono ?_; rintro e w9 ⟨rfl, rfl⟩; have HP9 := hS; clear hS) | (go_at_call 14; have hS := (show Hid (PS K2 P2 w1.heap.size bb w3.heap.size ns2 tr2 (hist ns2 tr2) A2 c2 (.slice AM (k + 1) cM) ml _ ∧ Below w1.heap.size w1 _) ∧ _ by assumption).1; refine ((unhide CL) _ (unhide hS).1).mono ?_; rintro e w9 ⟨rfl, rfl⟩; have HP9 := hS; clear hS) | (go_at_call 16; have hS := (show Hid (PS K2 P2 w1.heap.size bb w3.heap.size ns2 tr2 (hist ns2 tr2) A2 c2 (.slice AM (k + 1) cM) ml _ ∧ Below w1.heap.size w1 _) ∧ _ by assumption).1; refine ((unhide CP) _ (unhide hS).1).mono ?_; rintro e w9 ⟨⟨A9, rfl, hA9⟩, hb9⟩; rw [unhide HNS8]; have HNV9 := hide (show NV ns2 A9 w9 from fun h => ⟨_, hA9 h⟩); have HP9 := hide (show PS K2 P2 w1.heap.size bb w3.heap.size ns2 tr2 (hist ns2 tr2) A2 c2 (.slice AM (k + 1) cM) ml w9 ∧ Below w1.heap.size w1 w9 from ⟨(unhide hS).1.below hb9, (unhide hS).2.trans (hb9.mono (unhide hS).2.size)⟩); clear hS hA9 hb9) | (go_at_call 17; have hS := (show Hid (PS K2 P2 w1.heap.size bb w3.heap.size ns2 tr2 (hist ns2 tr2) A2 c2 (.slice AM (k + 1) cM) ml _ ∧ Below w1.heap.size w1 _) ∧ _ by assumption).1; refine ((unhide CW) _ (unhide hS).1).mono ?_; rintro e w10 ⟨⟨A10, c10, rfl, h10⟩, hb10⟩; have HNV10 := hide ((unhide HNV9).below hb10); have HCV10 := hide h10.cv; have HP9 := hide (show PS K2 P2 w1.heap.size bb w3.heap.size ns2 tr2 (hist ns2 tr2) A2 c2 (.slice AM (k + 1) cM) ml w10 ∧ Below w1.heap.size w1 w10 from ⟨(unhide hS).1.below hb10, (unhide hS).2.trans (hb10.mono (unhide hS).2.size)⟩); clear hS h10 hb10) | (go_at_call 15; have hS := (show Hid (PS K2 P2 w1.heap.size bb w3.heap.size ns2 tr2 (hist ns2 tr2) A2 c2 (.slice AM (k + 1) cM) ml _ ∧ Below w1.heap.size w1 _) ∧ _ by assumption).1; have CS := like_any ns2 ns2 A9 A10 ns2.length c10 _ ((unhide HNV10).cv (by rw [unhide HNS8]; have := unhide HN; omega)) (unhide HCV10); rw [unhide HNS8, show decide (ns2 = ns2) = true by simp] at CS; refine CS.mono ?_; rintro e w11 ⟨rfl, hb11⟩; have HP9 := hide (show PS K2 P2 w1.heap.size bb w3.heap.size ns2 tr2 (hist ns2 tr2) A2 c2 (.slice AM (k + 1) cM) ml w11 ∧ Below w1.heap.size w1 w11 from ⟨(unhide hS).1.below hb11, (unhide hS).2.trans (hb11.mono (unhide hS).2.size)⟩); clear hS hb11 CS))
        all_goals
          have hS := (show Hid (PS K2 P2 w1.heap.size bb w3.heap.size ns2 tr2 (hist ns2 tr2) A2 c2 (.slice AM (k + 1) cM) ml _ ∧ Below w1.heap.size w1 _) ∧ _ by assumption).1
          have hps9 := (unhide hS).1
          have CM9 := hide (bv_mark hps9.book)
          rw [unhide HM8] at CM9
          have HPS9 := hide hps9
          have HBE9 := hide (unhide hS).2
          have hmk := hps9.marks
          rw [unhide HML] at hmk
          have HMK := hide hmk
          have hmx : k + 1 + 1 ≤ maxLen := by unfold maxLen; omega
          have HBS := hide ((unhide HBE9).size)
          clear hS hps9 hmk CM CL CP CW HBC HS0 hb0
          go_wp2_with fail
          refine (unhide CM9).mono ?_
          rintro e w12 ⟨rfl, rfl⟩
          clear CM9
          go_wp2_with (at_builtin; refine wpList_append_any _ rfl (.tmp 148) (.tmp 151) 32 rfl w1.heap.size 3 j0 (.int .i64 0) 1 8 Try.underlying32 hj jz0 jz1 jz2 rfl (by decide) (.slice AM (k + 1) cM) (k + 1) _ rfl ((unhide HMK).alloc _) _ _ 1 _ [.int .i64 (m8 : Int)] rfl (reads_new1 _ _ _) (by simp [Value.oneCell']) hmx (by omega) (by rw [World.size_alloc]; have := unhide HBS; omega) ?_; intro v13 w13 ho13 hg13 hn13; have HO13 := hide ho13; have HG13 := hide hg13; have HN13 := hide hn13; clear ho13 hg13 hn13)
          have hR : PlRel w1.heap.size bb w3.heap.size n m w1 v13 (.int .i64 ((k : Int) + 1)) w13 := by
            refine ⟨k + 1, _, _, ns2, tr2, A2, c2, ml ++ [(m8 : Int)], by go_num, by omega, (unhide HPS9).marked (o := #[.int .i64 (m8 : Int)]) (by rw [unhide HML]; exact unhide HO13) (unhide HG13) (unhide HN13), unhide HNS8, by rw [unhide HM8]; exact htr9, by rw [List.length_append, unhide HML]; rfl, ?_⟩
            exact ((unhide HBE9).alloc (unhide HBS) _).grown (unhide HG13) (by rw [World.size_alloc]; have := unhide HBS; omega) (fun g e => own_base (unhide HMK) g e)
          have hme : m - (intOf (.int .i64 ((k : Int) + 1))).toNat < m - k := by simp [intOf]; omega
          first | exact ⟨hR, hme⟩ | exact ⟨⟨_, _, _, hR, rfl, rfl, rfl⟩, hme⟩ | (go_roundw; exact hR; exact hme)
      · by_cases hk2 : o0 = 2
        · subst hk2
          clear hk1
          have CB := hide (undo_any (unhide HPS1).book o2 (by have := unhide HTV; have := unhide HKT; omega))
          go_wp2_with fail
          refine (unhide CB).mono ?_
          rintro e w5 ⟨rfl, h5, k5⟩
          have hps5 := (unhide HPS1).bookd h5 k5
          have hbe5 := (unhide HBE1).trans (k5.below hps5.lo)
          obtain ⟨x0, x1, x2⟩ := cells3 (k5.blk (unhide HOB) (unhide HKO))
          have CR := hide (rundo_any hps5.ref o2 (by rw [unhide HHN]; have := unhide HN2; have := unhide HKT; omega))
          rw [← hist_undo, undo_okB, unhide HHN] at CR
          have c5 : w5.cell? ⟨w3.heap.size, 0, none⟩ = some (.slice A hN c) := by
            have h := hps5.box.cell 0
            rw [unhide HHN] at h
            exact h
          have HPS5 := hide hps5
          have HBE5 := hide hbe5
          clear CB h5 k5 hps5 hbe5
          go_wp2_with fail
          refine (unhide CR).mono ?_
          rintro e w6 ⟨rfl, hr6, hb6⟩
          have hps6 := (unhide HPS5).below hb6
          have c7 : w6.cell? ⟨w3.heap.size, 0, none⟩ = some (.slice A hN c) := by
            have h := hps6.box.cell 0
            rw [unhide HHN] at h
            exact h
          have f7 := hps6.box.frozen 0
          have hps7 := (unhide HPS5).refd hb6 (hr6.mono (fun k h => .inl h))
          have hbe7 := ((unhide HBE5).trans (hb6.mono (unhide HBE5).size)).setCell (p := ⟨w3.heap.size, 0, none⟩) (unhide HW13) (.slice A (hist (undoN ns tr o2) (undoT tr o2)).length c)
          have hns7 : (undoN ns tr o2).length = n := by rw [undoN_len]; exact unhide HNS
          have htr7 : (undoT tr o2).length ≤ k + 1 := by have h := undoT_len tr o2; have h2 := unhide HTV; have h3 := unhide HKT; omega
          obtain ⟨bq, hbq⟩ : ∃ bq, okB tr o2 = bq := ⟨_, rfl⟩
          rw [hbq]
          obtain ⟨n6, hn6⟩ : ∃ n6, (hist (undoN ns tr o2) (undoT tr o2)).length = n6 := ⟨_, rfl⟩
          rw [hn6] at hps7 hbe7 ⊢
          have HP7 := hide hps7
          have HBE7 := hide hbe7
          have HNS7 := hide hns7
          have HTR7 := hide htr7
          clear CR hr6 hb6 hps6 hps7 hbe7 hns7 htr7 hn6 hbq
          go_wp2_with fail
          have hps7 := unhide HP7
          have hbe7 := unhide HBE7
          have hns7 := unhide HNS7
          have htr7 := unhide HTR7
          obtain ⟨w8, hw8⟩ : ∃ w8, w6.setCell ⟨w3.heap.size, 0, none⟩ (.slice A n6 c) = w8 := ⟨_, rfl⟩
          rw [hw8] at hps7 hbe7
          obtain ⟨K2, P2, ns2, tr2, A2, c2, hps8, hns8, htr8⟩ : ∃ (K2 P2 : Nat → Prop) (ns2 : List Int) (tr2 : List Ch) (A2 : Option Addr) (c2 : Nat), PS K2 P2 w1.heap.size bb w3.heap.size ns2 tr2 (hist ns2 tr2) A2 c2 (.slice AM (k + 1) cM) ml w8 ∧ ns2.length = n ∧ tr2.length ≤ k + 1 := ⟨_, _, _, _, _, _, hps7, hns7, htr7⟩
          obtain ⟨m8, hm8⟩ : ∃ m8, tr2.length = m8 := ⟨_, rfl⟩
          obtain ⟨n8, hn8⟩ : ∃ n8, (hist ns2 tr2).length = n8 := ⟨_, rfl⟩
          have hnm : n8 = m8 + 1 := by rw [← hn8, hist_len, hm8]
          have htr9 : m8 ≤ k + 1 := by rw [← hm8]; exact htr8
          have HNS8 := hide hns8
          have HM8 := hide hm8
          have HN8 := hide hn8
          have HNM := hide hnm
          have CM := hide (fun wx (h : PS K2 P2 w1.heap.size bb w3.heap.size ns2 tr2 (hist ns2 tr2) A2 c2 (.slice AM (k + 1) cM) ml wx) => bv_mark h.book)
          have CL := hide (fun wx (h : PS K2 P2 w1.heap.size bb w3.heap.size ns2 tr2 (hist ns2 tr2) A2 c2 (.slice AM (k + 1) cM) ml wx) => bv_len h.book)
          have CP := hide (fun wx (h : PS K2 P2 w1.heap.size bb w3.heap.size ns2 tr2 (hist ns2 tr2) A2 c2 (.slice AM (k + 1) cM) ml wx) => part_any h.book 0 (n : Int))
          have CW := hide (fun wx (h : PS K2 P2 w1.heap.size bb w3.heap.size ns2 tr2 (hist ns2 tr2) A2 c2 (.slice AM (k + 1) cM) ml wx) => now_any h.ref tr2.length ns2 (hist_len ns2 tr2) (hist_last ns2 tr2))
          rw [part_all ns2 (n : Int) (by rw [hns8])] at CP
          rw [hm8] at CM
          rw [hns8] at CL CW
          rw [hn8] at CW
          have ws : IntKind.i64.wrap ((n8 : Int) - 1) = (m8 : Int) := by rw [IntKind.wrap_i64]; omega
          have dm : ((m8 : Int) != (m8 : Int)) = false := by simp
          have dn : ((n : Int) != (n : Int)) = false := by simp
          have HPS8 := hide hps8
          have HBE8 := hide hbe7
          have hb0 : w8.drew.cell? ⟨w3.heap.size, 0, none⟩ = some (.slice A2 n8 c2) := by
            have h := hps8.box.cell 0
            rw [hn8] at h
            exact h
          have HS0 := hide (show PS K2 P2 w1.heap.size bb w3.heap.size ns2 tr2 (hist ns2 tr2) A2 c2 (.slice AM (k + 1) cM) ml w8.drew ∧ Below w1.heap.size w1 w8.drew from ⟨hps8.below (Below.refl _ _).drew, hbe7.drew⟩)
          have HBC := hide (fun wx (h : PS K2 P2 w1.heap.size bb w3.heap.size ns2 tr2 (hist ns2 tr2) A2 c2 (.slice AM (k + 1) cM) ml wx) => (show wx.cell? ⟨w3.heap.size, 0, none⟩ = some (.slice A2 n8 c2) by
            have h := h.box.cell 0
            rw [hn8] at h
            exact h))
          rw [hw8]
          clear hps7 hns7 htr7 hps8 hns8 htr8 hbe7 hw8 hm8 hn8 hnm
          go_wp2_with fail
          go_region_held3 (fun wx => Hid (PS K2 P2 w1.heap.size bb w3.heap.size ns2 tr2 (hist ns2 tr2) A2 c2 (.slice AM (k + 1) cM) ml wx ∧ Below w1.heap.size w1 wx) ∧ wx.cell? ⟨w3.heap.size, 0, none⟩ = some (.slice A2 n8 c2))
            (first | exact ⟨HP9, (unhide HBC) _ (unhide HP9).1⟩ | exact ⟨HS0, hb0⟩)
            (first | (go_at_call 13; have hS := (show Hid (PS K2 P2 w1.heap.size bb w3.heap.size ns2 tr2 (hist ns2 tr2) A2 c2 (.slice AM (k + 1) cM) ml _ ∧ Below w1.heap.size w1 _) ∧ _ by assumption).1; refine ((unhide CM) _ (unhide hS).1).mono ?_; rintro e w9 ⟨rfl, rfl⟩; have HP9 := hS; clear hS) | (go_at_call 14; have hS := (show Hid (PS K2 P2 w1.heap.size bb w3.heap.size ns2 tr2 (hist ns2 tr2) A2 c2 (.slice AM (k + 1) cM) ml _ ∧ Below w1.heap.size w1 _) ∧ _ by assumption).1; refine ((unhide CL) _ (unhide hS).1).mono ?_; rintro e w9 ⟨rfl, rfl⟩; have HP9 := hS; clear hS) | (go_at_call 16; have hS := (show Hid (PS K2 P2 w1.heap.size bb w3.heap.size ns2 tr2 (hist ns2 tr2) A2 c2 (.slice AM (k + 1) cM) ml _ ∧ Below w1.heap.size w1 _) ∧ _ by assumption).1; refine ((unhide CP) _ (unhide hS).1).mono ?_; rintro e w9 ⟨⟨A9, rfl, hA9⟩, hb9⟩; rw [unhide HNS8]; have HNV9 := hide (show NV ns2 A9 w9 from fun h => ⟨_, hA9 h⟩); have HP9 := hide (show PS K2 P2 w1.heap.size bb w3.heap.size ns2 tr2 (hist ns2 tr2) A2 c2 (.slice AM (k + 1) cM) ml w9 ∧ Below w1.heap.size w1 w9 from ⟨(unhide hS).1.below hb9, (unhide hS).2.trans (hb9.mono (unhide hS).2.size)⟩); clear hS hA9 hb9) | (go_at_call 17; have hS := (show Hid (PS K2 P2 w1.heap.size bb w3.heap.size ns2 tr2 (hist ns2 tr2) A2 c2 (.slice AM (k + 1) cM) ml _ ∧ Below w1.heap.size w1 _) ∧ _ by assumption).1; refine ((unhide CW) _ (unhide hS).1).mono ?_; rintro e w10 ⟨⟨A10, c10, rfl, h10⟩, hb10⟩; have HNV10 := hide ((unhide HNV9).below hb10); have HCV10 := hide h10.cv; have HP9 := hide (show PS K2 P2 w1.heap.size bb w3.heap.size ns2 tr2 (hist ns2 tr2) A2 c2 (.slice AM (k + 1) cM) ml w10 ∧ Below w1.heap.size w1 w10 from ⟨(unhide hS).1.below hb10, (unhide hS).2.trans (hb10.mono (unhide hS).2.size)⟩); clear hS h10 hb10) | (go_at_call 15; have hS := (show Hid (PS K2 P2 w1.heap.size bb w3.heap.size ns2 tr2 (hist ns2 tr2) A2 c2 (.slice AM (k + 1) cM) ml _ ∧ Below w1.heap.size w1 _) ∧ _ by assumption).1; have CS := like_any ns2 ns2 A9 A10 ns2.length c10 _ ((unhide HNV10).cv (by rw [unhide HNS8]; have := unhide HN; omega)) (unhide HCV10); rw [unhide HNS8, show decide (ns2 = ns2) = true by simp] at CS; refine CS.mono ?_; rintro e w11 ⟨rfl, hb11⟩; have HP9 := hide (show PS K2 P2 w1.heap.size bb w3.heap.size ns2 tr2 (hist ns2 tr2) A2 c2 (.slice AM (k + 1) cM) ml w11 ∧ Below w1.heap.size w1 w11 from ⟨(unhide hS).1.below hb11, (unhide hS).2.trans (hb11.mono (unhide hS).2.size)⟩); clear hS hb11 CS))
          all_goals
            have hS := (show Hid (PS K2 P2 w1.heap.size bb w3.heap.size ns2 tr2 (hist ns2 tr2) A2 c2 (.slice AM (k + 1) cM) ml _ ∧ Below w1.heap.size w1 _) ∧ _ by assumption).1
            have hps9 := (unhide hS).1
            have CM9 := hide (bv_mark hps9.book)
            rw [unhide HM8] at CM9
            have HPS9 := hide hps9
            have HBE9 := hide (unhide hS).2
            have hmk := hps9.marks
            rw [unhide HML] at hmk
            have HMK := hide hmk
            have hmx : k + 1 + 1 ≤ maxLen := by unfold maxLen; omega
            have HBS := hide ((unhide HBE9).size)
            clear hS hps9 hmk CM CL CP CW HBC HS0 hb0
            go_wp2_with fail
            refine (unhide CM9).mono ?_
            rintro e w12 ⟨rfl, rfl⟩
            clear CM9
            go_wp2_with (at_builtin; refine wpList_append_any _ rfl (.tmp 148) (.tmp 151) 32 rfl w1.heap.size 3 j0 (.int .i64 0) 1 8 Try.underlying32 hj jz0 jz1 jz2 rfl (by decide) (.slice AM (k + 1) cM) (k + 1) _ rfl ((unhide HMK).alloc _) _ _ 1 _ [.int .i64 (m8 : Int)] rfl (reads_new1 _ _ _) (by simp [Value.oneCell']) hmx (by omega) (by rw [World.size_alloc]; have := unhide HBS; omega) ?_; intro v13 w13 ho13 hg13 hn13; have HO13 := hide ho13; have HG13 := hide hg13; have HN13 := hide hn13; clear ho13 hg13 hn13)
            have hR : PlRel w1.heap.size bb w3.heap.size n m w1 v13 (.int .i64 ((k : Int) + 1)) w13 := by
              refine ⟨k + 1, _, _, ns2, tr2, A2, c2, ml ++ [(m8 : Int)], by go_num, by omega, (unhide HPS9).marked (o := #[.int .i64 (m8 : Int)]) (by rw [unhide HML]; exact unhide HO13) (unhide HG13) (unhide HN13), unhide HNS8, by rw [unhide HM8]; exact htr9, by rw [List.length_append, unhide HML]; rfl, ?_⟩
              exact ((unhide HBE9).alloc (unhide HBS) _).grown (unhide HG13) (by rw [World.size_alloc]; have := unhide HBS; omega) (fun g e => own_base (unhide HMK) g e)
            have hme : m - (intOf (.int .i64 ((k : Int) + 1))).toNat < m - k := by simp [intOf]; omega
            first | exact ⟨hR, hme⟩ | exact ⟨⟨_, _, _, hR, rfl, rfl, rfl⟩, hme⟩ | (go_roundw; exact hR; exact hme)
        · by_cases hk3 : o0 = 3
          · subst hk3
            clear hk1 hk2
            by_cases hin : 0 ≤ o2 ∧ o2 < (k : Int) + 1
            · skip
              obtain ⟨j, rfl⟩ : ∃ j : Nat, o2 = (j : Int) := ⟨o2.toNat, by omega⟩
              have hjk : j ≤ k := by omega
              obtain ⟨y, hy⟩ : ∃ y, ml[k - j]? = some y := ⟨_, List.getElem?_eq_getElem (by rw [unhide HML]; omega)⟩
              obtain ⟨AM2, cM2, eM2, hrM, -, -⟩ := own_reads (unhide HPS1).marks
              rw [unhide HML] at eM2 hrM
              cases eM2
              obtain ⟨gM, oM, rfl, -, hcM⟩ := hrM.flat (by omega)
              have y1 := hcM (k - j) (.int .i64 y) (by rw [List.getElem?_map, hy]; rfl)
              have g1 : decide (0 ≤ (j : Int)) = true := by simp
              have g2 : decide ((j : Int) < (k : Int) + 1) = true := by simp; omega
              have g3 : decide (j < k + 1) = true := by simp; omega
              have g4 : (j : Int) < (k : Int) + 1 := by omega
              have z1 : IntKind.i64.wrap (((k : Int) + 1) - 1) = (k : Int) := by rw [IntKind.wrap_i64]; omega
              have z2 : IntKind.i64.wrap ((k : Int) - (j : Int)) = ((k - j : Nat) : Int) := by rw [IntKind.wrap_i64]; omega
              have z3 : k - j < k + 1 := by omega
              have z4 : ((k - j : Nat) : Int) < ((k + 1 : Nat) : Int) := by omega
              generalize hkj : k - j = kj at *
              have HKJ := hide hkj
              clear hy hrM hcM hkj
              have CB := hide (undo_any (unhide HPS1).book y (by have := unhide HTV; have := unhide HKT; omega))
              go_wp2_with fail
              refine (unhide CB).mono ?_
              rintro e w5 ⟨rfl, h5, k5⟩
              have hps5 := (unhide HPS1).bookd h5 k5
              have hbe5 := (unhide HBE1).trans (k5.below hps5.lo)
              obtain ⟨x0, x1, x2⟩ := cells3 (k5.blk (unhide HOB) (unhide HKO))
              have CR := hide (rundo_any hps5.ref y (by rw [unhide HHN]; have := unhide HN2; have := unhide HKT; omega))
              rw [← hist_undo, undo_okB, unhide HHN] at CR
              have c5 : w5.cell? ⟨w3.heap.size, 0, none⟩ = some (.slice A hN c) := by
                have h := hps5.box.cell 0
                rw [unhide HHN] at h
                exact h
              have HPS5 := hide hps5
              have HBE5 := hide hbe5
              clear CB h5 k5 hps5 hbe5
              go_wp2_with fail
              refine (unhide CR).mono ?_
              rintro e w6 ⟨rfl, hr6, hb6⟩
              have hps6 := (unhide HPS5).below hb6
              have c7 : w6.cell? ⟨w3.heap.size, 0, none⟩ = some (.slice A hN c) := by
                have h := hps6.box.cell 0
                rw [unhide HHN] at h
                exact h
              have f7 := hps6.box.frozen 0
              have hps7 := (unhide HPS5).refd hb6 (hr6.mono (fun k h => .inl h))
              have hbe7 := ((unhide HBE5).trans (hb6.mono (unhide HBE5).size)).setCell (p := ⟨w3.heap.size, 0, none⟩) (unhide HW13) (.slice A (hist (undoN ns tr y) (undoT tr y)).length c)
              have hns7 : (undoN ns tr y).length = n := by rw [undoN_len]; exact unhide HNS
              have htr7 : (undoT tr y).length ≤ k + 1 := by have h := undoT_len tr y; have h2 := unhide HTV; have h3 := unhide HKT; omega
              obtain ⟨bq, hbq⟩ : ∃ bq, okB tr y = bq := ⟨_, rfl⟩
              rw [hbq]
              obtain ⟨n6, hn6⟩ : ∃ n6, (hist (undoN ns tr y) (undoT tr y)).length = n6 := ⟨_, rfl⟩
              rw [hn6] at hps7 hbe7 ⊢
              have HP7 := hide hps7
              have HBE7 := hide hbe7
              have HNS7 := hide hns7
              have HTR7 := hide htr7
              clear CR hr6 hb6 hps6 hps7 hbe7 hns7 htr7 hn6 hbq
              go_wp2_with fail
              have hps7 := unhide HP7
              have hbe7 := unhide HBE7
              have hns7 := unhide HNS7
              have htr7 := unhide HTR7
              obtain ⟨w8, hw8⟩ : ∃ w8, w6.setCell ⟨w3.heap.size, 0, none⟩ (.slice A n6 c) = w8 := ⟨_, rfl⟩
              rw [hw8] at hps7 hbe7
              obtain ⟨K2, P2, ns2, tr2, A2, c2, hps8, hns8, htr8⟩ : ∃ (K2 P2 : Nat → Prop) (ns2 : List Int) (tr2 : List Ch) (A2 : Option Addr) (c2 : Nat), PS K2 P2 w1.heap.size bb w3.heap.size ns2 tr2 (hist ns2 tr2) A2 c2 (.slice (some ⟨gM, oM, none⟩) (k + 1) cM) ml w8 ∧ ns2.length = n ∧ tr2.length ≤ k + 1 := ⟨_, _, _, _, _, _, hps7, hns7, htr7⟩
              obtain ⟨m8, hm8⟩ : ∃ m8, tr2.length = m8 := ⟨_, rfl⟩
              obtain ⟨n8, hn8⟩ : ∃ n8, (hist ns2 tr2).length = n8 := ⟨_, rfl⟩
              have hnm : n8 = m8 + 1 := by rw [← hn8, hist_len, hm8]
              have htr9 : m8 ≤ k + 1 := by rw [← hm8]; exact htr8
              have HNS8 := hide hns8
              have HM8 := hide hm8
              have HN8 := hide hn8
              have HNM := hide hnm
              have CM := hide (fun wx (h : PS K2 P2 w1.heap.size bb w3.heap.size ns2 tr2 (hist ns2 tr2) A2 c2 (.slice (some ⟨gM, oM, none⟩) (k + 1) cM) ml wx) => bv_mark h.book)
              have CL := hide (fun wx (h : PS K2 P2 w1.heap.size bb w3.heap.size ns2 tr2 (hist ns2 tr2) A2 c2 (.slice (some ⟨gM, oM, none⟩) (k + 1) cM) ml wx) => bv_len h.book)
              have CP := hide (fun wx (h : PS K2 P2 w1.heap.size bb w3.heap.size ns2 tr2 (hist ns2 tr2) A2 c2 (.slice (some ⟨gM, oM, none⟩) (k + 1) cM) ml wx) => part_any h.book 0 (n : Int))
              have CW := hide (fun wx (h : PS K2 P2 w1.heap.size bb w3.heap.size ns2 tr2 (hist ns2 tr2) A2 c2 (.slice (some ⟨gM, oM, none⟩) (k + 1) cM) ml wx) => now_any h.ref tr2.length ns2 (hist_len ns2 tr2) (hist_last ns2 tr2))
              rw [part_all ns2 (n : Int) (by rw [hns8])] at CP
              rw [hm8] at CM
              rw [hns8] at CL CW
              rw [hn8] at CW
              have ws : IntKind.i64.wrap ((n8 : Int) - 1) = (m8 : Int) := by rw [IntKind.wrap_i64]; omega
              have dm : ((m8 : Int) != (m8 : Int)) = false := by simp
              have dn : ((n : Int) != (n : Int)) = false := by simp
              have HPS8 := hide hps8
              have HBE8 := hide hbe7
              have hb0 : w8.drew.cell? ⟨w3.heap.size, 0, none⟩ = some (.slice A2 n8 c2) := by
                have h := hps8.box.cell 0
                rw [hn8] at h
                exact h
              have HS0 := hide (show PS K2 P2 w1.heap.size bb w3.heap.size ns2 tr2 (hist ns2 tr2) A2 c2 (.slice (some ⟨gM, oM, none⟩) (k + 1) cM) ml w8.drew ∧ Below w1.heap.size w1 w8.drew from ⟨hps8.below (Below.refl _ _).drew, hbe7.drew⟩)
              have HBC := hide (fun wx (h : PS K2 P2 w1.heap.size bb w3.heap.size ns2 tr2 (hist ns2 tr2) A2 c2 (.slice (some ⟨gM, oM, none⟩) (k + 1) cM) ml wx) => (show wx.cell? ⟨w3.heap.size, 0, none⟩ = some (.slice A2 n8 c2) by
                have h := h.box.cell 0
                rw [hn8] at h
                exact h))
              rw [hw8]
              clear hps7 hns7 htr7 hps8 hns8 htr8 hbe7 hw8 hm8 hn8 hnm
              go_wp2_with fail
              go_region_held3 (fun wx => Hid (PS K2 P2 w1.heap.size bb w3.heap.size ns2 tr2 (hist ns2 tr2) A2 c2 (.slice (some ⟨gM, oM, none⟩) (k + 1) cM) ml wx ∧ Below w1.heap.size w1 wx) ∧ wx.cell? ⟨w3.heap.size, 0, none⟩ = some (.slice A2 n8 c2))
                (first | exact ⟨HP9, (unhide HBC) _ (unhide HP9).1⟩ | exact ⟨HS0, hb0⟩)
                (first | (go_at_call 13; have hS := (show Hid (PS K2 P2 w1.heap.size bb w3.heap.size ns2 tr2 (hist ns2 tr2) A2 c2 (.slice (some ⟨gM, oM, none⟩) (k + 1) cM) ml _ ∧ Below w1.heap.size w1 _) ∧ _ by assumption).1; refine ((unhide CM) _ (unhide hS).1).mono ?_; rintro e w9 ⟨rfl, rfl⟩; have HP9 := hS; clear hS) | (go_at_call 14; have hS := (show Hid (PS K2 P2 w1.heap.size bb w3.heap.size ns2 tr2 (hist ns2 tr2) A2 c2 (.slice (some ⟨gM, oM, none⟩) (k + 1) cM) ml _ ∧ Below w1.heap.size w1 _) ∧ _ by assumption).1; refine ((unhide CL) _ (unhide hS).1).mono ?_; rintro e w9 ⟨rfl, rfl⟩; have HP9 := hS; clear hS) | (go_at_call 16; have hS := (show Hid (PS K2 P2 w1.heap.size bb w3.heap.size ns2 tr2 (hist ns2 tr2) A2 c2 (.slice (some ⟨gM, oM, none⟩) (k + 1) cM) ml _ ∧ Below w1.heap.size w1 _) ∧ _ by assumption).1; refine ((unhide CP) _ (unhide hS).1).mono ?_; rintro e w9 ⟨⟨A9, rfl, hA9⟩, hb9⟩; rw [unhide HNS8]; have HNV9 := hide (show NV ns2 A9 w9 from fun h => ⟨_, hA9 h⟩); have HP9 := hide (show PS K2 P2 w1.heap.size bb w3.heap.size ns2 tr2 (hist ns2 tr2) A2 c2 (.slice (some ⟨gM, oM, none⟩) (k + 1) cM) ml w9 ∧ Below w1.heap.size w1 w9 from ⟨(unhide hS).1.below hb9, (unhide hS).2.trans (hb9.mono (unhide hS).2.size)⟩); clear hS hA9 hb9) | (go_at_call 17; have hS := (show Hid (PS K2 P2 w1.heap.size bb w3.heap.size ns2 tr2 (hist ns2 tr2) A2 c2 (.slice (some ⟨gM, oM, none⟩) (k + 1) cM) ml _ ∧ Below w1.heap.size w1 _) ∧ _ by assumption).1; refine ((unhide CW) _ (unhide hS).1).mono ?_; rintro e w10 ⟨⟨A10, c10, rfl, h10⟩, hb10⟩; have HNV10 := hide ((unhide HNV9).below hb10); have HCV10 := hide h10.cv; have HP9 := hide (show PS K2 P2 w1.heap.size bb w3.heap.size ns2 tr2 (hist ns2 tr2) A2 c2 (.slice (some ⟨gM, oM, none⟩) (k + 1) cM) ml w10 ∧ Below w1.heap.size w1 w10 from ⟨(unhide hS).1.below hb10, (unhide hS).2.trans (hb10.mono (unhide hS).2.size)⟩); clear hS h10 hb10) | (go_at_call 15; have hS := (show Hid (PS K2 P2 w1.heap.size bb w3.heap.size ns2 tr2 (hist ns2 tr2) A2 c2 (.slice (some ⟨gM, oM, none⟩) (k + 1) cM) ml _ ∧ Below w1.heap.size w1 _) ∧ _ by assumption).1; have CS := like_any ns2 ns2 A9 A10 ns2.length c10 _ ((unhide HNV10).cv (by rw [unhide HNS8]; have := unhide HN; omega)) (unhide HCV10); rw [unhide HNS8, show decide (ns2 = ns2) = true by simp] at CS; refine CS.mono ?_; rintro e w11 ⟨rfl, hb11⟩; have HP9 := hide (show PS K2 P2 w1.heap.size bb w3.heap.size ns2 tr2 (hist ns2 tr2) A2 c2 (.slice (some ⟨gM, oM, none⟩) (k + 1) cM) ml w11 ∧ Below w1.heap.size w1 w11 from ⟨(unhide hS).1.below hb11, (unhide hS).2.trans (hb11.mono (unhide hS).2.size)⟩); clear hS hb11 CS))
              all_goals
                have hS := (show Hid (PS K2 P2 w1.heap.size bb w3.heap.size ns2 tr2 (hist ns2 tr2) A2 c2 (.slice (some ⟨gM, oM, none⟩) (k + 1) cM) ml _ ∧ Below w1.heap.size w1 _) ∧ _ by assumption).1
                have hps9 := (unhide hS).1
                have CM9 := hide (bv_mark hps9.book)
                rw [unhide HM8] at CM9
                have HPS9 := hide hps9
                have HBE9 := hide (unhide hS).2
                have hmk := hps9.marks
                rw [unhide HML] at hmk
                have HMK := hide hmk
                have hmx : k + 1 + 1 ≤ maxLen := by unfold maxLen; omega
                have HBS := hide ((unhide HBE9).size)
                clear hS hps9 hmk CM CL CP CW HBC HS0 hb0
                go_wp2_with fail
                refine (unhide CM9).mono ?_
                rintro e w12 ⟨rfl, rfl⟩
                clear CM9
                go_wp2_with (at_builtin; refine wpList_append_any _ rfl (.tmp 148) (.tmp 151) 32 rfl w1.heap.size 3 j0 (.int .i64 0) 1 8 Try.underlying32 hj jz0 jz1 jz2 rfl (by decide) (.slice (some ⟨gM, oM, none⟩) (k + 1) cM) (k + 1) _ rfl ((unhide HMK).alloc _) _ _ 1 _ [.int .i64 (m8 : Int)] rfl (reads_new1 _ _ _) (by simp [Value.oneCell']) hmx (by omega) (by rw [World.size_alloc]; have := unhide HBS; omega) ?_; intro v13 w13 ho13 hg13 hn13; have HO13 := hide ho13; have HG13 := hide hg13; have HN13 := hide hn13; clear ho13 hg13 hn13)
                have hR : PlRel w1.heap.size bb w3.heap.size n m w1 v13 (.int .i64 ((k : Int) + 1)) w13 := by
                  refine ⟨k + 1, _, _, ns2, tr2, A2, c2, ml ++ [(m8 : Int)], by go_num, by omega, (unhide HPS9).marked (o := #[.int .i64 (m8 : Int)]) (by rw [unhide HML]; exact unhide HO13) (unhide HG13) (unhide HN13), unhide HNS8, by rw [unhide HM8]; exact htr9, by rw [List.length_append, unhide HML]; rfl, ?_⟩
                  exact ((unhide HBE9).alloc (unhide HBS) _).grown (unhide HG13) (by rw [World.size_alloc]; have := unhide HBS; omega) (fun g e => own_base (unhide HMK) g e)
                have hme : m - (intOf (.int .i64 ((k : Int) + 1))).toNat < m - k := by simp [intOf]; omega
                first | exact ⟨hR, hme⟩ | exact ⟨⟨_, _, _, hR, rfl, rfl, rfl⟩, hme⟩ | (go_roundw; exact hR; exact hme)
            · by_cases hin0 : o2 < 0
              · skip
                have g1 : decide (0 ≤ o2) = false := by simp; omega
                clear hin
                have CB := hide (undo_any (unhide HPS1).book 0 (by have := unhide HTV; have := unhide HKT; omega))
                go_wp2_with fail
                refine (unhide CB).mono ?_
                rintro e w5 ⟨rfl, h5, k5⟩
                have hps5 := (unhide HPS1).bookd h5 k5
                have hbe5 := (unhide HBE1).trans (k5.below hps5.lo)
                obtain ⟨x0, x1, x2⟩ := cells3 (k5.blk (unhide HOB) (unhide HKO))
                have CR := hide (rundo_any hps5.ref 0 (by rw [unhide HHN]; have := unhide HN2; have := unhide HKT; omega))
                rw [← hist_undo, undo_okB, unhide HHN] at CR
                have c5 : w5.cell? ⟨w3.heap.size, 0, none⟩ = some (.slice A hN c) := by
                  have h := hps5.box.cell 0
                  rw [unhide HHN] at h
                  exact h
                have HPS5 := hide hps5
                have HBE5 := hide hbe5
                clear CB h5 k5 hps5 hbe5
                go_wp2_with fail
                refine (unhide CR).mono ?_
                rintro e w6 ⟨rfl, hr6, hb6⟩
                have hps6 := (unhide HPS5).below hb6
                have c7 : w6.cell? ⟨w3.heap.size, 0, none⟩ = some (.slice A hN c) := by
                  have h := hps6.box.cell 0
                  rw [unhide HHN] at h
                  exact h
                have f7 := hps6.box.frozen 0
                have hps7 := (unhide HPS5).refd hb6 (hr6.mono (fun k h => .inl h))
                have hbe7 := ((unhide HBE5).trans (hb6.mono (unhide HBE5).size)).setCell (p := ⟨w3.heap.size, 0, none⟩) (unhide HW13) (.slice A (hist (undoN ns tr 0) (undoT tr 0)).length c)
                have hns7 : (undoN ns tr 0).length = n := by rw [undoN_len]; exact unhide HNS
                have htr7 : (undoT tr 0).length ≤ k + 1 := by have h := undoT_len tr 0; have h2 := unhide HTV; have h3 := unhide HKT; omega
                obtain ⟨bq, hbq⟩ : ∃ bq, okB tr 0 = bq := ⟨_, rfl⟩
                rw [hbq]
                obtain ⟨n6, hn6⟩ : ∃ n6, (hist (undoN ns tr 0) (undoT tr 0)).length = n6 := ⟨_, rfl⟩
                rw [hn6] at hps7 hbe7 ⊢
                have HP7 := hide hps7
                have HBE7 := hide hbe7
                have HNS7 := hide hns7
                have HTR7 := hide htr7
                clear CR hr6 hb6 hps6 hps7 hbe7 hns7 htr7 hn6 hbq
                go_wp2_with fail
                have hps7 := unhide HP7
                have hbe7 := unhide HBE7
                have hns7 := unhide HNS7
                have htr7 := unhide HTR7
                obtain ⟨w8, hw8⟩ : ∃ w8, w6.setCell ⟨w3.heap.size, 0, none⟩ (.slice A n6 c) = w8 := ⟨_, rfl⟩
                rw [hw8] at hps7 hbe7
                obtain ⟨K2, P2, ns2, tr2, A2, c2, hps8, hns8, htr8⟩ : ∃ (K2 P2 : Nat → Prop) (ns2 : List Int) (tr2 : List Ch) (A2 : Option Addr) (c2 : Nat), PS K2 P2 w1.heap.size bb w3.heap.size ns2 tr2 (hist ns2 tr2) A2 c2 (.slice AM (k + 1) cM) ml w8 ∧ ns2.length = n ∧ tr2.length ≤ k + 1 := ⟨_, _, _, _, _, _, hps7, hns7, htr7⟩
                obtain ⟨m8, hm8⟩ : ∃ m8, tr2.length = m8 := ⟨_, rfl⟩
                obtain ⟨n8, hn8⟩ : ∃ n8, (hist ns2 tr2).length = n8 := ⟨_, rfl⟩
                have hnm : n8 = m8 + 1 := by rw [← hn8, hist_len, hm8]
                have htr9 : m8 ≤ k + 1 := by rw [← hm8]; exact htr8
                have HNS8 := hide hns8
                have HM8 := hide hm8
                have HN8 := hide hn8
                have HNM := hide hnm
                have CM := hide (fun wx (h : PS K2 P2 w1.heap.size bb w3.heap.size ns2 tr2 (hist ns2 tr2) A2 c2 (.slice AM (k + 1) cM) ml wx) => bv_mark h.book)
                have CL := hide (fun wx (h : PS K2 P2 w1.heap.size bb w3.heap.size ns2 tr2 (hist ns2 tr2) A2 c2 (.slice AM (k + 1) cM) ml wx) => bv_len h.book)
                have CP := hide (fun wx (h : PS K2 P2 w1.heap.size bb w3.heap.size ns2 tr2 (hist ns2 tr2) A2 c2 (.slice AM (k + 1) cM) ml wx) => part_any h.book 0 (n : Int))
                have CW := hide (fun wx (h : PS K2 P2 w1.heap.size bb w3.heap.size ns2 tr2 (hist ns2 tr2) A2 c2 (.slice AM (k + 1) cM) ml wx) => now_any h.ref tr2.length ns2 (hist_len ns2 tr2) (hist_last ns2 tr2))
                rw [part_all ns2 (n : Int) (by rw [hns8])] at CP
                rw [hm8] at CM
                rw [hns8] at CL CW
                rw [hn8] at CW
                have ws : IntKind.i64.wrap ((n8 : Int) - 1) = (m8 : Int) := by rw [IntKind.wrap_i64]; omega
                have dm : ((m8 : Int) != (m8 : Int)) = false := by simp
                have dn : ((n : Int) != (n : Int)) = false := by simp
                have HPS8 := hide hps8
                have HBE8 := hide hbe7
                have hb0 : w8.drew.cell? ⟨w3.heap.size, 0, none⟩ = some (.slice A2 n8 c2) := by
                  have h := hps8.box.cell 0
                  rw [hn8] at h
                  exact h
                have HS0 := hide (show PS K2 P2 w1.heap.size bb w3.heap.size ns2 tr2 (hist ns2 tr2) A2 c2 (.slice AM (k + 1) cM) ml w8.drew ∧ Below w1.heap.size w1 w8.drew from ⟨hps8.below (Below.refl _ _).drew, hbe7.drew⟩)
                have HBC := hide (fun wx (h : PS K2 P2 w1.heap.size bb w3.heap.size ns2 tr2 (hist ns2 tr2) A2 c2 (.slice AM (k + 1) cM) ml wx) => (show wx.cell? ⟨w3.heap.size, 0, none⟩ = some (.slice A2 n8 c2) by
                  have h := h.box.cell 0
                  rw [hn8] at h
                  exact h))
                rw [hw8]
                clear hps7 hns7 htr7 hps8 hns8 htr8 hbe7 hw8 hm8 hn8 hnm
                go_wp2_with fail
                go_region_held3 (fun wx => Hid (PS K2 P2 w1.heap.size bb w3.heap.size ns2 tr2 (hist ns2 tr2) A2 c2 (.slice AM (k + 1) cM) ml wx ∧ Below w1.heap.size w1 wx) ∧ wx.cell? ⟨w3.heap.size, 0, none⟩ = some (.slice A2 n8 c2))
                  (first | exact ⟨HP9, (unhide HBC) _ (unhide HP9).1⟩ | exact ⟨HS0, hb0⟩)
                  (first | (go_at_call 13; have hS := (show Hid (PS K2 P2 w1.heap.size bb w3.heap.size ns2 tr2 (hist ns2 tr2) A2 c2 (.slice AM (k + 1) cM) ml _ ∧ Below w1.heap.size w1 _) ∧ _ by assumption).1; refine ((unhide CM) _ (unhide hS).1).mono ?_; rintro e w9 ⟨rfl, rfl⟩; have HP9 := hS; clear hS) | (go_at_call 14; have hS := (show Hid (PS K2 P2 w1.heap.size bb w3.heap.size ns2 tr2 (hist ns2 tr2) A2 c2 (.slice AM (k + 1) cM) ml _ ∧ Below w1.heap.size w1 _) ∧ _ by assumption).1; refine ((unhide CL) _ (unhide hS).1).mono ?_; rintro e w9 ⟨rfl, rfl⟩; have HP9 := hS; clear hS) | (go_at_call 16; have hS := (show Hid (PS K2 P2 w1.heap.size bb w3.heap.size ns2 tr2 (hist ns2 tr2) A2 c2 (.slice AM (k + 1) cM) ml _ ∧ Below w1.heap.size w1 _) ∧ _ by assumption).1; refine ((unhide CP) _ (unhide hS).1).mono ?_; rintro e w9 ⟨⟨A9, rfl, hA9⟩, hb9⟩; rw [unhide HNS8]; have HNV9 := hide (show NV ns2 A9 w9 from fun h => ⟨_, hA9 h⟩); have HP9 := hide (show PS K2 P2 w1.heap.size bb w3.heap.size ns2 tr2 (hist ns2 tr2) A2 c2 (.slice AM (k + 1) cM) ml w9 ∧ Below w1.heap.size w1 w9 from ⟨(unhide hS).1.below hb9, (unhide hS).2.trans (hb9.mono (unhide hS).2.size)⟩); clear hS hA9 hb9) | (go_at_call 17; have hS := (show Hid (PS K2 P2 w1.heap.size bb w3.heap.size ns2 tr2 (hist ns2 tr2) A2 c2 (.slice AM (k + 1) cM) ml _ ∧ Below w1.heap.size w1 _) ∧ _ by assumption).1; refine ((unhide CW) _ (unhide hS).1).mono ?_; rintro e w10 ⟨⟨A10, c10, rfl, h10⟩, hb10⟩; have HNV10 := hide ((unhide HNV9).below hb10); have HCV10 := hide h10.cv; have HP9 := hide (show PS K2 P2 w1.heap.size bb w3.heap.size ns2 tr2 (hist ns2 tr2) A2 c2 (.slice AM (k + 1) cM) ml w10 ∧ Below w1.heap.size w1 w10 from ⟨(unhide hS).1.below hb10, (unhide hS).2.trans (hb10.mono (unhide hS).2.size)⟩); clear hS h10 hb10) | (go_at_call 15; have hS := (show Hid (PS K2 P2 w1.heap.size bb w3.heap.size ns2 tr2 (hist ns2 tr2) A2 c2 (.slice AM (k + 1) cM) ml _ ∧ Below w1.heap.size w1 _) ∧ _ by assumption).1; have CS := like_any ns2 ns2 A9 A10 ns2.length c10 _ ((unhide HNV10).cv (by rw [unhide HNS8]; have := unhide HN; omega)) (unhide HCV10); rw [unhide HNS8, show decide (ns2 = ns2) = true by simp] at CS; refine CS.mono ?_; rintro e w11 ⟨rfl, hb11⟩; have HP9 := hide (show PS K2 P2 w1.heap.size bb w3.heap.size ns2 tr2 (hist ns2 tr2) A2 c2 (.slice AM (k + 1) cM) ml w11 ∧ Below w1.heap.size w1 w11 from ⟨(unhide hS).1.below hb11, (unhide hS).2.trans (hb11.mono (unhide hS).2.size)⟩); clear hS hb11 CS))
                all_goals
                  have hS := (show Hid (PS K2 P2 w1.heap.size bb w3.heap.size ns2 tr2 (hist ns2 tr2) A2 c2 (.slice AM (k + 1) cM) ml _ ∧ Below w1.heap.size w1 _) ∧ _ by assumption).1
                  have hps9 := (unhide hS).1
                  have CM9 := hide (bv_mark hps9.book)
                  rw [unhide HM8] at CM9
                  have HPS9 := hide hps9
                  have HBE9 := hide (unhide hS).2
                  have hmk := hps9.marks
                  rw [unhide HML] at hmk
                  have HMK := hide hmk
                  have hmx : k + 1 + 1 ≤ maxLen := by unfold maxLen; omega
                  have HBS := hide ((unhide HBE9).size)
                  clear hS hps9 hmk CM CL CP CW HBC HS0 hb0
                  go_wp2_with fail
                  refine (unhide CM9).mono ?_
                  rintro e w12 ⟨rfl, rfl⟩
                  clear CM9
                  go_wp2_with (at_builtin; refine wpList_append_any _ rfl (.tmp 148) (.tmp 151) 32 rfl w1.heap.size 3 j0 (.int .i64 0) 1 8 Try.underlying32 hj jz0 jz1 jz2 rfl (by decide) (.slice AM (k + 1) cM) (k + 1) _ rfl ((unhide HMK).alloc _) _ _ 1 _ [.int .i64 (m8 : Int)] rfl (reads_new1 _ _ _) (by simp [Value.oneCell']) hmx (by omega) (by rw [World.size_alloc]; have := unhide HBS; omega) ?_; intro v13 w13 ho13 hg13 hn13; have HO13 := hide ho13; have HG13 := hide hg13; have HN13 := hide hn13; clear ho13 hg13 hn13)
                  have hR : PlRel w1.heap.size bb w3.heap.size n m w1 v13 (.int .i64 ((k : Int) + 1)) w13 := by
                    refine ⟨k + 1, _, _, ns2, tr2, A2, c2, ml ++ [(m8 : Int)], by go_num, by omega, (unhide HPS9).marked (o := #[.int .i64 (m8 : Int)]) (by rw [unhide HML]; exact unhide HO13) (unhide HG13) (unhide HN13), unhide HNS8, by rw [unhide HM8]; exact htr9, by rw [List.length_append, unhide HML]; rfl, ?_⟩
                    exact ((unhide HBE9).alloc (unhide HBS) _).grown (unhide HG13) (by rw [World.size_alloc]; have := unhide HBS; omega) (fun g e => own_base (unhide HMK) g e)
                  have hme : m - (intOf (.int .i64 ((k : Int) + 1))).toNat < m - k := by simp [intOf]; omega
                  first | exact ⟨hR, hme⟩ | exact ⟨⟨_, _, _, hR, rfl, rfl, rfl⟩, hme⟩ | (go_roundw; exact hR; exact hme)
              · skip
                have g1 : decide (0 ≤ o2) = true := by simp; omega
                have g2 : decide (o2 < (k : Int) + 1) = false := by simp; omega
                have g3 : decide (o2 < ((k + 1 : Nat) : Int)) = false := by simp; omega
                clear hin
                have CB := hide (undo_any (unhide HPS1).book 0 (by have := unhide HTV; have := unhide HKT; omega))
                go_wp2_with fail
                refine (unhide CB).mono ?_
                rintro e w5 ⟨rfl, h5, k5⟩
                have hps5 := (unhide HPS1).bookd h5 k5
                have hbe5 := (unhide HBE1).trans (k5.below hps5.lo)
                obtain ⟨x0, x1, x2⟩ := cells3 (k5.blk (unhide HOB) (unhide HKO))
                have CR := hide (rundo_any hps5.ref 0 (by rw [unhide HHN]; have := unhide HN2; have := unhide HKT; omega))
                rw [← hist_undo, undo_okB, unhide HHN] at CR
                have c5 : w5.cell? ⟨w3.heap.size, 0, none⟩ = some (.slice A hN c) := by
                  have h := hps5.box.cell 0
                  rw [unhide HHN] at h
                  exact h
                have HPS5 := hide hps5
                have HBE5 := hide hbe5
                clear CB h5 k5 hps5 hbe5
                go_wp2_with fail
                refine (unhide CR).mono ?_
                rintro e w6 ⟨rfl, hr6, hb6⟩
                have hps6 := (unhide HPS5).below hb6
                have c7 : w6.cell? ⟨w3.heap.size, 0, none⟩ = some (.slice A hN c) := by
                  have h := hps6.box.cell 0
                  rw [unhide HHN] at h
                  exact h
                have f7 := hps6.box.frozen 0
                have hps7 := (unhide HPS5).refd hb6 (hr6.mono (fun k h => .inl h))
                have hbe7 := ((unhide HBE5).trans (hb6.mono (unhide HBE5).size)).setCell (p := ⟨w3.heap.size, 0, none⟩) (unhide HW13) (.slice A (hist (undoN ns tr 0) (undoT tr 0)).length c)
                have hns7 : (undoN ns tr 0).length = n := by rw [undoN_len]; exact unhide HNS
                have htr7 : (undoT tr 0).length ≤ k + 1 := by have h := undoT_len tr 0; have h2 := unhide HTV; have h3 := unhide HKT; omega
                obtain ⟨bq, hbq⟩ : ∃ bq, okB tr 0 = bq := ⟨_, rfl⟩
                rw [hbq]
                obtain ⟨n6, hn6⟩ : ∃ n6, (hist (undoN ns tr 0) (undoT tr 0)).length = n6 := ⟨_, rfl⟩
                rw [hn6] at hps7 hbe7 ⊢
                have HP7 := hide hps7
                have HBE7 := hide hbe7
                have HNS7 := hide hns7
                have HTR7 := hide htr7
                clear CR hr6 hb6 hps6 hps7 hbe7 hns7 htr7 hn6 hbq
                go_wp2_with fail
                have hps7 := unhide HP7
                have hbe7 := unhide HBE7
                have hns7 := unhide HNS7
                have htr7 := unhide HTR7
                obtain ⟨w8, hw8⟩ : ∃ w8, w6.setCell ⟨w3.heap.size, 0, none⟩ (.slice A n6 c) = w8 := ⟨_, rfl⟩
                rw [hw8] at hps7 hbe7
                obtain ⟨K2, P2, ns2, tr2, A2, c2, hps8, hns8, htr8⟩ : ∃ (K2 P2 : Nat → Prop) (ns2 : List Int) (tr2 : List Ch) (A2 : Option Addr) (c2 : Nat), PS K2 P2 w1.heap.size bb w3.heap.size ns2 tr2 (hist ns2 tr2) A2 c2 (.slice AM (k + 1) cM) ml w8 ∧ ns2.length = n ∧ tr2.length ≤ k + 1 := ⟨_, _, _, _, _, _, hps7, hns7, htr7⟩
                obtain ⟨m8, hm8⟩ : ∃ m8, tr2.length = m8 := ⟨_, rfl⟩
                obtain ⟨n8, hn8⟩ : ∃ n8, (hist ns2 tr2).length = n8 := ⟨_, rfl⟩
                have hnm : n8 = m8 + 1 := by rw [← hn8, hist_len, hm8]
                have htr9 : m8 ≤ k + 1 := by rw [← hm8]; exact htr8
                have HNS8 := hide hns8
                have HM8 := hide hm8
                have HN8 := hide hn8
                have HNM := hide hnm
                have CM := hide (fun wx (h : PS K2 P2 w1.heap.size bb w3.heap.size ns2 tr2 (hist ns2 tr2) A2 c2 (.slice AM (k + 1) cM) ml wx) => bv_mark h.book)
                have CL := hide (fun wx (h : PS K2 P2 w1.heap.size bb w3.heap.size ns2 tr2 (hist ns2 tr2) A2 c2 (.slice AM (k + 1) cM) ml wx) => bv_len h.book)
                have CP := hide (fun wx (h : PS K2 P2 w1.heap.size bb w3.heap.size ns2 tr2 (hist ns2 tr2) A2 c2 (.slice AM (k + 1) cM) ml wx) => part_any h.book 0 (n : Int))
                have CW := hide (fun wx (h : PS K2 P2 w1.heap.size bb w3.heap.size ns2 tr2 (hist ns2 tr2) A2 c2 (.slice AM (k + 1) cM) ml wx) => now_any h.ref tr2.length ns2 (hist_len ns2 tr2) (hist_last ns2 tr2))
                rw [part_all ns2 (n : Int) (by rw [hns8])] at CP
                rw [hm8] at CM
                rw [hns8] at CL CW
                rw [hn8] at CW
                have ws : IntKind.i64.wrap ((n8 : Int) - 1) = (m8 : Int) := by rw [IntKind.wrap_i64]; omega
                have dm : ((m8 : Int) != (m8 : Int)) = false := by simp
                have dn : ((n : Int) != (n : Int)) = false := by simp
                have HPS8 := hide hps8
                have HBE8 := hide hbe7
                have hb0 : w8.drew.cell? ⟨w3.heap.size, 0, none⟩ = some (.slice A2 n8 c2) := by
                  have h := hps8.box.cell 0
                  rw [hn8] at h
                  exact h
                have HS0 := hide (show PS K2 P2 w1.heap.size bb w3.heap.size ns2 tr2 (hist ns2 tr2) A2 c2 (.slice AM (k + 1) cM) ml w8.drew ∧ Below w1.heap.size w1 w8.drew from ⟨hps8.below (Below.refl _ _).drew, hbe7.drew⟩)
                have HBC := hide (fun wx (h : PS K2 P2 w1.heap.size bb w3.heap.size ns2 tr2 (hist ns2 tr2) A2 c2 (.slice AM (k + 1) cM) ml wx) => (show wx.cell? ⟨w3.heap.size, 0, none⟩ = some (.slice A2 n8 c2) by
                  have h := h.box.cell 0
                  rw [hn8] at h
                  exact h))
                rw [hw8]
                clear hps7 hns7 htr7 hps8 hns8 htr8 hbe7 hw8 hm8 hn8 hnm
                go_wp2_with fail
                go_region_held3 (fun wx => Hid (PS K2 P2 w1.heap.size bb w3.heap.size ns2 tr2 (hist ns2 tr2) A2 c2 (.slice AM (k + 1) cM) ml wx ∧ Below w1.heap.size w1 wx) ∧ wx.cell? ⟨w3.heap.size, 0, none⟩ = some (.slice A2 n8 c2))
                  (first | exact ⟨HP9, (unhide HBC) _ (unhide HP9).1⟩ | exact ⟨HS0, hb0⟩)
                  (first | (go_at_call 13; have hS := (show Hid (PS K2 P2 w1.heap.size bb w3.heap.size ns2 tr2 (hist ns2 tr2) A2 c2 (.slice AM (k + 1) cM) ml _ ∧ Below w1.heap.size w1 _) ∧ _ by assumption).1; refine ((unhide CM) _ (unhide hS).1).mono ?_; rintro e w9 ⟨rfl, rfl⟩; have HP9 := hS; clear hS) | (go_at_call 14; have hS := (show Hid (PS K2 P2 w1.heap.size bb w3.heap.size ns2 tr2 (hist ns2 tr2) A2 c2 (.slice AM (k + 1) cM) ml _ ∧ Below w1.heap.size w1 _) ∧ _ by assumption).1; refine ((unhide CL) _ (unhide hS).1).mono ?_; rintro e w9 ⟨rfl, rfl⟩; have HP9 := hS; clear hS) | (go_at_call 16; have hS := (show Hid (PS K2 P2 w1.heap.size bb w3.heap.size ns2 tr2 (hist ns2 tr2) A2 c2 (.slice AM (k + 1) cM) ml _ ∧ Below w1.heap.size w1 _) ∧ _ by assumption).1; refine ((unhide CP) _ (unhide hS).1).mono ?_; rintro e w9 ⟨⟨A9, rfl, hA9⟩, hb9⟩; rw [unhide HNS8]; have HNV9 := hide (show NV ns2 A9 w9 from fun h => ⟨_, hA9 h⟩); have HP9 := hide (show PS K2 P2 w1.heap.size bb w3.heap.size ns2 tr2 (hist ns2 tr2) A2 c2 (.slice AM (k + 1) cM) ml w9 ∧ Below w1.heap.size w1 w9 from ⟨(unhide hS).1.below hb9, (unhide hS).2.trans (hb9.mono (unhide hS).2.size)⟩); clear hS hA9 hb9) | (go_at_call 17; have hS := (show Hid (PS K2 P2 w1.heap.size bb w3.heap.size ns2 tr2 (hist ns2 tr2) A2 c2 (.slice AM (k + 1) cM) ml _ ∧ Below w1.heap.size w1 _) ∧ _ by assumption).1; refine ((unhide CW) _ (unhide hS).1).mono ?_; rintro e w10 ⟨⟨A10, c10, rfl, h10⟩, hb10⟩; have HNV10 := hide ((unhide HNV9).below hb10); have HCV10 := hide h10.cv; have HP9 := hide (show PS K2 P2 w1.heap.size bb w3.heap.size ns2 tr2 (hist ns2 tr2) A2 c2 (.slice AM (k + 1) cM) ml w10 ∧ Below w1.heap.size w1 w10 from ⟨(unhide hS).1.below hb10, (unhide hS).2.trans (hb10.mono (unhide hS).2.size)⟩); clear hS h10 hb10) | (go_at_call 15; have hS := (show Hid (PS K2 P2 w1.heap.size bb w3.heap.size ns2 tr2 (hist ns2 tr2) A2 c2 (.slice AM (k + 1) cM) ml _ ∧ Below w1.heap.size w1 _) ∧ _ by assumption).1; have CS := like_any ns2 ns2 A9 A10 ns2.length c10 _ ((unhide HNV10).cv (by rw [unhide HNS8]; have := unhide HN; omega)) (unhide HCV10); rw [unhide HNS8, show decide (ns2 = ns2) = true by simp] at CS; refine CS.mono ?_; rintro e w11 ⟨rfl, hb11⟩; have HP9 := hide (show PS K2 P2 w1.heap.size bb w3.heap.size ns2 tr2 (hist ns2 tr2) A2 c2 (.slice AM (k + 1) cM) ml w11 ∧ Below w1.heap.size w1 w11 from ⟨(unhide hS).1.below hb11, (unhide hS).2.trans (hb11.mono (unhide hS).2.size)⟩); clear hS hb11 CS))
                all_goals
                  have hS := (show Hid (PS K2 P2 w1.heap.size bb w3.heap.size ns2 tr2 (hist ns2 tr2) A2 c2 (.slice AM (k + 1) cM) ml _ ∧ Below w1.heap.size w1 _) ∧ _ by assumption).1
                  have hps9 := (unhide hS).1
                  have CM9 := hide (bv_mark hps9.book)
                  rw [unhide HM8] at CM9
                  have HPS9 := hide hps9
                  have HBE9 := hide (unhide hS).2
                  have hmk := hps9.marks
                  rw [unhide HML] at hmk
                  have HMK := hide hmk
                  have hmx : k + 1 + 1 ≤ maxLen := by unfold maxLen; omega
                  have HBS := hide ((unhide HBE9).size)
                  clear hS hps9 hmk CM CL CP CW HBC HS0 hb0
                  go_wp2_with fail
                  refine (unhide CM9).mono ?_
                  rintro e w12 ⟨rfl, rfl⟩
                  clear CM9
                  go_wp2_with (at_builtin; refine wpList_append_any _ rfl (.tmp 148) (.tmp 151) 32 rfl w1.heap.size 3 j0 (.int .i64 0) 1 8 Try.underlying32 hj jz0 jz1 jz2 rfl (by decide) (.slice AM (k + 1) cM) (k + 1) _ rfl ((unhide HMK).alloc _) _ _ 1 _ [.int .i64 (m8 : Int)] rfl (reads_new1 _ _ _) (by simp [Value.oneCell']) hmx (by omega) (by rw [World.size_alloc]; have := unhide HBS; omega) ?_; intro v13 w13 ho13 hg13 hn13; have HO13 := hide ho13; have HG13 := hide hg13; have HN13 := hide hn13; clear ho13 hg13 hn13)
                  have hR : PlRel w1.heap.size bb w3.heap.size n m w1 v13 (.int .i64 ((k : Int) + 1)) w13 := by
                    refine ⟨k + 1, _, _, ns2, tr2, A2, c2, ml ++ [(m8 : Int)], by go_num, by omega, (unhide HPS9).marked (o := #[.int .i64 (m8 : Int)]) (by rw [unhide HML]; exact unhide HO13) (unhide HG13) (unhide HN13), unhide HNS8, by rw [unhide HM8]; exact htr9, by rw [List.length_append, unhide HML]; rfl, ?_⟩
                    exact ((unhide HBE9).alloc (unhide HBS) _).grown (unhide HG13) (by rw [World.size_alloc]; have := unhide HBS; omega) (fun g e => own_base (unhide HMK) g e)
                  have hme : m - (intOf (.int .i64 ((k : Int) + 1))).toNat < m - k := by simp [intOf]; omega
                  first | exact ⟨hR, hme⟩ | exact ⟨⟨_, _, _, hR, rfl, rfl, rfl⟩, hme⟩ | (go_roundw; exact hR; exact hme)
          · skip
            have g1 : (o0 == 1) = false := by simpa using hk1
            have g2 : (o0 == 2) = false := by simpa using hk2
            have g3 : (o0 == 3) = false := by simpa using hk3
            clear hk1 hk2 hk3
            go_wp2_with fail
            have hps7 := unhide HPS1
            have hbe7 := unhide HBE1
            have hns7 := unhide HNS
            have htr7 : tr.length ≤ k + 1 := by have h2 := unhide HTV; have h3 := unhide HKT; omega
            obtain ⟨w8, hw8⟩ : ∃ w8, wr.alloc (.cells #[.int .i64 o0, .int .i64 o1, .int .i64 o2] 34) = w8 := ⟨_, rfl⟩
            rw [hw8] at hps7 hbe7
            obtain ⟨K2, P2, ns2, tr2, A2, c2, hps8, hns8, htr8⟩ : ∃ (K2 P2 : Nat → Prop) (ns2 : List Int) (tr2 : List Ch) (A2 : Option Addr) (c2 : Nat), PS K2 P2 w1.heap.size bb w3.heap.size ns2 tr2 (hist ns2 tr2) A2 c2 (.slice AM (k + 1) cM) ml w8 ∧ ns2.length = n ∧ tr2.length ≤ k + 1 := ⟨_, _, _, _, _, _, hps7, hns7, htr7⟩
            obtain ⟨m8, hm8⟩ : ∃ m8, tr2.length = m8 := ⟨_, rfl⟩
            obtain ⟨n8, hn8⟩ : ∃ n8, (hist ns2 tr2).length = n8 := ⟨_, rfl⟩
            have hnm : n8 = m8 + 1 := by rw [← hn8, hist_len, hm8]
            have htr9 : m8 ≤ k + 1 := by rw [← hm8]; exact htr8
            have HNS8 := hide hns8
            have HM8 := hide hm8
            have HN8 := hide hn8
            have HNM := hide hnm
            have CM := hide (fun wx (h : PS K2 P2 w1.heap.size bb w3.heap.size ns2 tr2 (hist ns2 tr2) A2 c2 (.slice AM (k + 1) cM) ml wx) => bv_mark h.book)
            have CL := hide (fun wx (h : PS K2 P2 w1.heap.size bb w3.heap.size ns2 tr2 (hist ns2 tr2) A2 c2 (.slice AM (k + 1) cM) ml wx) => bv_len h.book)
            have CP := hide (fun wx (h : PS K2 P2 w1.heap.size bb w3.heap.size ns2 tr2 (hist ns2 tr2) A2 c2 (.slice AM (k + 1) cM) ml wx) => part_any h.book 0 (n : Int))
            have CW := hide (fun wx (h : PS K2 P2 w1.heap.size bb w3.heap.size ns2 tr2 (hist ns2 tr2) A2 c2 (.slice AM (k + 1) cM) ml wx) => now_any h.ref tr2.length ns2 (hist_len ns2 tr2) (hist_last ns2 tr2))
            rw [part_all ns2 (n : Int) (by rw [hns8])] at CP
            rw [hm8] at CM
            rw [hns8] at CL CW
            rw [hn8] at CW
            have ws : IntKind.i64.wrap ((n8 : Int) - 1) = (m8 : Int) := by rw [IntKind.wrap_i64]; omega
            have dm : ((m8 : Int) != (m8 : Int)) = false := by simp
            have dn : ((n : Int) != (n : Int)) = false := by simp
            have HPS8 := hide hps8
            have HBE8 := hide hbe7
            have hb0 : w8.drew.cell? ⟨w3.heap.size, 0, none⟩ = some (.slice A2 n8 c2) := by
              have h := hps8.box.cell 0
              rw [hn8] at h
              exact h
            have HS0 := hide (show PS K2 P2 w1.heap.size bb w3.heap.size ns2 tr2 (hist ns2 tr2) A2 c2 (.slice AM (k + 1) cM) ml w8.drew ∧ Below w1.heap.size w1 w8.drew from ⟨hps8.below (Below.refl _ _).drew, hbe7.drew⟩)
            have HBC := hide (fun wx (h : PS K2 P2 w1.heap.size bb w3.heap.size ns2 tr2 (hist ns2 tr2) A2 c2 (.slice AM (k + 1) cM) ml wx) => (show wx.cell? ⟨w3.heap.size, 0, none⟩ = some (.slice A2 n8 c2) by
              have h := h.box.cell 0
              rw [hn8] at h
              exact h))
            rw [hw8]
            clear hps7 hns7 htr7 hps8 hns8 htr8 hbe7 hw8 hm8 hn8 hnm
            go_wp2_with fail
            go_region_held3 (fun wx => Hid (PS K2 P2 w1.heap.size bb w3.heap.size ns2 tr2 (hist ns2 tr2) A2 c2 (.slice AM (k + 1) cM) ml wx ∧ Below w1.heap.size w1 wx) ∧ wx.cell? ⟨w3.heap.size, 0, none⟩ = some (.slice A2 n8 c2))
              (first | exact ⟨HP9, (unhide HBC) _ (unhide HP9).1⟩ | exact ⟨HS0, hb0⟩)
              (first | (go_at_call 13; have hS := (show Hid (PS K2 P2 w1.heap.size bb w3.heap.size ns2 tr2 (hist ns2 tr2) A2 c2 (.slice AM (k + 1) cM) ml _ ∧ Below w1.heap.size w1 _) ∧ _ by assumption).1; refine ((unhide CM) _ (unhide hS).1).mono ?_; rintro e w9 ⟨rfl, rfl⟩; have HP9 := hS; clear hS) | (go_at_call 14; have hS := (show Hid (PS K2 P2 w1.heap.size bb w3.heap.size ns2 tr2 (hist ns2 tr2) A2 c2 (.slice AM (k + 1) cM) ml _ ∧ Below w1.heap.size w1 _) ∧ _ by assumption).1; refine ((unhide CL) _ (unhide hS).1).mono ?_; rintro e w9 ⟨rfl, rfl⟩; have HP9 := hS; clear hS) | (go_at_call 16; have hS := (show Hid (PS K2 P2 w1.heap.size bb w3.heap.size ns2 tr2 (hist ns2 tr2) A2 c2 (.slice AM (k + 1) cM) ml _ ∧ Below w1.heap.size w1 _) ∧ _ by assumption).1; refine ((unhide CP) _ (unhide hS).1).mono ?_; rintro e w9 ⟨⟨A9, rfl, hA9⟩, hb9⟩; rw [unhide HNS8]; have HNV9 := hide (show NV ns2 A9 w9 from fun h => ⟨_, hA9 h⟩); have HP9 := hide (show PS K2 P2 w1.heap.size bb w3.heap.size ns2 tr2 (hist ns2 tr2) A2 c2 (.slice AM (k + 1) cM) ml w9 ∧ Below w1.heap.size w1 w9 from ⟨(unhide hS).1.below hb9, (unhide hS).2.trans (hb9.mono (unhide hS).2.size)⟩); clear hS hA9 hb9) | (go_at_call 17; have hS := (show Hid (PS K2 P2 w1.heap.size bb w3.heap.size ns2 tr2 (hist ns2 tr2) A2 c2 (.slice AM (k + 1) cM) ml _ ∧ Below w1.heap.size w1 _) ∧ _ by assumption).1; refine ((unhide CW) _ (unhide hS).1).mono ?_; rintro e w10 ⟨⟨A10, c10, rfl, h10⟩, hb10⟩; have HNV10 := hide ((unhide HNV9).below hb10); have HCV10 := hide h10.cv; have HP9 := hide (show PS K2 P2 w1.heap.size bb w3.heap.size ns2 tr2 (hist ns2 tr2) A2 c2 (.slice AM (k + 1) cM) ml w10 ∧ Below w1.heap.size w1 w10 from ⟨(unhide hS).1.below hb10, (unhide hS).2.trans (hb10.mono (unhide hS).2.size)⟩); clear hS h10 hb10) | (go_at_call 15; have hS := (show Hid (PS K2 P2 w1.heap.size bb w3.heap.size ns2 tr2 (hist ns2 tr2) A2 c2 (.slice AM (k + 1) cM) ml _ ∧ Below w1.heap.size w1 _) ∧ _ by assumption).1; have CS := like_any ns2 ns2 A9 A10 ns2.length c10 _ ((unhide HNV10).cv (by rw [unhide HNS8]; have := unhide HN; omega)) (unhide HCV10); rw [unhide HNS8, show decide (ns2 = ns2) = true by simp] at CS; refine CS.mono ?_; rintro e w11 ⟨rfl, hb11⟩; have HP9 := hide (show PS K2 P2 w1.heap.size bb w3.heap.size ns2 tr2 (hist ns2 tr2) A2 c2 (.slice AM (k + 1) cM) ml w11 ∧ Below w1.heap.size w1 w11 from ⟨(unhide hS).1.below hb11, (unhide hS).2.trans (hb11.mono (unhide hS).2.size)⟩); clear hS hb11 CS))
            all_goals
              have hS := (show Hid (PS K2 P2 w1.heap.size bb w3.heap.size ns2 tr2 (hist ns2 tr2) A2 c2 (.slice AM (k + 1) cM) ml _ ∧ Below w1.heap.size w1 _) ∧ _ by assumption).1
              have hps9 := (unhide hS).1
              have CM9 := hide (bv_mark hps9.book)
              rw [unhide HM8] at CM9
              have HPS9 := hide hps9
              have HBE9 := hide (unhide hS).2
              have hmk := hps9.marks
              rw [unhide HML] at hmk
              have HMK := hide hmk
              have hmx : k + 1 + 1 ≤ maxLen := by unfold maxLen; omega
              have HBS := hide ((unhide HBE9).size)
              clear hS hps9 hmk CM CL CP CW HBC HS0 hb0
              go_wp2_with fail
              refine (unhide CM9).mono ?_
              rintro e w12 ⟨rfl, rfl⟩
              clear CM9
              go_wp2_with (at_builtin; refine wpList_append_any _ rfl (.tmp 148) (.tmp 151) 32 rfl w1.heap.size 3 j0 (.int .i64 0) 1 8 Try.underlying32 hj jz0 jz1 jz2 rfl (by decide) (.slice AM (k + 1) cM) (k + 1) _ rfl ((unhide HMK).alloc _) _ _ 1 _ [.int .i64 (m8 : Int)] rfl (reads_new1 _ _ _) (by simp [Value.oneCell']) hmx (by omega) (by rw [World.size_alloc]; have := unhide HBS; omega) ?_; intro v13 w13 ho13 hg13 hn13; have HO13 := hide ho13; have HG13 := hide hg13; have HN13 := hide hn13; clear ho13 hg13 hn13)
              have hR : PlRel w1.heap.size bb w3.heap.size n m w1 v13 (.int .i64 ((k : Int) + 1)) w13 := by
                refine ⟨k + 1, _, _, ns2, tr2, A2, c2, ml ++ [(m8 : Int)], by go_num, by omega, (unhide HPS9).marked (o := #[.int .i64 (m8 : Int)]) (by rw [unhide HML]; exact unhide HO13) (unhide HG13) (unhide HN13), unhide HNS8, by rw [unhide HM8]; exact htr9, by rw [List.length_append, unhide HML]; rfl, ?_⟩
                exact ((unhide HBE9).alloc (unhide HBS) _).grown (unhide HG13) (by rw [World.size_alloc]; have := unhide HBS; omega) (fun g e => own_base (unhide HMK) g e)
              have hme : m - (intOf (.int .i64 ((k : Int) + 1))).toNat < m - k := by simp [intOf]; omega
              first | exact ⟨hR, hme⟩ | exact ⟨⟨_, _, _, hR, rfl, rfl, rfl⟩, hme⟩ | (go_roundw; exact hR; exact hme)
    · obtain rfl : k = m := by omega
      have HBL := hide hbel
      clear hps hns htr hml hbel
      go_wp2
      go_ret
      exact ⟨rfl, (unhide HB1).trans ((unhide HBL).mono (unhide HB1).size)⟩
end
theorem walkPlays (n x : Int) (l : List Opn) (A0 : Option Addr) (c0 : Nat) (w : World) (ho : OV l A0 c0 w.heap.size w) :
    Calls Try.prog 3 #[.int .i64 n, .int .i64 x, .slice A0 l.length c0] w fun e w' => e = .returned (.bool true) ∧ Below w.heap.size w w' := by
  by_cases h : n < 0 ∨ 65536 < n
  · exact plays_out n x l A0 c0 w h
  · obtain ⟨k, rfl⟩ : ∃ k : Nat, n = (k : Int) := ⟨n.toNat, by omega⟩
    by_cases h2 : 40 < k ∨ 60 < l.length
    · exact plays_big k x l A0 c0 w (by omega) h2
    · exact plays_small k x l A0 c0 w (by omega) (by omega) ho
end Go.Proofs.Ytjnljhigaapalaa.Un
