/-
  rset.And, walked.
-/
import Derived.Test.YtdajdolhjaoeiaaGreatDoorMRsB
import Derived.Deep.RegionWith
import Derived.Deep.CutRange
set_option linter.unusedVariables false
set_option linter.unusedSimpArgs false
namespace Go.Proofs.YtdajdolhjaoeiaaGreatDoor.Rs
open Go.RowKit Go.Proofs.YtdajdolhjaoeiaaGreatDoor.Mem
attribute [local go_sem] run_not_true run_not_false

theorem andF_len : ∀ (n : Nat) (A B : List R), A.length + B.length ≤ n → (andF A B).length ≤ A.length + B.length := by
  intro n
  induction n with
  | zero =>
    intro A B h
    have : A = [] := List.eq_nil_of_length_eq_zero (by omega)
    subst this
    rw [andF_nil]; simp
  | succ n ih =>
    intro A B h
    cases A with
    | nil => rw [andF_nil]; simp
    | cons a s =>
      cases B with
      | nil => rw [andF_nil']; simp
      | cons b t =>
        rw [andF_cons, List.length_append]
        simp only [List.length_cons] at h ⊢
        have h1 : (ov1 a b).length ≤ 1 := by unfold ov1; split <;> simp
        split
        · have := ih s (b :: t) (by simp only [List.length_cons]; omega); simp only [List.length_cons] at this; omega
        · have := ih (a :: s) t (by simp only [List.length_cons]; omega); simp only [List.length_cons] at this; omega

def lenV : Value → Nat
  | .slice _ n _ => n
  | _ => 0
def ARel (ma mb : List R) (W : World) (va vb v : Value) (wr : World) : Prop :=
  ∃ (la lb g : List R) (A B : Option Addr) (ca cb : Nat), va = .slice A la.length ca ∧ vb = .slice B lb.length cb ∧ la.length ≤ ca ∧ lb.length ≤ cb ∧ ca ≤ maxLen ∧ cb ≤ maxLen ∧ Lst W W.heap.size A la ∧ Lst W W.heap.size B lb ∧
    andF ma mb = g ++ andF la lb ∧ g.length + la.length + lb.length ≤ ma.length + mb.length ∧ Cut W g v wr
/-- one step of what is in both -/
theorem andF_step {x y : R} {F g : List R} (s t : List R) (q : R) (hq : ovR x y = q) (h : F = g ++ andF (x :: s) (y :: t)) :
    (¬ q.1 ≤ q.2 → (x.2 < y.2 → F = g ++ andF s (y :: t)) ∧ (¬ x.2 < y.2 → F = g ++ andF (x :: s) t)) ∧
    (q.1 ≤ q.2 → (x.2 < y.2 → F = (g ++ [q]) ++ andF s (y :: t)) ∧ (¬ x.2 < y.2 → F = (g ++ [q]) ++ andF (x :: s) t)) := by
  subst hq
  rw [andF_cons] at h
  unfold ov1 at h
  refine ⟨fun h1 => ⟨fun h2 => ?_, fun h2 => ?_⟩, fun h1 => ⟨fun h2 => ?_, fun h2 => ?_⟩⟩ <;> rw [h] <;> simp [h1, h2]

def AMid (wr : World) (q : R) (v : Value) (wx : World) : Prop := ∃ g6, v = .pointer (some ⟨g6, 0, none⟩) ∧ wr.heap.size ≤ g6 ∧ Blk wx g6 90 #[.int .i64 q.1, .int .i64 q.2] ∧ Below wr.heap.size wr wx

theorem cut_drewN {W w : World} {g : List R} {v : Value} (h : Cut W g v w) (n : Nat) : Cut W g v (w.drewN n) := ⟨h.1, below_drewN h.2 n⟩
theorem Lst.tail' {W : World} {b o cl ns : Nat} {x : R} {s : List R} (hsl : (x :: s).length = ns) (hk : ns ≤ cl) (hb : b < W.heap.size)
    (hx : ∀ k r, (x :: s)[k]? = some r → W.cell? ⟨b, o + k * 2, none⟩ = some (.int .i64 r.1) ∧ W.cell? ⟨b, o + k * 2 + 1, none⟩ = some (.int .i64 r.2)) :
    Lst W W.heap.size (if cl = 1 then some ⟨b, o, none⟩ else some ⟨b, o + 2, none⟩) s := by
  by_cases h1 : cl = 1
  · have : s = [] := List.eq_nil_of_length_eq_zero (by simp only [List.length_cons] at hsl; omega)
    subst this
    exact Lst.nil
  · rw [if_neg h1]; exact Lst.tail hx hb
theorem arel_a {ma mb g : List R} {W wx : World} {x y : R} {s t : List R} {b1 o1 cla b2 o2 clb ns nt : Nat} {v : Value} (hsl : (x :: s).length = ns) (htl : (y :: t).length = nt) (hka : ns ≤ cla) (hkb : nt ≤ clb) (hma : cla ≤ maxLen) (hmb : clb ≤ maxLen)
    (hb1 : b1 < W.heap.size) (hb2 : b2 < W.heap.size)
    (hx : ∀ k r, (x :: s)[k]? = some r → W.cell? ⟨b1, o1 + k * 2, none⟩ = some (.int .i64 r.1) ∧ W.cell? ⟨b1, o1 + k * 2 + 1, none⟩ = some (.int .i64 r.2))
    (hy : ∀ k r, (y :: t)[k]? = some r → W.cell? ⟨b2, o2 + k * 2, none⟩ = some (.int .i64 r.1) ∧ W.cell? ⟨b2, o2 + k * 2 + 1, none⟩ = some (.int .i64 r.2))
    (hand : andF ma mb = g ++ andF s (y :: t)) (hgl : g.length + ns + nt ≤ ma.length + mb.length + 1) (hcut : Cut W g v wx) :
    ARel ma mb W (.slice (if cla = 1 then some ⟨b1, o1, none⟩ else some ⟨b1, o1 + 2, none⟩) (ns - 1) (cla - 1)) (.slice (some ⟨b2, o2, none⟩) nt clb) v wx ∧ lenV (.slice (if cla = 1 then some ⟨b1, o1, none⟩ else some ⟨b1, o1 + 2, none⟩) (ns - 1) (cla - 1)) + lenV (.slice (some ⟨b2, o2, none⟩) nt clb) < lenV (.slice (some ⟨b1, o1, none⟩) ns cla) + lenV (.slice (some ⟨b2, o2, none⟩) nt clb) := by
  have hs : ns - 1 = s.length := by simp only [List.length_cons] at hsl; omega
  refine ⟨⟨s, y :: t, g, _, _, cla - 1, clb, by rw [hs], by rw [htl], by omega, by omega, by omega, hmb, Lst.tail' hsl hka hb1 hx, fun _ => ⟨b2, o2, rfl, hb2, hy⟩, hand, by simp only [List.length_cons] at hsl htl ⊢; omega, hcut⟩, ?_⟩
  simp only [lenV]
  simp only [List.length_cons] at hsl
  omega
theorem arel_b {ma mb g : List R} {W wx : World} {x y : R} {s t : List R} {b1 o1 cla b2 o2 clb ns nt : Nat} {v : Value} (hsl : (x :: s).length = ns) (htl : (y :: t).length = nt) (hka : ns ≤ cla) (hkb : nt ≤ clb) (hma : cla ≤ maxLen) (hmb : clb ≤ maxLen)
    (hb1 : b1 < W.heap.size) (hb2 : b2 < W.heap.size)
    (hx : ∀ k r, (x :: s)[k]? = some r → W.cell? ⟨b1, o1 + k * 2, none⟩ = some (.int .i64 r.1) ∧ W.cell? ⟨b1, o1 + k * 2 + 1, none⟩ = some (.int .i64 r.2))
    (hy : ∀ k r, (y :: t)[k]? = some r → W.cell? ⟨b2, o2 + k * 2, none⟩ = some (.int .i64 r.1) ∧ W.cell? ⟨b2, o2 + k * 2 + 1, none⟩ = some (.int .i64 r.2))
    (hand : andF ma mb = g ++ andF (x :: s) t) (hgl : g.length + ns + nt ≤ ma.length + mb.length + 1) (hcut : Cut W g v wx) :
    ARel ma mb W (.slice (some ⟨b1, o1, none⟩) ns cla) (.slice (if clb = 1 then some ⟨b2, o2, none⟩ else some ⟨b2, o2 + 2, none⟩) (nt - 1) (clb - 1)) v wx ∧ lenV (.slice (some ⟨b1, o1, none⟩) ns cla) + lenV (.slice (if clb = 1 then some ⟨b2, o2, none⟩ else some ⟨b2, o2 + 2, none⟩) (nt - 1) (clb - 1)) < lenV (.slice (some ⟨b1, o1, none⟩) ns cla) + lenV (.slice (some ⟨b2, o2, none⟩) nt clb) := by
  have ht : nt - 1 = t.length := by simp only [List.length_cons] at htl; omega
  refine ⟨⟨x :: s, t, g, _, _, cla, clb - 1, by rw [hsl], by rw [ht], by omega, by omega, hma, by omega, fun _ => ⟨b1, o1, rfl, hb1, hx⟩, Lst.tail' htl hkb hb2 hy, hand, by simp only [List.length_cons] at hsl htl ⊢; omega, hcut⟩, ?_⟩
  simp only [lenV]
  simp only [List.length_cons] at htl
  omega
theorem AMid.of_same {wr w w' : World} {q : R} {v : Value} (h : AMid wr q v w) (h1 : w'.heap = w.heap) (h2 : w'.os = w.os) (h3 : w'.tape = w.tape) (h4 : w'.output = w.output) : AMid wr q v w' := by
  obtain ⟨g6, e, hg, hb, hbl⟩ := h
  refine ⟨g6, e, hg, by unfold Blk; rw [h1]; exact hb, h2.trans hbl.os, h3.trans hbl.tape, h4.trans hbl.output, by rw [h1]; exact hbl.size, fun k hk => by rw [h1]; exact hbl.block k hk⟩
theorem mid_before {wr W w3 : World} (q : R) (hb : Below W.heap.size W w3) (hH : W.heap = (wr.alloc (.cells #[.int .i64 0, .int .i64 0] 90)).heap) (h2 : W.os = wr.os) (h3 : W.tape = wr.tape) (h4 : W.output = wr.output) :
    AMid wr q (.pointer (some ⟨wr.heap.size, 0, none⟩)) ((w3.setCell ⟨wr.heap.size, 0, none⟩ (.int .i64 q.1)).setCell ⟨wr.heap.size, 1, none⟩ (.int .i64 q.2)) := by
  have hsz : W.heap.size = wr.heap.size + 1 := by rw [hH]; simp
  have hw : Below wr.heap.size wr W := ⟨h2, h3, h4, by omega, fun k hk => by rw [hH]; exact Below.heap_alloc _ _ _ hk⟩
  exact ⟨_, rfl, Nat.le_refl _, ((blk_of_heap hb hH).set_ 0 _).set_ 1 _, ((hw.trans (hb.mono (by omega))).setCell (Nat.le_refl _) _).setCell (Nat.le_refl _) _⟩
theorem mid_after {wr W w3 : World} (q : R) (hb : Below W.heap.size W w3) (hH : W.heap = wr.heap) (h2 : W.os = wr.os) (h3 : W.tape = wr.tape) (h4 : W.output = wr.output) :
    AMid wr q (.pointer (some ⟨w3.heap.size, 0, none⟩)) (w3.alloc (.cells #[.int .i64 q.1, .int .i64 q.2] 90)) := by
  have hw : Below wr.heap.size wr W := ⟨h2, h3, h4, by rw [hH]; exact Nat.le_refl _, fun k hk => by rw [hH]⟩
  have hw3 : Below wr.heap.size wr w3 := hw.trans (hb.mono (by rw [hH]; exact Nat.le_refl _))
  exact ⟨_, rfl, hw3.size, Blk.new w3 _ _, below_al hw3 hw3.size _⟩

set_option maxRecDepth 100000 in
set_option maxHeartbeats 8000000 in
theorem and_any (a b : List R) (A B : Option Addr) (ca cb : Nat) (w : World) (hla : a.length ≤ 100000) (hlb : b.length ≤ 100000) (hca : a.length ≤ ca) (hcb : b.length ≤ cb) (ha : Lst w w.heap.size A a) (hb : Lst w w.heap.size B b) :
    Calls Tryz.prog 105 #[.slice A a.length ca, .slice B b.length cb] w fun e w' => ∃ v, e = .returned v ∧ Cut w (andL a b) v w' := by
  have HA := hide ha
  have HB := hide hb
  clear ha hb
  obtain ⟨i0, hi, hz0, hz1, hz2⟩ := info_parts info_range
  go_enter Tryz.func105, Tryz.ntmps105
  go_wp2_with fail
  refine (make_any a A ca w (by omega) hca (unhide HA)).mono ?_
  rintro e w1 ⟨v1, rfl, hcut1⟩
  obtain ⟨A1, ca1, rfl, hl1, hc1, hcm1⟩ := own_lst hcut1.1
  have HW1 := hide hcut1.2
  have HL1 := hide hl1
  clear hcut1 hl1
  go_wp2_with fail
  refine (make_any b B cb w1 (by omega) hcb ((unhide HB).below (unhide HW1) |>.more (unhide HW1).size)).mono ?_
  rintro e w2 ⟨v2, rfl, hcut2⟩
  obtain ⟨B1, cb1, rfl, hl2, hc2, hcm2⟩ := own_lst hcut2.1
  have HW2 := hide ((unhide HW1).trans (hcut2.2.mono (unhide HW1).size))
  have HL1' := hide ((unhide HL1).below hcut2.2 |>.more hcut2.2.size)
  have HL2 := hide hl2
  have hml1 := mk_len a
  have hml2 := mk_len b
  have HFIN := hide (show andL a b = andF (mk a) (mk b) from rfl)
  clear hcut2 hl2 HL1
  generalize mk a = ma at *
  generalize mk b = mb at *
  go_wp2
  go_loopw [0, 1, 5] (fun va vb v wr => ARel ma mb w2 va vb v wr) (fun va vb _ _ => lenV va + lenV vb)
  case atStart => exact ⟨ma, mb, [], A1, B1, ca1, cb1, rfl, rfl, hc1, hc2, hcm1, hcm2, unhide HL1', unhide HL2, rfl, by simp, World.ownsRow_nil _ _ _ _, Below.refl _ _⟩
  case round =>
    obtain ⟨la, lb, g, Aa, Bb, cla, clb, rfl, rfl, hka, hkb, hma, hmb, hLa, hLb, hand, hgl, hcut⟩ := hrel
    cases la with
    | nil =>
      rw [andF_nil, List.append_nil] at hand
      have HAND := hide hand
      have HCUT := hide hcut
      clear hand hcut
      go_wp2
      go_ret
      refine ⟨_, rfl, own_lower (?_ : World.ownsRow _ w2.heap.size _ _ _ _ _) (unhide HW2).size, (unhide HW2).trans ((unhide HCUT).2.mono (unhide HW2).size)⟩
      rw [unhide HFIN, unhide HAND]
      exact (unhide HCUT).1
    | cons x s =>
      cases lb with
      | nil =>
        rw [andF_nil', List.append_nil] at hand
        have HAND := hide hand
        have HCUT := hide hcut
        clear hand hcut
        go_wp2
        go_ret
        refine ⟨_, rfl, own_lower (?_ : World.ownsRow _ w2.heap.size _ _ _ _ _) (unhide HW2).size, (unhide HW2).trans ((unhide HCUT).2.mono (unhide HW2).size)⟩
        rw [unhide HFIN, unhide HAND]
        exact (unhide HCUT).1
      | cons y t =>
        obtain ⟨b1, o1, rfl, hb1, hx⟩ := hLa (by simp)
        obtain ⟨b2, o2, rfl, hb2, hy⟩ := hLb (by simp)
        have hsz := hcut.2.size
        have x1 : wr.cell? ⟨b1, o1, none⟩ = some (.int .i64 x.1) := (hcut.2.cell (p := ⟨b1, o1, none⟩) hb1).trans (by simpa using (hx 0 x rfl).1)
        have x2 : wr.cell? ⟨b1, o1 + 1, none⟩ = some (.int .i64 x.2) := (hcut.2.cell (p := ⟨b1, o1 + 1, none⟩) hb1).trans (by simpa using (hx 0 x rfl).2)
        have y1 : wr.cell? ⟨b2, o2, none⟩ = some (.int .i64 y.1) := (hcut.2.cell (p := ⟨b2, o2, none⟩) hb2).trans (by simpa using (hy 0 y rfl).1)
        have y2 : wr.cell? ⟨b2, o2 + 1, none⟩ = some (.int .i64 y.2) := (hcut.2.cell (p := ⟨b2, o2 + 1, none⟩) hb2).trans (by simpa using (hy 0 y rfl).2)
        have ax1 : ∀ o, (wr.alloc o).cell? ⟨b1, o1, none⟩ = some (.int .i64 x.1) := fun o => (World.cell?_alloc_lt wr o ⟨b1, o1, none⟩ (Nat.lt_of_lt_of_le hb1 hsz)).trans x1
        have ax2 : ∀ o, (wr.alloc o).cell? ⟨b1, o1 + 1, none⟩ = some (.int .i64 x.2) := fun o => (World.cell?_alloc_lt wr o ⟨b1, o1 + 1, none⟩ (Nat.lt_of_lt_of_le hb1 hsz)).trans x2
        have ay1 : ∀ o, (wr.alloc o).cell? ⟨b2, o2, none⟩ = some (.int .i64 y.1) := fun o => (World.cell?_alloc_lt wr o ⟨b2, o2, none⟩ (Nat.lt_of_lt_of_le hb2 hsz)).trans y1
        have ay2 : ∀ o, (wr.alloc o).cell? ⟨b2, o2 + 1, none⟩ = some (.int .i64 y.2) := fun o => (World.cell?_alloc_lt wr o ⟨b2, o2 + 1, none⟩ (Nat.lt_of_lt_of_le hb2 hsz)).trans y2
        have hs0 : (0 : Int) < ((x :: s).length : Int) := by simp
        have ht0 : (0 : Int) < ((y :: t).length : Int) := by simp
        have HCUT := hide hcut
        have HAND := hide hand
        have HX := hide hx
        have HY := hide hy
        generalize hsl : (x :: s).length = ns at *
        generalize htl : (y :: t).length = nt at *
        have HSL := hide hsl
        have HTL := hide htl
        have hn1 : 0 < ns := by omega
        have hn2 : 0 < nt := by omega
        have hd1 : decide (0 < ns) = true := by simpa using hs0
        have hd2 : decide (0 < nt) = true := by simpa using ht0
        clear hcut hand hx hy hLa hLb hsl htl
        go_upto_region 4 with fail
        go_cut [6] from 11 to 45 (fun v wx => AMid wr (ovR x y) v wx)
        case first =>
          go_region_with (go_at_call 109; refine (overlap_any x y _).mono ?_; rintro e w3 ⟨rfl, hb3⟩; (first | (have hbk := blk_of_heap (wr := wr) (T := 90) (cs := #[.int .i64 0, .int .i64 0]) hb3 rfl; have e0 := hbk.cell 0; have e1 := hbk.cell 1; have f0 := hbk.frozen 0; have f1 := hbk.frozen 1) | (have hbk := Blk.new w3 90 #[.int .i64 0, .int .i64 0]; have e0 := hbk.cell 0; have e1 := hbk.cell 1; have f0 := hbk.frozen 0; have f1 := hbk.frozen 1)))
          all_goals go_wp2_with fail
          all_goals go_meet
          all_goals first | exact AMid.of_same (mid_before _ hb3 rfl rfl rfl rfl) rfl rfl rfl rfl | exact AMid.of_same (mid_after _ hb3 rfl rfl rfl rfl) rfl rfl rfl rfl
        case rest =>
          obtain ⟨g6, rfl, hg6, hblk, hbel⟩ := hcut
          have HRS := hide (andF_step s t (ovR x y) rfl (unhide HAND))
          generalize hq : ovR x y = q at *
          have HQ := hide hq
          have hcutc : Cut w2 g u5 wc := ⟨own_below (unhide HCUT).1 hbel, (unhide HCUT).2.trans (hbel.mono hsz)⟩
          have d0 := hblk.cell 0
          have d1 := hblk.cell 1
          have z1 : wc.cell? ⟨b1, o1 + 1, none⟩ = some (.int .i64 x.2) := (hbel.cell (p := ⟨b1, o1 + 1, none⟩) (Nat.lt_of_lt_of_le hb1 hsz)).trans x2
          have z2 : wc.cell? ⟨b2, o2 + 1, none⟩ = some (.int .i64 y.2) := (hbel.cell (p := ⟨b2, o2 + 1, none⟩) (Nat.lt_of_lt_of_le hb2 hsz)).trans y2
          have Z1 := hide z1
          have Z2 := hide z2
          have HCC := hide hcutc
          have HBK := hide hblk
          have HSZ := hide hsz
          have hszc := hcutc.2.size
          clear x1 x2 y1 y2 ax1 ax2 ay1 ay2 z1 z2 hcutc hblk hbel hq hsz hg6
          go_wp2_with fail
          refine (empty_any q wc).mono ?_
          rintro e w4 ⟨rfl, hb4⟩
          have hbk := (unhide HBK).below hb4 (unhide HBK).lt
          have e0 := hbk.cell 0
          have e1 := hbk.cell 1
          have z1 : w4.cell? ⟨b1, o1 + 1, none⟩ = some (.int .i64 x.2) := (hb4.cell (p := ⟨b1, o1 + 1, none⟩) (cell_lt (unhide Z1))).trans (unhide Z1)
          have z2 : w4.cell? ⟨b2, o2 + 1, none⟩ = some (.int .i64 y.2) := (hb4.cell (p := ⟨b2, o2 + 1, none⟩) (cell_lt (unhide Z2))).trans (unhide Z2)
          have hcut4 : Cut w2 g u5 w4 := ⟨own_below (unhide HCC).1 hb4, (unhide HCC).2.trans (hb4.mono hszc)⟩
          have hsz4 := hcut4.2.size
          have H4 := hide hcut4
          have BL1 := hide hb1
          have BL2 := hide hb2
          clear d0 d1 hb4 hbk hcut4
          by_cases hqe : q.2 < q.1
          · rw [decide_eq_true hqe]
            have HRS2 := hide ((unhide HRS).1 (by omega))
            clear hqe
            go_wp2_with fail
            go_quiet (fail)
            by_cases hxy : x.2 < y.2
            · go_wp2
              exact arel_a (unhide HSL) (unhide HTL) hka hkb hma hmb (unhide BL1) (unhide BL2) (unhide HX) (unhide HY) ((unhide HRS2).1 hxy) (by omega) (cut_drewN (unhide H4) _)
            · go_wp2
              exact arel_b (unhide HSL) (unhide HTL) hka hkb hma hmb (unhide BL1) (unhide BL2) (unhide HX) (unhide HY) ((unhide HRS2).2 (by omega)) (by omega) (cut_drewN (unhide H4) _)
          · rw [decide_eq_false hqe]
            have HRS2 := hide ((unhide HRS).2 (by omega))
            have hmx : g.length + 1 ≤ maxLen := by unfold maxLen; omega
            have hone : ∀ u ∈ (#[.int .i64 q.1, .int .i64 q.2] : Array Value).toList, u.oneCell' = true := by simp [Value.oneCell']
            have X2 := hide (show w2.cell? ⟨b1, o1 + 1, none⟩ = some (.int .i64 x.2) by simpa using ((unhide HX) 0 x rfl).2)
            have Y2 := hide (show w2.cell? ⟨b2, o2 + 1, none⟩ = some (.int .i64 y.2) by simpa using ((unhide HY) 0 y rfl).2)
            clear hqe z1 z2
            go_wp2_with (at_builtin; refine wpList_append_any _ rfl (.tmp 29) (.tmp 31) 24 rfl w2.heap.size 90 i0 (.agg #[.int .i64 0, .int .i64 0]) 2 16 Tryz.underlying24 hi hz0 hz1 hz2 rfl (by decide) _ g.length _ rfl ((unhide H4).1.alloc _) _ _ 1 1 _ rfl (reads_new w4 #[.int .i64 q.1, .int .i64 q.2] 90 1 2 rfl) hone hmx (by omega) (by rw [World.size_alloc]; omega) ?_; intro v5 w5 ho5 hg5 hn5; have hb5 := below_app (unhide H4).2 (unhide H4).1 hg5; have z1 : w5.cell? ⟨b1, o1 + 1, none⟩ = some (.int .i64 x.2) := (hb5.cell (p := ⟨b1, o1 + 1, none⟩) (unhide BL1)).trans (unhide X2); have z2 : w5.cell? ⟨b2, o2 + 1, none⟩ = some (.int .i64 y.2) := (hb5.cell (p := ⟨b2, o2 + 1, none⟩) (unhide BL2)).trans (unhide Y2); have HO5 := hide ho5; have HB5 := hide hb5; clear ho5 hg5 hn5 hb5 e0 e1)
            have H5 := hide (show Cut w2 (g ++ [q]) v5 w5 from ⟨by rw [flat_append, List.length_append]; exact unhide HO5, unhide HB5⟩)
            go_quiet (fail)
            by_cases hxy : x.2 < y.2
            · go_wp2
              exact arel_a (unhide HSL) (unhide HTL) hka hkb hma hmb (unhide BL1) (unhide BL2) (unhide HX) (unhide HY) ((unhide HRS2).1 hxy) (by simp; omega) (cut_drewN (unhide H5) _)
            · go_wp2
              exact arel_b (unhide HSL) (unhide HTL) hka hkb hma hmb (unhide BL1) (unhide BL2) (unhide HX) (unhide HY) ((unhide HRS2).2 (by omega)) (by simp; omega) (cut_drewN (unhide H5) _)
end Go.Proofs.YtdajdolhjaoeiaaGreatDoor.Rs
