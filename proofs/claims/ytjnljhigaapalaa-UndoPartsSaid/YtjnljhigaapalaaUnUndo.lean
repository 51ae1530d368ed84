/-
  Undo of a book, walked: the changes behind the mark are taken back, from behind. Condition: at most 1000 changes.
-/
import Derived.BigRegionIn
import Derived.Test.YtjnljhigaapalaaUnBwd
import Derived.Test.YtjnljhigaapalaaUnTail
set_option linter.unusedVariables false
set_option linter.unusedSimpArgs false
namespace Go.Proofs.Ytjnljhigaapalaa.Un
open Go.RowKit Go.Shelf Go.Proofs.Ytjnljhigaapalaa.Mem
open Go.Proofs.Ytjnljhigaapalaa.Ev (intA own_reads own_below ret_b below_box)
section
variable {K : Nat → Prop} {base bb nb : Nat} {tv : Value} {ns : List Int} {tr : List Ch} {w : World}
set_option maxHeartbeats 1000000 in
theorem undo_low (h : BX K base bb nb tv ns tr w) (m : Int) (hm : m < 0) : Calls Try.prog 11 #[.pointer (some ⟨bb, 0, none⟩), .int .i64 m] w fun e w' => e = .returned (.bool false) ∧ Below w.heap.size w w' := by
  clear h
  have d0 : decide (m < 0) = true := by simpa using hm
  go_enter Try.func11, Try.ntmps11
  go_wp2
  go_ret
  exact ⟨rfl, below_box _ _⟩
set_option maxHeartbeats 1000000 in
theorem undo_high (h : BX K base bb nb tv ns tr w) (m : Int) (hm : (tr.length : Int) < m) : Calls Try.prog 11 #[.pointer (some ⟨bb, 0, none⟩), .int .i64 m] w fun e w' => e = .returned (.bool false) ∧ Below w.heap.size w w' := by
  have hb := below_box w (.cells #[.pointer (some ⟨bb, 0, none⟩)] 24)
  have C := hide (mark_any (h.below hb))
  have c0 := (Blk.new w 24 #[.pointer (some ⟨bb, 0, none⟩)]).cell 0
  have d0 : decide (m < 0) = false := by simp; omega
  have HB := hide hb
  clear h hb
  go_enter Try.func11, Try.ntmps11
  go_wp2_with fail
  refine (unhide C).mono ?_
  rintro e w1 ⟨rfl, hw⟩
  subst hw
  go_wp2
  go_ret
  exact ⟨rfl, unhide HB⟩
theorem BX.cut {A : Option Addr} {cap m : Nat} (h : BX K base bb nb (.slice A tr.length cap) ns tr w) (hm : m ≤ tr.length) : BX K base bb nb (.slice A m cap) ns (tr.take m) (w.setCell ⟨bb, 1, none⟩ (.slice A m cap)) := by
  have e : (tr.take m).length = m := by rw [List.length_take]; omega
  have ho : w.ownsRow base 54 2 (.slice A m cap) m (flat (tr.take m)) := by
    rw [flat_take]
    have ht := h.trail
    cases A with
    | none =>
      rcases ht.2 with ⟨h1, h2⟩ | ⟨g, c5, cur, h1, -⟩
      · injection h1 with _ h3 h4
        have h5 : m = 0 := by omega
        subst h5
        rw [h4]
        exact ⟨by simp, .inl ⟨rfl, rfl⟩⟩
      · cases h1
    | some ad =>
      obtain ⟨g, hg⟩ : ∃ g, ad = ⟨g, 0, none⟩ := by
        rcases ht.2 with ⟨h1, h2⟩ | ⟨g, c5, cur, h1, -⟩
        · cases h1
        · injection h1 with h1
          exact ⟨g, Option.some.inj h1⟩
      subst hg
      exact own_cut ht hm
  have hb : (Value.slice A m cap).ownBlock = (Value.slice A tr.length cap).ownBlock := by cases A <;> rfl
  refine ⟨h.box.set_ 1 _, h.nums.far (p := ⟨bb, 1, none⟩) (fun e => h.nb_ne e.symm) _, ?_, h.kb, h.kn, fun g hg => h.kt g (hb ▸ hg), fun c hc => h.places c (List.mem_of_mem_take hc), h.lo, fun k hk => by simpa [World.setCell] using h.hi k hk, h.small⟩
  rw [e]
  exact ownsRow_setCell_other ho (a := ⟨bb, 1, none⟩) (by rw [hb]; exact h.tb_ne) _
def cutC (A : Option Addr) (f cap : Nat) : Option Addr := if cap = f then A else A.map (·.add (f * 2))
set_option maxRecDepth 100000 in
theorem slice_tail (A : Option Addr) (n cap f : Nat) (h1 : f ≤ n) (W : World) : Sem.run Try.prog (Instr.slice 50 (.slice A n cap) (some (.int .i64 (f : Int))) none none) W = .ok (.slice (cutC A f cap) (n - f) (cap - f)) W := by
  have hu : Try.prog.underlying 50 = some (.slice (Try.prog.elem 50)) := by kernel_rfl
  have hz := Try.sizeOf54
  rw [run_slice_l (P := Try.prog) W 50 A n cap hu .i64 (f : Int) (by omega) (by omega)]
  have he : Try.prog.elem 50 = 54 := by kernel_rfl
  rw [he]
  simp only [go_sem, Result.andThen_ok, sliced, Int.toNat_natCast]
  rfl
set_option maxRecDepth 100000 in
theorem slice_head (A : Option Addr) (n cap f : Nat) (h1 : f ≤ n) (h2 : n ≤ cap) (W : World) : Sem.run Try.prog (Instr.slice 50 (.slice A n cap) none (some (.int .i64 (f : Int))) none) W = .ok (.slice A f cap) W := by
  have hu : Try.prog.underlying 50 = some (.slice (Try.prog.elem 50)) := by kernel_rfl
  have hz := Try.sizeOf54
  rw [run_slice_h (P := Try.prog) W 50 A n cap hu .i64 (f : Int) (by omega) (by omega)]
  have he : Try.prog.elem 50 = 54 := by kernel_rfl
  rw [he]
  simp only [go_sem, Result.andThen_ok, sliced, Int.toNat_natCast]
  rw [hz]
  show Result.ok _ _ = _
  cases A with
  | none => simp
  | some ad => simp [Addr.add]
def app (ns : List Int) {L : List Ch} (pre : List (Fin L.length)) : List Int := pre.foldl (fun a x => a.set (chAt L x).1 (chAt L x).2) ns
theorem app_snoc (ns : List Int) {L : List Ch} (pre : List (Fin L.length)) (x : Fin L.length) : app ns (pre ++ [x]) = (app ns pre).set (chAt L x).1 (chAt L x).2 := by unfold app; rw [List.foldl_append]; rfl
theorem app_all (ns : List Int) {L : List Ch} (ys : List (Fin L.length)) (h : ys.map Fin.val = downL L.length 0) : app ns ys = back ns L := by
  have e1 : app ns ys = (ys.map fun x => chAt L x).foldl (fun a c => a.set c.1 c.2) ns := by unfold app; rw [List.foldl_map]
  have e2 : ys.map (fun x => chAt L x) = L.reverse := by
    have e3 : ys.map (fun x => chAt L x) = (ys.map Fin.val).map (fun j => L.getD j (0, 0)) := by
      rw [List.map_map]
      apply List.map_congr_left
      intro x hx
      simp [chAt, List.getD_eq_getElem?_getD]
    rw [e3, h]
    unfold downL
    rw [List.drop_zero, List.map_reverse]
    congr 1
    apply List.ext_getElem
    · simp
    · intro i h1 h2
      simp [List.getD_eq_getElem?_getD, h2]
  rw [e1, e2, List.foldl_reverse]
  rfl
theorem app_len (ns : List Int) {L : List Ch} (pre : List (Fin L.length)) : (app ns pre).length = ns.length := by
  unfold app
  induction pre generalizing ns with
  | nil => rfl
  | cons x pre ih => rw [List.foldl_cons, ih, List.length_set]
theorem blk_own {W W' : World} {g : Nat} {t : TypeId} {cs : Array Value} {row : Option Nat} (h : Blk W g t cs) (hg : W.grownBy W' row) (hr : ∀ r, row = some r → ∃ o : Obj, W.heap[r]? = some o ∧ o.isCells = false) : Blk W' g t cs :=
  h.grown hg fun e => by
    obtain ⟨o, h1, h2⟩ := hr g e.symm
    rw [show W.heap[g]? = _ from h] at h1
    cases h1
    cases h2
def UInv (K : Nat → Prop) (base bb nb : Nat) (tv : Value) (ns : List Int) (tr L : List Ch) (w : World) (C : Nat) (pre : List (Fin L.length)) (W : World) : Prop :=
  BX K base bb nb tv (app ns pre) tr W ∧ Blk W w.heap.size 24 #[.pointer (some ⟨bb, 0, none⟩)] ∧ Keep K w W ∧ C ≤ W.heap.size
theorem uinv_own {K : Nat → Prop} {base bb nb : Nat} {tv : Value} {ns : List Int} {tr L : List Ch} {w : World} {C : Nat} (hC : w.heap.size ≤ C) (hK : ∀ k, K k → k < w.heap.size) : OwnFrom C (UInv K base bb nb tv ns tr L w C) := by
  rintro s W W' row ⟨h1, h2, h3, h4⟩ hg hr
  exact ⟨h1.own hg (fun r e => .inr (hr r e).2), blk_own h2 hg (fun r e => (hr r e).2), h3.trans (Keep.of_grown hg h1.hi (fun g e hk => by have h4 := (hr g e).1; have h5 := hK g hk; omega)), Nat.le_trans h4 hg.size⟩
attribute [local go_sem] Oper.semAt_some
attribute [local go_sem high] slice_tail slice_head
set_option maxRecDepth 100000 in
set_option maxHeartbeats 2000000 in
theorem undo_in (h : BX K base bb nb tv ns tr w) (m : Nat) (hm : m ≤ tr.length) (hl : tr.length ≤ 1000) : Calls Try.prog 11 #[.pointer (some ⟨bb, 0, none⟩), .int .i64 (m : Int)] w fun e w' => e = .returned (.bool true) ∧ BV K base bb (back ns (tr.drop m)) (tr.take m) w' ∧ Keep K w w' := by
  refine (callsIn_wide (n := 3)).1 ?_
  obtain ⟨A, cap, htv, hrd, h6, h7⟩ := own_reads h.trail
  subst htv
  have hb1 := below_box w (.cells #[.pointer (some ⟨bb, 0, none⟩)] 24)
  have hx1 := h.below hb1
  have CM := hide (mark_any hx1)
  have k1 := Blk.new w 24 #[.pointer (some ⟨bb, 0, none⟩)]
  have k1c := k1.cell 0
  obtain ⟨c0, c1⟩ := cells2 hx1.box
  have HX1 := hide hx1
  have HK1 := hide k1
  have HB1 := hide hb1
  have HRD := hide hrd
  have H := hide h
  obtain ⟨q, hq⟩ : ∃ q, tr.length = q := ⟨_, rfl⟩
  obtain ⟨n, hn⟩ : ∃ n, ns.length = n := ⟨_, rfl⟩
  have HQ := hide hq
  have HN := hide hn
  rw [hq] at CM c1 hm h6
  rw [hn] at c0
  have d0 : decide ((m : Int) < 0) = false := by simp
  have d1 : decide ((q : Int) < (m : Int)) = false := by simp; omega
  clear hb1 hx1 k1 hrd h hq hn
  refine callsIn_of_wp_marks Try.func11 rfl trivial ?_ rfl
  simp only [Try.ntmps11, List.size_toArray, List.length_cons, List.length_nil, Nat.reduceAdd, Nat.reduceSub, Array.replicate_succ, Array.replicate_zero, List.push_toArray, List.append_toArray, List.nil_append, List.cons_append]
  gi_wp2_with fail
  refine ⟨trivial, ?_⟩
  refine (callsIn_wide.2 (unhide CM)).mono ?_
  rintro e w1 ⟨rfl, hw⟩
  subst hw
  clear CM
  gi_wp2_with fail
  refine ⟨trivial, ?_⟩
  refine (callsIn_wide.2 (bwd_any _ _ _ _)).mono ?_
  rintro e w2 ⟨rfl, hw⟩
  obtain ⟨tb, htb⟩ : ∃ tb, (A = none ∧ q = 0) ∨ A = some ⟨tb, 0, none⟩ := by
    rcases (unhide H).trail.2 with ⟨e1, e2⟩ | ⟨g, c5, cur, e1, -⟩
    · injection e1 with e3 e4
      exact ⟨0, .inl ⟨e3, by rw [← unhide HQ]; exact e2⟩⟩
    · injection e1 with e3
      exact ⟨g, .inr e3⟩
  obtain ⟨L, hLd⟩ : ∃ L, tr.drop m = L := ⟨_, rfl⟩
  have hL : L.length = q - m := by rw [← hLd, List.length_drop, unhide HQ]
  have hq1 : q ≤ 1000 := by rw [← unhide HQ]; exact hl
  have hz : w2.heap.size = w.heap.size + 2 := by rw [hw]; simp
  have hb12 := below_box (w.alloc (.cells #[.pointer (some ⟨bb, 0, none⟩)] 24)) (.cells #[.slice (cutC A m cap) (q - m) (cap - m)] 50)
  rw [← hw] at hb12
  have hx2 := (unhide HX1).below hb12
  have hk2 := (unhide HK1).below hb12 (by simp)
  have hp2 : Blk w2 (w.heap.size + 1) 50 #[.slice (cutC A m cap) L.length (cap - m)] := by
    have := Blk.new (w.alloc (.cells #[.pointer (some ⟨bb, 0, none⟩)] 24)) 50 #[.slice (cutC A m cap) (q - m) (cap - m)]
    rw [World.size_alloc] at this
    rw [hw, hL]
    exact this
  have hb02 : Below w.heap.size w w2 := (unhide HB1).trans (hb12.mono (by simp))
  have hkp2 : Keep K w w2 := Keep.of_below hb02 (unhide H).hi
  have hKt : 0 < L.length → A = some ⟨tb, 0, none⟩ ∧ cutC A m cap = some ⟨tb, m * 2, none⟩ := fun h => by
    rw [hL] at h
    rcases htb with ⟨-, h2⟩ | h2
    · omega
    · refine ⟨h2, ?_⟩
      unfold cutC
      rw [if_neg (by omega), h2, Option.map_some, add_flat, Nat.zero_add]
  have hcl : ∀ k x, L[k]? = some x → w2.cell? ⟨tb, m * 2 + k * 2, none⟩ = some (Mem.n64 x.1) ∧ w2.cell? ⟨tb, m * 2 + k * 2 + 1, none⟩ = some (Mem.i64 x.2) := fun k x hx => by
    have hlk : 0 < L.length := by have := (List.getElem?_eq_some_iff.1 hx).1; omega
    have hA := (hKt hlk).1
    rw [← hLd, List.getElem?_drop] at hx
    obtain ⟨f1, f2⟩ := flat_at hx
    obtain ⟨ad, e1, e2, e3⟩ := (unhide HRD).2 (by have := (List.getElem?_eq_some_iff.1 hx).1; omega)
    rw [hA] at e1
    cases e1
    have g1 := e3 _ _ f1
    have g2 := e3 _ _ f2
    rw [add_flat, Nat.zero_add] at g1 g2
    have j1 : (m + k) * 2 = m * 2 + k * 2 := by omega
    rw [j1] at g1 g2
    exact ⟨(hb02.cell (p := ⟨tb, m * 2 + k * 2, none⟩) e2).trans g1, (hb02.cell (p := ⟨tb, m * 2 + k * 2 + 1, none⟩) e2).trans g2⟩
  have hKlt : ∀ k, (k = w.heap.size + 1 ∨ (A = some ⟨tb, 0, none⟩ ∧ k = tb)) → k < w2.heap.size := fun k hk => by
    rcases hk with rfl | ⟨h1, rfl⟩
    · omega
    · exact hx2.tlt (by rw [h1]; rfl)
  have HA := hide htb
  have HHI := hide (unhide H).hi
  have HPL := hide (unhide H).places
  have HLD := hide hLd
  clear hLd
  clear hw c0 c1 k1c HX1 HK1 HB1 HRD hb12 htb
  rw [World.size_alloc]
  gi_wp2_with fail
  refine wpIn_rangeFunc_ownH rfl (by omega) (gf := 23) (lb := #[.pointer (some ⟨w.heap.size + 1, 0, none⟩)]) rfl trivial (enters_of Try.func23 (by kernel_rfl) rfl)
    (bwd_stops (3 - 1) (by omega) (w.heap.size + 1) tb (m * 2) L (cutC A m cap) (cap - m) (fun k => k = w.heap.size + 1 ∨ (A = some ⟨tb, 0, none⟩ ∧ k = tb)) (.inl rfl) (fun h => ⟨.inr ⟨(hKt h).1, rfl⟩, (hKt h).2⟩) (by omega) w2 hKlt hp2 hcl) keeps_t (keeps_b hKlt) (Below.refl _ _) (fun _ => rfl)
    (UInv K base bb nb (.slice A tr.length cap) ns tr L w w2.heap.size)
    (fun _ _ _ => False)
    (uinv_own (by omega) (unhide HHI))
    (fun _ _ _ _ _ hs _ _ => hs)
    ⟨hx2, hk2, hkp2, Nat.le_refl _⟩
    (fun x a' W => ∃ g, w.heap.size + 2 ≤ g ∧ Blk W g 54 #[.int .i64 ((chAt L x).1 : Int), .int .i64 (chAt L x).2] ∧ a' = { tmps := #[Value.pointer (some ⟨bb, 0, none⟩), .int .i64 (m : Int), .pointer (some ⟨w.heap.size, 0, none⟩), undef, .bool false, undef, .pointer (some ⟨g, 0, none⟩), .int .i64 (m : Int), .bool false, .bool false, .int .i64 (m : Int), .pointer (some ⟨bb, 0, none⟩), .int .i64 (q : Int), .bool false, .bool false, .pointer (some ⟨bb, 0, none⟩), .pointer (some ⟨bb, 0, none⟩), .pointer (some ⟨bb, 1, none⟩), .slice A q cap, .int .i64 (m : Int), .slice (cutC A m cap) (q - m) (cap - m), .func (.func 23) #[] #[.pointer (some ⟨w.heap.size + 1, 0, none⟩)], .int .i64 (x.val : Int), .agg #[.int .i64 ((chAt L x).1 : Int), .int .i64 (chAt L x).2], undef, undef, undef, undef, undef, undef, undef, undef, undef, undef, undef, undef, undef, undef, undef, undef, undef, undef], defers := [] })
    ?own ?assign ?body ?done ?stop
  case own =>
    rintro x a' - W W' row ⟨g, h1, h2, h3⟩ hg hr
    exact ⟨g, h1, blk_own h2 hg (fun r e => (hr r e).2), h3⟩
  case assign =>
    rintro l pre x W K' ⟨hx, hk, hkp, hsz⟩ hK'
    have HX := hide hx
    have HK := hide hk
    have HKP := hide hkp
    have HKK := hide hK'
    clear hx hk hkp hK'
    gi_wp2
    have hb := below_box W (.cells #[.int .i64 ((chAt L x).1 : Int), .int .i64 (chAt L x).2] 54)
    have hkw : ∀ k, (k = w.heap.size + 1 ∨ (A = some ⟨tb, 0, none⟩ ∧ k = tb)) → k < W.heap.size := fun k hk => by
      rcases hk with rfl | ⟨h1, rfl⟩
      · omega
      · exact (unhide HX).tlt (by rw [h1]; rfl)
    exact (unhide HKK) _ _ (KeepsFrom.of_grownBy (World.grownBy_alloc W _ none) (fun j e => by cases e)) ⟨Stays.of_below hb hkw, hb.size⟩ ⟨(unhide HX).below hb, (unhide HK).below hb (unhide HK).lt, (unhide HKP).trans (Keep.of_below hb (unhide HX).hi), Nat.le_trans hsz hb.size⟩ ⟨W.heap.size, by omega, Blk.new W _ _, rfl⟩
  case body =>
    rintro l pre x a' W hwl hrr ⟨hx, hk, hkp, hsz⟩ ⟨g, hg, hbg, rfl⟩ hlt
    have hkc := hk.cell 0
    obtain ⟨c0, c1⟩ := cells2 hx.box
    obtain ⟨g0, g1⟩ := cells2 hbg
    have HXL := hide (app_snoc ns pre x)
    have hpl : (chAt L x).1 < ns.length := (unhide HPL) _ (List.mem_of_mem_drop (i := m) (by rw [unhide HLD]; exact List.getElem_mem x.isLt))
    obtain ⟨a, ha⟩ : ∃ a, (chAt L x).1 = a := ⟨_, rfl⟩
    obtain ⟨b, hb⟩ : ∃ b, (chAt L x).2 = b := ⟨_, rfl⟩
    rw [ha] at g0 hpl HXL
    rw [hb] at g1 HXL
    rw [app_len, unhide HN] at c0
    rw [unhide HN] at hpl
    have hpl2 : (a : Int) < (n : Int) := by omega
    obtain ⟨old, hold⟩ : ∃ old, (app ns pre)[a]? = some old := ⟨_, List.getElem?_eq_getElem (by rw [app_len, unhide HN]; exact hpl)⟩
    have e0 := hx.num hold
    have f0 : W.drew.cell? ⟨nb, a, none⟩ = some (.int .i64 old) := e0
    have e1 := hx.nums.frozen a
    have f1 : W.drew.frozen? ⟨nb, a, none⟩ = false := e1
    have HX := hide hx
    have HK := hide hk
    have HKP := hide hkp
    have HRR := hide hrr
    have hne : w.heap.size ≠ nb := by have := (unhide H).nums.lt; omega
    have HNE := hide hne
    have HKL := hide hKlt
    clear hx hk hkp hrr ha hb hne hbg hold hcl hKt hx2 hk2 hp2 hb02 hkp2 hlt hKlt hL c1
    have hkc2 : W.cell? ⟨w.heap.size, 0, none⟩ = some (.pointer (some ⟨bb, 0, none⟩)) := hkc
    clear hkc
    gi_wp2_with fail
    refine RegTail.wpIn_region_still_round 9 (by kernel_rfl) (by kernel_rfl) (by kernel_rfl) ?_
    simp only [List.take_succ_cons, List.take_zero, List.drop_succ_cons, List.drop_zero]
    repeat still_step
    refine wpStill_nil ?_
    change wpList _ _ _ _ _ W.drew
    go_wp2_with fail
    refine RegTail.only_norm ?_
    have hx3 := (unhide HX).put a b
    have hgw : W.grownBy (W.drew.setCell ⟨nb, a, none⟩ (.int .i64 b)) (some nb) := only_setCell (only_drew (World.grownBy.refl W (some nb))) (.inl rfl) _
    have hfin : KeepsFrom w2.heap.size W (W.drew.setCell ⟨nb, a, none⟩ (.int .i64 b)) ∧ Keeps (fun k => k = w.heap.size + 1 ∨ (A = some ⟨tb, 0, none⟩ ∧ k = tb)) W (W.drew.setCell ⟨nb, a, none⟩ (.int .i64 b)) ∧ UInv K base bb nb (.slice A tr.length cap) ns tr L w w2.heap.size (pre ++ [x]) (W.drew.setCell ⟨nb, a, none⟩ (.int .i64 b)) := by
      have hnb := (unhide H).nums.lt
      refine ⟨KeepsFrom.of_grownBy hgw (fun j e => by cases e; omega), ⟨fun k hk => hgw.block k ?_ ?_, hgw.size⟩, ?_, ?_, ?_, Nat.le_trans hsz hgw.size⟩
      · exact Nat.lt_of_lt_of_le ((unhide HKL) k hk) hsz
      · rcases hk with rfl | ⟨h1, rfl⟩
        · intro e; cases e; omega
        · intro e; cases e; exact (unhide H).tn_ne (by rw [h1]; rfl)
      · rw [unhide HXL]
        exact ⟨hx3.box, hx3.nums, hx3.trail, hx3.kb, hx3.kn, hx3.kt, hx3.places, hx3.lo, hx3.hi, hx3.small⟩
      · exact (unhide HK).drew.far (p := ⟨nb, a, none⟩) (unhide HNE) _
      · exact (unhide HKP).drew.setCell (p := ⟨nb, a, none⟩) (unhide H).kn _
    exact hfin
  case done =>
    rintro D ys W hD hys ⟨hx, hk, hkp, hsz⟩ hK
    have hkc2 : W.cell? ⟨w.heap.size, 0, none⟩ = some (.pointer (some ⟨bb, 0, none⟩)) := hk.cell 0
    obtain ⟨c0, c1⟩ := cells2 hx.box
    have e1 := hx.box.frozen 1
    have f0 : W.drew.cell? ⟨bb, 1, none⟩ = some (.slice A tr.length cap) := c1
    have f1 : W.drew.frozen? ⟨bb, 1, none⟩ = false := e1
    rw [unhide HQ] at c1 f0
    have HX := hide hx
    have HKP := hide hkp
    have HYS := hide hys
    have HD := hide hK
    clear hx hk hkp hK hys hcl hKt hx2 hk2 hp2 hb02 hkp2 hKlt hL
    gi_wp2_with fail
    refine RegTail.wpIn_region_still_tail 9 (by kernel_rfl) (by kernel_rfl) ?_
    simp only [List.take_succ_cons, List.take_zero, List.drop_succ_cons, List.drop_zero]
    repeat still_step
    refine wpStill_nil ?_
    change wpListIn _ _ _ _ _ _ _ W.drew
    gi_wp2_with fail
    have hbb := (unhide H).box.lt
    have hx4 := (unhide HX).cut (m := m) (by rw [unhide HQ]; exact hm)
    have hx5 : BX K base bb nb (.slice A m cap) (app ns ys) (tr.take m) (W.setCell ⟨bb, 1, none⟩ (.slice A m cap)).drew := ⟨hx4.box, hx4.nums, hx4.trail, hx4.kb, hx4.kn, hx4.kt, hx4.places, hx4.lo, hx4.hi, hx4.small⟩
    have hK4 : (W.setCell ⟨bb, 1, none⟩ (.slice A m cap)).drew.heap[D]? = some (.deferred (some [])) := (Below.heap_setCell W ⟨bb, 1, none⟩ _ D (by simp; omega)).trans (unhide HD)
    have hkp4 : Keep K w (W.setCell ⟨bb, 1, none⟩ (.slice A m cap)).drew := ((unhide HKP).setCell (p := ⟨bb, 1, none⟩) (unhide H).kb _).drew
    refine ⟨by simp, .inl ⟨_, _, rfl, run_takeDeferred hK4, ?_⟩⟩
    refine ⟨_, results_tmp rfl _ _ _, rfl, ⟨nb, .slice A m cap, ?_⟩, hkp4.trans (Keep.of_grown (grownBy_putObj' _ D _) hx5.hi (fun g e hg => by cases e; have := (unhide HHI) _ hg; omega))⟩
    have e5 : app ns ys = back ns (tr.drop m) := by rw [unhide HLD]; exact app_all ns ys (unhide HYS)
    rw [← e5]
    exact hx5.own (grownBy_putObj' _ D _) (fun r e => by cases e; exact .inr ⟨_, hK4, rfl⟩)
  case stop =>
    rintro D c pre W - - h -
    exact h.elim
end
theorem undo_any {K : Nat → Prop} {base bb : Nat} {ns : List Int} {tr : List Ch} {w : World} (h : BV K base bb ns tr w) (m : Int) (hl : tr.length ≤ 1000) : Calls Try.prog 11 #[.pointer (some ⟨bb, 0, none⟩), .int .i64 m] w fun e w' => e = .returned (.bool (okB tr m)) ∧ BV K base bb (undoN ns tr m) (undoT tr m) w' ∧ Keep K w w' := by
  obtain ⟨nb, tv, h⟩ := h
  unfold undoN undoT
  by_cases h0 : m < 0
  · have e0 : okB tr m = false := by unfold okB; simp; omega
    rw [e0, if_neg (by simp), if_neg (by simp)]
    refine (undo_low h m h0).mono ?_
    rintro e w1 ⟨rfl, hb⟩
    exact ⟨rfl, ⟨nb, tv, h.below hb⟩, Keep.of_below hb h.hi⟩
  · by_cases h1 : (tr.length : Int) < m
    · have e0 : okB tr m = false := by unfold okB; simp; omega
      rw [e0, if_neg (by simp), if_neg (by simp)]
      refine (undo_high h m h1).mono ?_
      rintro e w1 ⟨rfl, hb⟩
      exact ⟨rfl, ⟨nb, tv, h.below hb⟩, Keep.of_below hb h.hi⟩
    · obtain ⟨k, rfl⟩ : ∃ k : Nat, m = (k : Int) := ⟨m.toNat, by omega⟩
      have e0 : okB tr (k : Int) = true := by unfold okB; simp; omega
      rw [e0, if_pos rfl, if_pos rfl, Int.toNat_natCast]
      exact undo_in h k (by omega) hl
end Go.Proofs.Ytjnljhigaapalaa.Un
