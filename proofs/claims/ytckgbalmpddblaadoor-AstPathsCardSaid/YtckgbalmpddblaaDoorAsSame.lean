/-
  slices.EqualFunc at nodes and ast.Same, walked: are two trees the same, but for where their nodes stand? Conditions: both lie in memory.
-/
import Derived.Test.YtckgbalmpddblaaDoorAsSame1
set_option linter.unusedVariables false
set_option linter.unusedSimpArgs false
namespace Go.Proofs.YtckgbalmpddblaaDoor.As
open Go.RowKit Go.Proofs.YtckgbalmpddblaaDoor.Mem Go.Proofs.YtckgbalmpddblaaDoor.Rs

attribute [local go_sem] run_not_true run_not_false
theorem alikeL_iff : ∀ l m : List Nd, alikeL l m = true ↔ l.length = m.length ∧ ∀ (k : Nat) a b, l[k]? = some a → m[k]? = some b → alikeN a b = true
  | [], [] => by simp [alikeL]
  | [], b :: m => by simp [alikeL]
  | a :: l, [] => by simp [alikeL]
  | a :: l, b :: m => by
    unfold alikeL
    rw [Bool.and_eq_true, alikeL_iff l m]
    constructor
    · rintro ⟨h1, h2, h3⟩
      refine ⟨by simp [h2], fun k x y hx hy => ?_⟩
      cases k with
      | zero => obtain rfl : a = x := by simpa using hx
                obtain rfl : b = y := by simpa using hy
                exact h1
      | succ k => exact h3 k x y (by simpa using hx) (by simpa using hy)
    · rintro ⟨h1, h2⟩
      exact ⟨h2 0 a b rfl rfl, by simpa using h1, fun k x y hx hy => h2 (k + 1) x y (by simpa using hx) (by simpa using hy)⟩
def ARel (l m : List Nd) (w : World) (i : Value) (wr : World) : Prop := ∃ k : Nat, i = .int .i64 k ∧ k ≤ l.length ∧ (∀ (j : Nat) a b, j < k → l[j]? = some a → m[j]? = some b → alikeN a b = true) ∧ Below w.heap.size w wr
set_option maxRecDepth 100000 in
set_option maxHeartbeats 4000000 in
theorem eqNodes_any (l m : List Nd) (A M : Option Addr) (ca cm B : Nat) (w : World) (hB : B ≤ w.heap.size) (hl : NodesV w B l (.slice A l.length ca)) (hm : NodesV w B m (.slice M m.length cm)) :
    Calls Tryd.prog 28 #[.slice A l.length ca, .slice M m.length cm, .func (.func 29) #[] #[]] w fun e w' => e = .returned (.bool (alikeL l m)) ∧ Below w.heap.size w w' := by
  obtain ⟨A', ca', e1, hl1, hl2, hln⟩ := hl
  obtain ⟨M', cm', e2, hm1, hm2, hmn⟩ := hm
  simp only [Value.slice.injEq, true_and] at e1 e2
  obtain ⟨rfl, rfl⟩ := e1
  obtain ⟨rfl, rfl⟩ := e2
  have HLN := hide hln
  have HMN := hide hmn
  clear hln hmn
  by_cases hll : l.length = m.length
  · have d0 : ((l.length : Int) != (m.length : Int)) = false := by simp [hll]
    have HLL := hide hll
    clear hll
    go_enter Tryd.func28, Tryd.ntmps28
    go_wp2_with fail
    go_loopw [17] (fun i wr => ARel l m w i wr) (fun i _ => l.length - (intOf i).toNat)
    case atStart => exact ⟨0, rfl, by omega, fun j _ _ hj => absurd hj (by omega), Below.refl _ _⟩
    case round =>
      obtain ⟨k, rfl, hk, heq, hb⟩ := hrel
      go_hideQ
      have HEQ := hide heq
      have HB := hide hb
      have hsz := hb.size
      clear heq hb
      by_cases hlt : k < l.length
      · have hka : (k : Int) < (l.length : Int) := by omega
        have hkb : (k : Int) < (m.length : Int) := by have := unhide HLL; omega
        obtain ⟨a, ha⟩ : ∃ r, l[k]? = some r := ⟨_, List.getElem?_eq_getElem hlt⟩
        obtain ⟨b, hb⟩ : ∃ q, m[k]? = some q := ⟨_, List.getElem?_eq_getElem (by have := unhide HLL; omega)⟩
        obtain ⟨ba, oa, rfl, hba, hca⟩ := (unhide HLN) (by omega)
        obtain ⟨bb, ob, rfl, hbb, hcb⟩ := (unhide HMN) (by have := unhide HLL; omega)
        obtain ⟨h0, h1, h2, h3, h4, h5, h6, h7, ⟨v8, h8, Sa, csa, rfl, hs1, hs2, hsa⟩, v9, h9, Ka, cka, rfl, hk1, hk2, hka9⟩ := hca k a ha
        obtain ⟨g0, g1, g2, g3, g4, g5, g6, g7, ⟨u8, g8, Sb, csb, rfl, hs3, hs4, hsb⟩, u9, g9, Kb, ckb, rfl, hk3, hk4, hkb9⟩ := hcb k b hb
        have up : ∀ j u, w.cell? ⟨ba, oa + k * 10 + j, none⟩ = some u → wr.cell? ⟨ba, oa + k * 10 + j, none⟩ = some u := fun j u h => ((unhide HB).cell (p := ⟨ba, oa + k * 10 + j, none⟩) (by show ba < w.heap.size; omega)).trans h
        have d0 : wr.cell? ⟨ba, oa + k * 10, none⟩ = some (.int .i64 a.kind) := up 0 _ h0
        have d1 := up 1 _ h1
        have d2 := up 2 _ h2
        have d3 := up 3 _ h3
        have d4 := up 4 _ h4
        have d5 := up 5 _ h5
        have d6 := up 6 _ h6
        have d7 := up 7 _ h7
        have d8 := up 8 _ h8
        have d9 := up 9 _ h9
        have uq : ∀ j u, w.cell? ⟨bb, ob + k * 10 + j, none⟩ = some u → (wr.alloc (.cells #[.int .i64 a.kind, .int .i64 a.from_, .int .i64 a.to_, .int .i64 a.num, .int .i64 a.mn, .int .i64 a.mx, .int .i64 a.mode, str a.name, .slice Sa a.set.length csa, .slice Ka a.kids.length cka] 42)).cell? ⟨bb, ob + k * 10 + j, none⟩ = some u := fun j u h => (((unhide HB).alloc hsz (.cells #[.int .i64 a.kind, .int .i64 a.from_, .int .i64 a.to_, .int .i64 a.num, .int .i64 a.mn, .int .i64 a.mx, .int .i64 a.mode, str a.name, .slice Sa a.set.length csa, .slice Ka a.kids.length cka] 42)).cell (p := ⟨bb, ob + k * 10 + j, none⟩) (by show bb < w.heap.size; omega)).trans h
        have f0 : (wr.alloc (.cells #[.int .i64 a.kind, .int .i64 a.from_, .int .i64 a.to_, .int .i64 a.num, .int .i64 a.mn, .int .i64 a.mx, .int .i64 a.mode, str a.name, .slice Sa a.set.length csa, .slice Ka a.kids.length cka] 42)).cell? ⟨bb, ob + k * 10, none⟩ = some (.int .i64 b.kind) := uq 0 _ g0
        have f1 := uq 1 _ g1
        have f2 := uq 2 _ g2
        have f3 := uq 3 _ g3
        have f4 := uq 4 _ g4
        have f5 := uq 5 _ g5
        have f6 := uq 6 _ g6
        have f7 := uq 7 _ g7
        have f8 := uq 8 _ g8
        have f9 := uq 9 _ g9
        have hW : Below w.heap.size w ((wr.alloc (.cells #[.int .i64 a.kind, .int .i64 a.from_, .int .i64 a.to_, .int .i64 a.num, .int .i64 a.mn, .int .i64 a.mx, .int .i64 a.mode, str a.name, .slice Sa a.set.length csa, .slice Ka a.kids.length cka] 42)).alloc (.cells #[.int .i64 b.kind, .int .i64 b.from_, .int .i64 b.to_, .int .i64 b.num, .int .i64 b.mn, .int .i64 b.mx, .int .i64 b.mode, str b.name, .slice Sb b.set.length csb, .slice Kb b.kids.length ckb] 42)) := ((unhide HB).alloc hsz _).alloc (by simp; omega) _
        have C := hide (same1_any a b Sa Sb Ka Kb csa csb cka ckb ((wr.alloc (.cells #[.int .i64 a.kind, .int .i64 a.from_, .int .i64 a.to_, .int .i64 a.num, .int .i64 a.mn, .int .i64 a.mx, .int .i64 a.mode, str a.name, .slice Sa a.set.length csa, .slice Ka a.kids.length cka] 42)).alloc (.cells #[.int .i64 b.kind, .int .i64 b.from_, .int .i64 b.to_, .int .i64 b.num, .int .i64 b.mn, .int .i64 b.mx, .int .i64 b.mode, str b.name, .slice Sb b.set.length csb, .slice Kb b.kids.length ckb] 42)) hs1 hs2 hs3 hs4 hk1 hk2 hk3 hk4 ((hsa.keep fun p hp => hW.cell (by omega)).more (by simp; omega)) ((hsb.keep fun p hp => hW.cell (by omega)).more (by simp; omega)) ((hka9.keep fun p hp => hW.cell (by omega)).more (by simp; omega)) ((hkb9.keep fun p hp => hW.cell (by omega)).more (by simp; omega)))
        have bA := (Blk.new wr 42 #[.int .i64 a.kind, .int .i64 a.from_, .int .i64 a.to_, .int .i64 a.num, .int .i64 a.mn, .int .i64 a.mx, .int .i64 a.mode, str a.name, .slice Sa a.set.length csa, .slice Ka a.kids.length cka]).alloc (.cells #[.int .i64 b.kind, .int .i64 b.from_, .int .i64 b.to_, .int .i64 b.num, .int .i64 b.mn, .int .i64 b.mx, .int .i64 b.mode, str b.name, .slice Sb b.set.length csb, .slice Kb b.kids.length ckb] 42)
        have bB := Blk.new (wr.alloc (.cells #[.int .i64 a.kind, .int .i64 a.from_, .int .i64 a.to_, .int .i64 a.num, .int .i64 a.mn, .int .i64 a.mx, .int .i64 a.mode, str a.name, .slice Sa a.set.length csa, .slice Ka a.kids.length cka] 42)) 42 #[.int .i64 b.kind, .int .i64 b.from_, .int .i64 b.to_, .int .i64 b.num, .int .i64 b.mn, .int .i64 b.mx, .int .i64 b.mode, str b.name, .slice Sb b.set.length csb, .slice Kb b.kids.length ckb]
        rw [World.size_alloc] at bB
        have HBA := hide bA
        have HBB := hide bB
        have HAB := hide (And.intro ha hb)
        have HW := hide hW
        clear ha hb hca hcb hsa hsb hka9 hkb9 up uq bA bB hW h0 h1 h2 h3 h4 h5 h6 h7 h8 h9 g0 g1 g2 g3 g4 g5 g6 g7 g8 g9 hba hbb
        obtain ⟨q, hq⟩ : ∃ q, alikeN a b = q := ⟨_, rfl⟩
        rw [hq] at C
        have HQ := hide hq
        clear hq
        go_wp2_with fail
        refine (unhide C).mono ?_
        rintro e w5 ⟨rfl, hb5⟩
        have HB5 := hide ((unhide HW).trans (hb5.mono (unhide HW).size))
        clear C hb5
        cases q with
        | true =>
          go_wp2_with fail
          have hR : ARel l m w (.int .i64 ((k : Int) + 1)) w5 := by
            refine ⟨k + 1, by go_num, by omega, fun j x y hj hx hy => ?_, unhide HB5⟩
            rcases Nat.lt_or_ge j k with h | h
            · exact (unhide HEQ) j x y h hx hy
            · obtain rfl : j = k := by omega
              obtain rfl := Option.some.inj ((unhide HAB).1.symm.trans hx)
              obtain rfl := Option.some.inj ((unhide HAB).2.symm.trans hy)
              exact unhide HQ
          go_roundw
          case rel => exact hR
          case measure => simp [intOf]; omega
        | false =>
          have HR := hide (show alikeL l m = false from by
            rw [Bool.eq_false_iff, ne_eq, alikeL_iff]
            intro h
            have := h.2 k a b (unhide HAB).1 (unhide HAB).2
            rw [unhide HQ] at this
            cases this)
          go_wp2_with fail
          go_ret
          exact ⟨by rw [unhide HR]; rfl, unhide HB5⟩
      · have hka : (l.length : Int) ≤ (k : Int) := by omega
        have HR := hide (show alikeL l m = true from (alikeL_iff l m).2 ⟨unhide HLL, fun j x y hx hy => (unhide HEQ) j x y (by have := (List.getElem?_eq_some_iff.1 hx).1; omega) hx hy⟩)
        clear hlt
        go_wp2_with fail
        go_ret
        exact ⟨by rw [unhide HR]; rfl, unhide HB⟩
  · have d0 : ((l.length : Int) != (m.length : Int)) = true := by simp; omega
    have HR := hide (show alikeL l m = false from by rw [Bool.eq_false_iff, ne_eq, alikeL_iff]; exact fun h => hll h.1)
    clear hll
    go_enter Tryd.func28, Tryd.ntmps28
    go_wp2_with fail
    go_ret
    exact ⟨by rw [unhide HR]; rfl, Below.refl _ _⟩

theorem NamesV.at_ {w : World} {B : Nat} {l : List (List UInt8)} {A : Option Addr} {cap : Nat} (h : NamesV w B l (.slice A l.length cap)) : NmsAt w A l ∧ l.length ≤ cap ∧ cap ≤ 9223372036854775807 := by
  obtain ⟨A', cap', e, h1, h2, h3⟩ := h
  simp only [Value.slice.injEq, true_and] at e
  obtain ⟨rfl, rfl⟩ := e
  exact ⟨fun hn => by obtain ⟨b, off, e, _, hc⟩ := h3 hn; exact ⟨b, off, e, hc⟩, h1, h2⟩
set_option maxRecDepth 100000 in
set_option maxHeartbeats 2000000 in
/-- **Same** -/
theorem psame_any (a b : Tr) (va vb : Value) (B : Nat) (w : World) (hB : B ≤ w.heap.size) (ha : TreeV w B a va) (hb : TreeV w B b vb) :
    Calls Tryd.prog 16 #[va, vb] w fun e w' => e = .returned (.bool (sameT a b)) ∧ Below w.heap.size w w' := by
  obtain ⟨av, ac, rfl, hna, hca⟩ := ha
  obtain ⟨bv, bc, rfl, hnb, hcb⟩ := hb
  obtain ⟨A, ca, rfl, -⟩ := id hna
  obtain ⟨M, cm, rfl, -⟩ := id hnb
  obtain ⟨C, cc, rfl, -⟩ := id hca
  obtain ⟨D, cd, rfl, -⟩ := id hcb
  have hW : Below w.heap.size w ((w.alloc (.cells #[.slice A a.nodes.length ca, .int .i64 a.groups, .slice C a.names.length cc] 25)).alloc (.cells #[.slice M b.nodes.length cm, .int .i64 b.groups, .slice D b.names.length cd] 25)) := ((Below.refl _ _).alloc (Nat.le_refl _) _).alloc (by simp) _
  have HW := hide hW
  obtain ⟨n1, n2, n3⟩ := (hca.keep fun p hp => hW.cell (by omega)).at_
  obtain ⟨m1, m2, m3⟩ := (hcb.keep fun p hp => hW.cell (by omega)).at_
  obtain ⟨qn, hqn⟩ : ∃ q, decide (a.names = b.names) = q := ⟨_, rfl⟩
  obtain ⟨qm, hqm⟩ : ∃ q, alikeL a.nodes b.nodes = q := ⟨_, rfl⟩
  have CE := hide (eqS_any a.names b.names C D cc cd _ n2 n3 m2 m3 n1 m1 qn hqn)
  have CN := hide (fun (wx : World) (hx : Below w.heap.size w wx) => eqNodes_any a.nodes b.nodes A M ca cm B wx (Nat.le_trans hB hx.size) (hna.keep fun p hp => hx.cell (by omega)) (hnb.keep fun p hp => hx.cell (by omega)))
  rw [hqm] at CN
  have HR := hide (show sameT a b = (decide (a.groups = b.groups) && qn && qm) by unfold sameT; rw [hqn, hqm])
  clear hW hna hnb hca hcb n1 n2 n3 m1 m2 m3 hqn hqm
  by_cases hg : a.groups = b.groups
  · have d0 : (a.groups == b.groups) = true := by simp [hg]
    have HG := hide hg
    clear hg
    cases qn with
    | true =>
      go_enter Tryd.func16, Tryd.ntmps16
      go_wp2_with fail
      refine (unhide CE).mono ?_
      rintro e w3 hh
      obtain ⟨rfl, hb3⟩ := hh.below
      have hb4 := (unhide HW).trans (hb3.mono (unhide HW).size)
      have HB4 := hide hb4
      have b0 := (((Blk.new w 25 #[.slice A a.nodes.length ca, .int .i64 a.groups, .slice C a.names.length cc]).alloc (.cells #[.slice M b.nodes.length cm, .int .i64 b.groups, .slice D b.names.length cd] 25))).below hb3 (by simp <;> omega)
      have b1 := Blk.new (w.alloc (.cells #[.slice A a.nodes.length ca, .int .i64 a.groups, .slice C a.names.length cc] 25)) 25 #[.slice M b.nodes.length cm, .int .i64 b.groups, .slice D b.names.length cd]
      rw [World.size_alloc] at b1
      have b1 := b1.below hb3 (by simp <;> omega)
      have c0 := b0.cell 0
      have c1 := b1.cell 0
      clear hh hb3 hb4 b0 b1 CE
      go_wp2_with fail
      refine ((unhide CN) w3 (unhide HB4)).mono ?_
      rintro e w5 ⟨rfl, hb5⟩
      have HB5 := hide ((unhide HB4).trans (hb5.mono (unhide HB4).size))
      clear CN hb5
      go_wp2_with fail
      go_ret
      exact ⟨by rw [unhide HR, decide_eq_true (unhide HG)]; simp, unhide HB5⟩
    | false =>
      go_enter Tryd.func16, Tryd.ntmps16
      go_wp2_with fail
      refine (unhide CE).mono ?_
      rintro e w3 hh
      obtain ⟨rfl, hb3⟩ := hh.below
      have HB4 := hide ((unhide HW).trans (hb3.mono (unhide HW).size))
      clear hh hb3 CE
      go_wp2_with fail
      go_ret
      exact ⟨by rw [unhide HR]; simp, unhide HB4⟩
  · have d0 : (a.groups == b.groups) = false := by simp [hg]
    have HG := hide hg
    clear hg
    go_enter Tryd.func16, Tryd.ntmps16
    go_wp2_with fail
    go_ret
    exact ⟨by rw [unhide HR, decide_eq_false (unhide HG)]; simp, unhide HW⟩
end Go.Proofs.YtckgbalmpddblaaDoor.As
