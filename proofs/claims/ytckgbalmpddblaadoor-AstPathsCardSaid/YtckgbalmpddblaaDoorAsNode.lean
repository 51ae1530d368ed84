/-
  Node.right, Right's closure, slices.IndexFunc and ContainsFunc over it, walked. Conditions: the table of forms lies; the nodes lie in memory, none with a set too great to be read.
-/
import Derived.Test.YtckgbalmpddblaaDoorAsForm
set_option linter.unusedVariables false
set_option linter.unusedSimpArgs false
namespace Go.Proofs.YtckgbalmpddblaaDoor.As
open Go.RowKit Go.Proofs.YtckgbalmpddblaaDoor.Mem Go.Proofs.YtckgbalmpddblaaDoor.Rs

attribute [local go_sem] run_not_true run_not_false
def nodeB (nd : Nd) : Bool := decide (1 ≤ nd.kind ∧ nd.kind ≤ 10) && (formedB nd.kind.toNat nd && countedB nd.kind.toNat nd && (decide (0 ≤ nd.from_) && decide (nd.from_ ≤ nd.to_) && decide (nd.to_ ≤ 4096)))
set_option maxRecDepth 100000 in
set_option maxHeartbeats 2000000 in
/-- **right** -/
theorem node_any (nd : Nd) (S K : Option Addr) (cs ck : Nat) (w : World) (hT : Fm w) (hs : nd.set.length ≤ 8796093021952) (hcs : nd.set.length ≤ cs) (hS : Lst w w.heap.size S nd.set) :
    Calls Tryd.prog 19 #[.agg #[.int .i64 nd.kind, .int .i64 nd.from_, .int .i64 nd.to_, .int .i64 nd.num, .int .i64 nd.mn, .int .i64 nd.mx, .int .i64 nd.mode, str nd.name, .slice S nd.set.length cs, .slice K nd.kids.length ck]] w fun e w' => e = .returned (.bool (nodeB nd)) ∧ Below w.heap.size w w' := by
  have hb0 : Below w.heap.size w (w.alloc (.cells #[.int .i64 nd.kind, .int .i64 nd.from_, .int .i64 nd.to_, .int .i64 nd.num, .int .i64 nd.mn, .int .i64 nd.mx, .int .i64 nd.mode, str nd.name, .slice S nd.set.length cs, .slice K nd.kids.length ck] 42)) := (Below.refl _ _).alloc (Nat.le_refl _) _
  have HB0 := hide hb0
  by_cases hk : 1 ≤ nd.kind ∧ nd.kind ≤ 10
  · obtain ⟨k, hkd⟩ : ∃ k : Nat, nd.kind = k := ⟨nd.kind.toNat, by omega⟩
    have CF := hide (formed_any nd k hkd (by omega) (by omega) S K cs ck (w.alloc (.cells #[.int .i64 nd.kind, .int .i64 nd.from_, .int .i64 nd.to_, .int .i64 nd.num, .int .i64 nd.mn, .int .i64 nd.mx, .int .i64 nd.mode, str nd.name, .slice S nd.set.length cs, .slice K nd.kids.length ck] 42)) (hT.below hb0 (Nat.le_refl _)) hs hcs ((hS.below hb0).more hb0.size))
    have CC := hide (fun wx => counted_any nd k hkd (.slice S nd.set.length cs) (.slice K nd.kids.length ck) wx)
    have bN := Blk.new w 42 #[.int .i64 nd.kind, .int .i64 nd.from_, .int .i64 nd.to_, .int .i64 nd.num, .int .i64 nd.mn, .int .i64 nd.mx, .int .i64 nd.mode, str nd.name, .slice S nd.set.length cs, .slice K nd.kids.length ck]
    have HN := hide bN
    obtain ⟨fb, hfb⟩ : ∃ q, formedB k nd = q := ⟨_, rfl⟩
    obtain ⟨cb, hcb⟩ : ∃ q, countedB k nd = q := ⟨_, rfl⟩
    have HR := hide (show nodeB nd = (fb && cb && (decide (0 ≤ nd.from_) && decide (nd.from_ ≤ nd.to_) && decide (nd.to_ ≤ 4096))) from by
      unfold nodeB
      rw [decide_eq_true hk, hkd, Int.toNat_natCast, hfb, hcb, Bool.true_and])
    rw [hfb] at CF
    rw [hcb] at CC
    have k1 : decide (nd.kind < 1) = false := by simp; omega
    have k2 : decide (10 < nd.kind) = false := by simp; omega
    clear hk hkd hT hS hb0 bN hfb hcb
    go_enter Tryd.func19, Tryd.ntmps19
    go_wp2_with fail
    refine (unhide CF).mono ?_
    rintro e w2 ⟨rfl, hb2⟩
    have bN := (unhide HN).below hb2 (by simp)
    have HN := hide bN
    have HB2 := hide ((unhide HB0).trans (hb2.mono (unhide HB0).size))
    clear CF hb2 bN
    cases fb with
    | false =>
      go_wp2_with fail
      go_ret
      exact ⟨by rw [unhide HR]; simp, unhide HB2⟩
    | true =>
      have n0 := (unhide HN).cell 0
      have n1 := (unhide HN).cell 1
      have n2 := (unhide HN).cell 2
      have n3 := (unhide HN).cell 3
      have n4 := (unhide HN).cell 4
      have n5 := (unhide HN).cell 5
      have n6 := (unhide HN).cell 6
      have n7 := (unhide HN).cell 7
      have n8 := (unhide HN).cell 8
      have n9 := (unhide HN).cell 9
      go_wp2_with fail
      refine ((unhide CC) w2).mono ?_
      rintro e w3 ⟨rfl, hb3⟩
      have bN := (unhide HN).below hb3 (by have := (unhide HB2).size; have := (unhide HN).lt; omega)
      have HB3 := hide ((unhide HB2).trans (hb3.mono (unhide HB2).size))
      clear CC hb3 n0 n1 n2 n3 n4 n5 n6 n7 n8 n9
      cases cb with
      | false =>
        go_wp2_with fail
        go_ret
        exact ⟨by rw [unhide HR]; simp, unhide HB3⟩
      | true =>
        have n1 := bN.cell 1
        have n2 := bN.cell 2
        clear bN
        by_cases h1 : 0 ≤ nd.from_
        · have e1 : decide (0 ≤ nd.from_) = true := by simpa using h1
          by_cases h2 : nd.from_ ≤ nd.to_
          · have e2 : decide (nd.from_ ≤ nd.to_) = true := by simpa using h2
            obtain ⟨q, hq⟩ : ∃ q, decide (nd.to_ ≤ 4096) = q := ⟨_, rfl⟩
            have HR2 := hide (show nodeB nd = q from by rw [unhide HR, e1, e2, hq]; simp)
            clear h1 h2
            go_wp2_with fail
            go_ret
            exact ⟨by rw [unhide HR2]; rfl, unhide HB3⟩
          · have e2 : decide (nd.from_ ≤ nd.to_) = false := by simpa using h2
            have HR2 := hide (show nodeB nd = false from by rw [unhide HR, e1, e2]; simp)
            clear h1 h2
            go_wp2_with fail
            go_ret
            exact ⟨by rw [unhide HR2]; rfl, unhide HB3⟩
        · have e1 : decide (0 ≤ nd.from_) = false := by simpa using h1
          have HR2 := hide (show nodeB nd = false from by rw [unhide HR, e1]; simp)
          clear h1
          go_wp2_with fail
          go_ret
          exact ⟨by rw [unhide HR2]; rfl, unhide HB3⟩
  · have HR := hide (show nodeB nd = false from by unfold nodeB; rw [decide_eq_false hk]; rfl)
    by_cases h1 : nd.kind < 1
    · have k1 : decide (nd.kind < 1) = true := by simpa using h1
      clear hk h1 hT hS hb0
      go_enter Tryd.func19, Tryd.ntmps19
      go_wp2_with fail
      go_ret
      exact ⟨by rw [unhide HR]; rfl, unhide HB0⟩
    · have k1 : decide (nd.kind < 1) = false := by simpa using h1
      have k2 : decide (10 < nd.kind) = true := by simp; omega
      clear hk h1 hT hS hb0
      go_enter Tryd.func19, Tryd.ntmps19
      go_wp2_with fail
      go_ret
      exact ⟨by rw [unhide HR]; rfl, unhide HB0⟩

set_option maxRecDepth 100000 in
set_option maxHeartbeats 1000000 in
/-- **Right's closure** -/
theorem wrong_any (nd : Nd) (S K : Option Addr) (cs ck : Nat) (w : World) (hT : Fm w) (hs : nd.set.length ≤ 8796093021952) (hcs : nd.set.length ≤ cs) (hS : Lst w w.heap.size S nd.set) :
    Calls Tryd.prog 18 #[.agg #[.int .i64 nd.kind, .int .i64 nd.from_, .int .i64 nd.to_, .int .i64 nd.num, .int .i64 nd.mn, .int .i64 nd.mx, .int .i64 nd.mode, str nd.name, .slice S nd.set.length cs, .slice K nd.kids.length ck]] w fun e w' => e = .returned (.bool (!nodeB nd)) ∧ Below w.heap.size w w' := by
  have hb0 : Below w.heap.size w (w.alloc (.cells #[.int .i64 nd.kind, .int .i64 nd.from_, .int .i64 nd.to_, .int .i64 nd.num, .int .i64 nd.mn, .int .i64 nd.mx, .int .i64 nd.mode, str nd.name, .slice S nd.set.length cs, .slice K nd.kids.length ck] 42)) := (Below.refl _ _).alloc (Nat.le_refl _) _
  have C := hide (node_any nd S K cs ck (w.alloc (.cells #[.int .i64 nd.kind, .int .i64 nd.from_, .int .i64 nd.to_, .int .i64 nd.num, .int .i64 nd.mn, .int .i64 nd.mx, .int .i64 nd.mode, str nd.name, .slice S nd.set.length cs, .slice K nd.kids.length ck] 42)) (hT.below hb0 (Nat.le_refl _)) hs hcs ((hS.below hb0).more hb0.size))
  have HB0 := hide hb0
  generalize nodeB nd = q at *
  clear hb0 hT hS
  go_enter Tryd.func18, Tryd.ntmps18
  go_wp2_with fail
  refine (unhide C).mono ?_
  rintro e w2 ⟨rfl, hb2⟩
  have HB2 := hide ((unhide HB0).trans (hb2.mono (unhide HB0).size))
  clear C hb2
  cases q with
  | true =>
    go_wp2_with fail
    go_ret
    exact ⟨rfl, unhide HB2⟩
  | false =>
    go_wp2_with fail
    go_ret
    exact ⟨rfl, unhide HB2⟩

def XRel (l : List Nd) (w : World) (i : Value) (wr : World) : Prop := ∃ k : Nat, i = .int .i64 k ∧ k ≤ l.length ∧ (∀ (j : Nat) nd, j < k → l[j]? = some nd → nodeB nd = true) ∧ Below w.heap.size w wr
def IdxPost (l : List Nd) (w : World) (e : Ending) (w' : World) : Prop := ∃ z : Int, e = .returned (.int .i64 z) ∧ decide (0 ≤ z) = (!l.all nodeB) ∧ Below w.heap.size w w'
set_option maxRecDepth 100000 in
set_option maxHeartbeats 4000000 in
/-- **IndexFunc** -/
theorem index_any (l : List Nd) (A : Option Addr) (ca B : Nat) (w : World) (hB : B ≤ w.heap.size) (hT : Fm w) (hset : ∀ nd ∈ l, nd.set.length ≤ 8796093021952) (hl : NodesV w B l (.slice A l.length ca)) :
    Calls Tryd.prog 32 #[.slice A l.length ca, .func (.func 18) #[] #[]] w (IdxPost l w) := by
  obtain ⟨A', ca', e1, hl1, hl2, hln⟩ := hl
  simp only [Value.slice.injEq, true_and] at e1
  obtain ⟨rfl, rfl⟩ := e1
  have HLN := hide hln
  have HT := hide hT
  have HS := hide hset
  clear hln hT hset
  go_enter Tryd.func32, Tryd.ntmps32
  go_wp2_with fail
  go_loopw [8] (fun i wr => XRel l w i wr) (fun i _ => l.length - (intOf i).toNat)
  case atStart => exact ⟨0, rfl, by omega, fun j _ hj => absurd hj (by omega), Below.refl _ _⟩
  case round =>
    obtain ⟨k, rfl, hk, heq, hb⟩ := hrel
    go_hideQ
    have HEQ := hide heq
    have HB := hide hb
    have hsz := hb.size
    clear heq hb
    by_cases hlt : k < l.length
    · have hka : (k : Int) < (l.length : Int) := by omega
      obtain ⟨nd, ha⟩ : ∃ r, l[k]? = some r := ⟨_, List.getElem?_eq_getElem hlt⟩
      obtain ⟨ba, oa, rfl, hba, hca⟩ := (unhide HLN) (by omega)
      obtain ⟨h0, h1, h2, h3, h4, h5, h6, h7, ⟨v8, h8, S, cs, rfl, hs1, hs2, hsa⟩, v9, h9, K, ck, rfl, hk1, hk2, hka9⟩ := hca k nd ha
      have up : ∀ j u, w.cell? ⟨ba, oa + k * 10 + j, none⟩ = some u → wr.cell? ⟨ba, oa + k * 10 + j, none⟩ = some u := fun j u h => ((unhide HB).cell (p := ⟨ba, oa + k * 10 + j, none⟩) (by show ba < w.heap.size; omega)).trans h
      have d0 : wr.cell? ⟨ba, oa + k * 10, none⟩ = some (.int .i64 nd.kind) := up 0 _ h0
      have d1 := up 1 _ h1
      have d2 := up 2 _ h2
      have d3 := up 3 _ h3
      have d4 := up 4 _ h4
      have d5 := up 5 _ h5
      have d6 := up 6 _ h6
      have d7 := up 7 _ h7
      have d8 := up 8 _ h8
      have d9 := up 9 _ h9
      have C := hide (wrong_any nd S K cs ck wr ((unhide HT).below (unhide HB) (Nat.le_refl _)) ((unhide HS) nd (List.mem_of_getElem? ha)) hs1 ((hsa.keep fun p hp => (unhide HB).cell (by omega)).more (by omega)))
      have HA := hide ha
      obtain ⟨q, hq⟩ : ∃ q, nodeB nd = q := ⟨_, rfl⟩
      rw [hq] at C
      have HQ := hide hq
      clear ha hca hsa hka9 up h0 h1 h2 h3 h4 h5 h6 h7 h8 h9 hba hq
      cases q with
      | true =>
        go_wp2_with fail
        refine (unhide C).mono ?_
        rintro e w5 ⟨rfl, hb5⟩
        have hR : XRel l w (.int .i64 ((k : Int) + 1)) w5 := by
          refine ⟨k + 1, by go_num, by omega, fun j x hj hx => ?_, (unhide HB).trans (hb5.mono hsz)⟩
          rcases Nat.lt_or_ge j k with h | h
          · exact (unhide HEQ) j x h hx
          · obtain rfl : j = k := by omega
            obtain rfl := Option.some.inj ((unhide HA).symm.trans hx)
            exact unhide HQ
        have HRR := hide hR
        clear C hb5 hR
        go_wp2_with fail
        have hR := unhide HRR
        go_roundw
        case rel => exact hR
        case measure => simp [intOf]; omega
      | false =>
        have HR := hide (show (!l.all nodeB) = true from by
          rw [Bool.not_eq_true', Bool.eq_false_iff, ne_eq]
          intro h
          have := List.all_eq_true.1 h nd (List.mem_of_getElem? (unhide HA))
          rw [unhide HQ] at this
          cases this)
        go_wp2_with fail
        refine (unhide C).mono ?_
        rintro e w5 ⟨rfl, hb5⟩
        have HB5 := hide ((unhide HB).trans (hb5.mono hsz))
        clear C hb5
        go_wp2_with fail
        go_ret
        exact ⟨k, rfl, by rw [unhide HR]; simp, unhide HB5⟩
    · have hka : (l.length : Int) ≤ (k : Int) := by omega
      have HR := hide (show (!l.all nodeB) = false from by
        rw [Bool.not_eq_false', List.all_eq_true]
        intro x hx
        obtain ⟨j, hj, rfl⟩ := List.mem_iff_getElem.1 hx
        exact (unhide HEQ) j _ (by omega) (List.getElem?_eq_getElem hj))
      clear hlt
      go_wp2_with fail
      go_ret
      exact ⟨-1, rfl, by rw [unhide HR]; rfl, unhide HB⟩

set_option maxHeartbeats 1000000 in
/-- **ContainsFunc** -/
theorem contains_any (l : List Nd) (A : Option Addr) (ca B : Nat) (w : World) (hB : B ≤ w.heap.size) (hT : Fm w) (hset : ∀ nd ∈ l, nd.set.length ≤ 8796093021952) (hl : NodesV w B l (.slice A l.length ca)) :
    Calls Tryd.prog 20 #[.slice A l.length ca, .func (.func 18) #[] #[]] w fun e w' => e = .returned (.bool (!l.all nodeB)) ∧ Below w.heap.size w w' := by
  have C := hide (index_any l A ca B w hB hT hset hl)
  unfold IdxPost at C
  clear hT hset hl
  go_enter Tryd.func20, Tryd.ntmps20
  go_wp2_with fail
  refine (unhide C).mono ?_
  rintro e w1 ⟨z, rfl, hz, hb⟩
  have HB := hide hb
  clear C hb
  go_wp2_with fail
  go_ret
  exact ⟨rfl, unhide HB⟩
end Go.Proofs.YtckgbalmpddblaaDoor.As
