/-
  The program's named, walked: the groups stand as they are numbered, and the names are theirs. Conditions: the tree lies in memory.
-/
import Derived.Test.YtckgbalmpddblaaDoorAsEq
import Derived.Test.YtckgbalmpddblaaDoorAsOf
import Derived.RangeFuncBox
set_option linter.unusedVariables false
set_option linter.unusedSimpArgs false
namespace Go.Proofs.YtckgbalmpddblaaDoor.As
open Go.RowKit Go.Proofs.YtckgbalmpddblaaDoor.Mem Go.Proofs.YtckgbalmpddblaaDoor.Rs

/-- the names that the groups tell, if they are numbered as they stand -/
def nmsOf : List Nd → List (List UInt8) → Option (List (List UInt8))
  | [], acc => some acc
  | nd :: l, acc => if nd.kind = 7 then (if nd.num = (acc.length : Int) then nmsOf l (acc ++ [nd.name]) else none) else nmsOf l acc
def namedB (t : Tr) : Bool := match nmsOf t.nodes [[]] with
  | some names => decide (t.groups = (names.length : Int) - 1) && decide (t.names = names)
  | none => false
theorem nmsOf_drop {l : List Nd} {k : Nat} {nd : Nd} (h : l[k]? = some nd) (acc : List (List UInt8)) : nmsOf (l.drop k) acc = if nd.kind = 7 then (if nd.num = (acc.length : Int) then nmsOf (l.drop (k + 1)) (acc ++ [nd.name]) else none) else nmsOf (l.drop (k + 1)) acc := by
  obtain ⟨hk, rfl⟩ := List.getElem?_eq_some_iff.1 h
  rw [List.drop_eq_getElem_cons hk, nmsOf]
theorem info_str : (Tryd.prog.info? 9).map (fun i => (i.zero, i.size, i.bytes)) = some (some (.string ⟨#[]⟩), 1, 16) := by kernel_rfl
theorem one_str (l : List UInt8) : ∀ u ∈ (#[str l] : Array Value).toList, u.oneCell' = true := by simp [Value.oneCell']
def MRel (t : Tr) (w W : World) (v i : Value) (wr : World) : Prop := ∃ (k : Nat) (acc : List (List UInt8)), i = .int .i64 k ∧ k ≤ t.nodes.length ∧ acc.length ≤ k + 1 ∧ 1 ≤ acc.length ∧ nmsOf (t.nodes.drop k) acc = nmsOf t.nodes [[]] ∧ wr.ownsRow W.heap.size 9 1 v acc.length (acc.map str) ∧ Below W.heap.size W wr
theorem names_at {w : World} {base : Nat} {v : Value} {l : List (List UInt8)} (h : w.ownsRow base 9 1 v l.length (l.map str)) : ∃ A cap, v = .slice A l.length cap ∧ l.length ≤ cap ∧ cap ≤ 9223372036854775807 ∧ NmsAt w A l := by
  rcases h.2 with ⟨rfl, hx⟩ | ⟨g, cap, cur, rfl, hb, hh, hnc, hcm, hcs, ht⟩
  · refine ⟨none, 0, by rw [hx], by omega, by omega, fun hn => by omega⟩
  · refine ⟨some ⟨g, 0, none⟩, cap, rfl, hnc, by unfold maxLen at hcm; omega, fun hn => ⟨g, 0, rfl, fun k s hs => ?_⟩⟩
    obtain ⟨ad, he, hlt, hc⟩ := (Reads.of_own h).2 hn
    cases he
    have := hc k (str s) (by rw [List.getElem?_map, hs]; rfl)
    rwa [add_flat] at this
set_option maxRecDepth 100000 in
set_option maxHeartbeats 4000000 in
/-- **named** -/
theorem named_any (t : Tr) (v : Value) (B : Nat) (w : World) (hB : B ≤ w.heap.size) (hlen : t.nodes.length ≤ 100000) (hT : TreeV w B t v) :
    Calls Tryd.prog 22 #[v] w fun e w' => e = .returned (.bool (namedB t)) ∧ Below w.heap.size w w' := by
  obtain ⟨av, cv, rfl, ⟨A, cap, rfl, hc1, hc2, hn⟩, hns⟩ := hT
  obtain ⟨C, cc, rfl, -⟩ := id hns
  obtain ⟨i0, hi, hz0, hz1, hz2⟩ := info_parts info_str
  have HNS := hide hns
  have HN := hide hn
  have hb0 : Below w.heap.size w (w.alloc (.cells #[.slice A t.nodes.length cap, .int .i64 t.groups, .slice C t.names.length cc] 25)) := (Below.refl _ _).alloc (Nat.le_refl _) _
  have HB0 := hide hb0
  have bT := Blk.new w 25 #[.slice A t.nodes.length cap, .int .i64 t.groups, .slice C t.names.length cc]
  have HBT := hide bT
  clear hn hns hb0 bT
  go_enter Tryd.func22, Tryd.ntmps22
  go_wp2_with fail
  have ho0 : ((w.alloc (.cells #[.slice A t.nodes.length cap, .int .i64 t.groups, .slice C t.names.length cc] 25)).alloc (.cells #[.string ⟨#[]⟩] 9)).ownsRow (w.alloc (.cells #[.slice A t.nodes.length cap, .int .i64 t.groups, .slice C t.names.length cc] 25)).heap.size 9 1 (.slice (some ⟨w.heap.size + 1, 0, none⟩) 1 1) 1 [.string ⟨#[]⟩] := by
    rw [← World.size_alloc w (.cells #[.slice A t.nodes.length cap, .int .i64 t.groups, .slice C t.names.length cc] 25)]
    exact ⟨rfl, .inr ⟨_, 1, #[.string ⟨#[]⟩], rfl, Nat.le_refl _, World.alloc_heap_new _ _, Nat.le_refl _, by unfold maxLen; omega, rfl, rfl⟩⟩
  go_loopw [3, 10] (fun x i wr => MRel t w (w.alloc (.cells #[.slice A t.nodes.length cap, .int .i64 t.groups, .slice C t.names.length cc] 25)) x i wr) (fun _ i _ => t.nodes.length - (intOf i).toNat)
  case atStart => exact ⟨0, [[]], rfl, by omega, by simp, by simp, by simp, ho0, (Below.refl _ _).alloc (Nat.le_refl _) _⟩
  case round =>
    obtain ⟨k, acc, rfl, hk, ha1, ha2, hnm, ho, hb⟩ := hrel
    obtain ⟨m, hm⟩ : ∃ m, acc.length = m + 1 := ⟨acc.length - 1, by omega⟩
    obtain ⟨g, vc, rfl⟩ := ownsRow_succ (k := m) (by rw [← hm]; exact ho)
    go_hideQ
    have HO := hide ho
    have HB := hide hb
    have HNM := hide hnm
    have hbw : Below w.heap.size w wr := (unhide HB0).trans (hb.mono (by simp))
    have HBW := hide hbw
    have hsz : w.heap.size + 1 ≤ wr.heap.size := by have := hb.size; simpa using this
    have bT := (unhide HBT).below hb (by simp)
    clear ho hb hnm ho0 hbw
    by_cases hlt : k < t.nodes.length
    · have hka : (k : Int) < (t.nodes.length : Int) := by omega
      obtain ⟨nd, ha⟩ : ∃ r, t.nodes[k]? = some r := ⟨_, List.getElem?_eq_getElem hlt⟩
      obtain ⟨ba, oa, rfl, hba, hca⟩ := (unhide HN) (by omega)
      obtain ⟨h0, h1, h2, h3, h4, h5, h6, h7, ⟨v8, h8, S, cs, rfl, hs1, hs2, hsa⟩, v9, h9, K, ck, rfl, hk1, hk2, hka9⟩ := hca k nd ha
      have up : ∀ j u, w.cell? ⟨ba, oa + k * 10 + j, none⟩ = some u → wr.cell? ⟨ba, oa + k * 10 + j, none⟩ = some u := fun j u h => ((unhide HBW).cell (p := ⟨ba, oa + k * 10 + j, none⟩) (by show ba < w.heap.size; omega)).trans h
      have d0 : wr.cell? ⟨ba, oa + k * 10, none⟩ = some (.int .i64 nd.kind) := up 0 _ h0
      have d1 := up 1 _ h1
      have d2 := up 2 _ h2
      have d3 := up 3 _ h3
      have d4 := up 4 _ h4
      have d5 := up 5 _ h5
      have d6 := up 6 _ h6
      have d7 := up 7 _ h7
      have d8 := up 8 _ h8
      have d9 := up 9 _ h9
      have hdrop := nmsOf_drop ha acc
      have HA := hide ha
      have hmx : acc.length + 1 ≤ maxLen := by unfold maxLen; omega
      have hml : (acc.length : Int) = (m : Int) + 1 := by omega
      clear ha hca hsa hka9 up h0 h1 h2 h3 h4 h5 h6 h7 h8 h9 hba bT
      by_cases hkd : nd.kind = 7
      · have e1 : (nd.kind != 7) = false := by simp [hkd]
        rw [if_pos hkd] at hdrop
        by_cases hnum : nd.num = (m : Int) + 1
        · have e2 : (nd.num != (m : Int) + 1) = false := by simp [hnum]
          rw [if_pos (by omega)] at hdrop
          have HD := hide (hdrop.symm.trans (unhide HNM))
          clear hkd hnum hdrop
          go_wp2_with (at_builtin; refine wpList_append_any _ rfl (.tmp 22) (.tmp 25) 23 rfl (w.alloc (.cells #[.slice (some ⟨ba, oa, none⟩) t.nodes.length cap, .int .i64 t.groups, .slice C t.names.length cc] 25)).heap.size 9 i0 (.string ⟨#[]⟩) 1 16 Tryd.underlying23 hi hz0 hz1 hz2 rfl (by decide) _ acc.length _ rfl (((unhide HO).alloc _).alloc _) _ _ 1 1 _ rfl (reads_at (by rw [World.size_alloc]) #[str nd.name] 9 1 1 rfl) (one_str nd.name) hmx (by omega) (by rw [World.size_alloc, World.size_alloc, World.size_alloc]; omega) ?_; intro v5 w5 ho5 hg5 hn5; have hb5 := below_app (below_al (unhide HB) (unhide HB).size _) ((unhide HO).alloc _) hg5; have HO5 := hide ho5; have HB5 := hide hb5; clear ho5 hg5 hn5 hb5)
          have hR : MRel t w (w.alloc (.cells #[.slice (some ⟨ba, oa, none⟩) t.nodes.length cap, .int .i64 t.groups, .slice C t.names.length cc] 25)) v5 (.int .i64 ((k : Int) + 1)) w5 := by
            refine ⟨k + 1, acc ++ [nd.name], by go_num, by omega, by simp; omega, by simp, unhide HD, ?_, unhide HB5⟩
            rw [List.length_append, List.map_append]
            exact unhide HO5
          go_roundw
          case rel => exact hR
          case measure => simp [intOf]; omega
        · have e2 : (nd.num != (m : Int) + 1) = true := by simp [hnum]
          rw [if_neg (by omega)] at hdrop
          have HR := hide (show namedB t = false from by unfold namedB; rw [← unhide HNM, hdrop])
          clear hkd hnum hdrop
          go_wp2_with fail
          go_ret
          exact ⟨by rw [unhide HR]; rfl, (unhide HBW).alloc (unhide HBW).size _⟩
      · have e1 : (nd.kind != 7) = true := by simp [hkd]
        rw [if_neg hkd] at hdrop
        have HD := hide (hdrop.symm.trans (unhide HNM))
        clear hkd hdrop
        go_wp2_with fail
        have hR : MRel t w (w.alloc (.cells #[.slice (some ⟨ba, oa, none⟩) t.nodes.length cap, .int .i64 t.groups, .slice C t.names.length cc] 25)) (.slice (some ⟨g, 0, none⟩) (m + 1) vc) (.int .i64 ((k : Int) + 1)) (wr.alloc (.cells #[.int .i64 nd.kind, .int .i64 nd.from_, .int .i64 nd.to_, .int .i64 nd.num, .int .i64 nd.mn, .int .i64 nd.mx, .int .i64 nd.mode, str nd.name, .slice S nd.set.length cs, .slice K nd.kids.length ck] 42)) :=
          ⟨k + 1, acc, by go_num, by omega, by omega, ha2, unhide HD, (unhide HO).alloc _, (unhide HB).alloc (unhide HB).size _⟩
        go_roundw
        case rel => exact hR
        case measure => simp [intOf]; omega
    · have hka : (t.nodes.length : Int) ≤ (k : Int) := by omega
      obtain rfl : k = t.nodes.length := by omega
      have hfin := unhide HNM
      rw [List.drop_length, nmsOf] at hfin
      have HNB := hide (show namedB t = (decide (t.groups = (acc.length : Int) - 1) && decide (t.names = acc)) from by unfold namedB; rw [← hfin])
      obtain ⟨n1, n2, n3⟩ : NmsAt wr C t.names ∧ t.names.length ≤ cc ∧ cc ≤ 9223372036854775807 := by
        obtain ⟨C', cc', e, p1, p2, p3⟩ := (unhide HNS).keep fun p hp => (unhide HBW).cell (by omega)
        simp only [Value.slice.injEq, true_and] at e
        obtain ⟨rfl, rfl⟩ := e
        exact ⟨fun hn => by obtain ⟨b, off, e, _, hc⟩ := p3 hn; exact ⟨b, off, e, hc⟩, p1, p2⟩
      obtain ⟨A2, cap2, e2, q1, q2, q3⟩ := names_at (unhide HO)
      rw [hm] at e2
      simp only [Value.slice.injEq, true_and] at e2
      obtain ⟨rfl, rfl⟩ := e2
      obtain ⟨q, hq⟩ : ∃ q, decide (t.names = acc) = q := ⟨_, rfl⟩
      have CE := hide (eqS_any t.names acc C (some ⟨g, 0, none⟩) cc vc wr n2 n3 q1 q2 n1 q3 q hq)
      rw [hm] at CE
      have c1 := bT.cell 1
      have c2 := bT.cell 2
      have HQ := hide hq
      have hgz : (acc.length : Int) - 1 = (m : Int) := by omega
      clear hfin n1 q3 bT hq hlt
      by_cases hg : t.groups = (m : Int)
      · have d0 : (t.groups == (m : Int)) = true := by simp [hg]
        have HR := hide (show namedB t = q from by rw [unhide HNB, unhide HQ, hgz, decide_eq_true hg, Bool.true_and])
        clear hg hgz
        go_wp2_with fail
        refine (unhide CE).mono ?_
        rintro e w3 hh
        obtain ⟨rfl, hb3⟩ := hh.below
        have HB3 := hide ((unhide HBW).trans (hb3.mono (unhide HBW).size))
        clear hh hb3 CE
        go_wp2_with fail
        go_ret
        exact ⟨by rw [unhide HR]; rfl, unhide HB3⟩
      · have d0 : (t.groups == (m : Int)) = false := by simp [hg]
        have HR := hide (show namedB t = false from by rw [unhide HNB, hgz, decide_eq_false hg, Bool.false_and])
        clear hg hgz
        go_wp2_with fail
        go_ret
        exact ⟨by rw [unhide HR]; rfl, unhide HBW⟩
end Go.Proofs.YtckgbalmpddblaaDoor.As
