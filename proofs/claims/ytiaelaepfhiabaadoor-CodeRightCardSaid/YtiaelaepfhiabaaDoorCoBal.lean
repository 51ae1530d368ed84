/-
  code.balanced, walked. Conditions: at most 1000 instructions, one at least, that lie in memory, and lead to places that are there.
-/
import Derived.Test.YtiaelaepfhiabaaDoorCoBalRel
import Derived.RegionTactic
import Derived.Laws.Slices
import Derived.Lib.Walk
import Derived.StillTailTactics
set_option linter.unusedVariables false
set_option linter.unusedSimpArgs false
namespace Go.Proofs.YtiaelaepfhiabaaDoor.Co
open Go.RowKit Go.Maps Go.Proofs.YtiaelaepfhiabaaDoor.Mem Go.Proofs.YtiaelaepfhiabaaDoor.Rs
attribute [local go_sem] run_not_true run_not_false

/-- so it stands ahead of each round -/
def BRel (l : List In) (v1 v2 v3 v4 : Value) (w : World) (v : Value) (wr : World) : Prop := ∃ D L st, wr.ownsMap Tryd.prog 3 (plainElem (H := Unit) Tryd.prog 3) (w.heap.size + 1) L.length D ∧ Tie D L ∧
  wr.ownsRow (w.heap.size + 2) 3 1 v st.length (ints st) ∧ Inv l L st none ∧ Below w.heap.size w wr ∧ Blk wr w.heap.size 26 #[v1, v2, v3, v4] ∧ 2 * U l.length L + st.length ≤ 2 * l.length

theorem hblkd {W : World} {b : Nat} {v1 v2 v3 v4 : Value} (h : Blk W b 26 #[v1, v2, v3, v4]) : W.drew.cell? ⟨b, 0, none⟩ = some v1 ∧ W.drew.cell? ⟨b, 1, none⟩ = some v2 ∧ W.drew.cell? ⟨b, 2, none⟩ = some v3 ∧ W.drew.cell? ⟨b, 3, none⟩ = some v4 := ⟨h.drew.cell 0, h.drew.cell 1, h.drew.cell 2, h.drew.cell 3⟩
theorem own_lt {W : World} {base e n g m cap : Nat} {xs : List Value} (h : W.ownsRow base e 1 (.slice (some ⟨g, 0, none⟩) m cap) n xs) : g < W.heap.size := by
  rcases h.2 with ⟨e, _⟩ | ⟨g', cap', cur, e, _, hh, _⟩
  · cases e
  · injection e with e; injection e with e; injection e with e; subst e; exact (Array.getElem?_eq_some_iff.1 hh).1
theorem tie_at {D : DataW Unit} {L : List (Int × Int)} (h : Tie D L) {k n0 n : Int} (hk : look L k = some n0) (hat : D.atKey (li k) (.lit (.int .i64 0)) = .lit (.int .i64 n)) : n = n0 := by
  have := (h.2.2 k).2
  rw [hk] at this
  rw [this] at hat
  injection hat with e; injection e with _ e; exact e.symm
theorem row6 {wr w6 : World} {e : Nat} {o o2 : Obj} {v : Value} {n : Nat} {xs : List Value} {b : Nat} (h : wr.ownsRow (b + 2) e 1 v n xs) (g : (wr.alloc o).grownBy w6 (some (b + 1))) : (w6.alloc o2).ownsRow (b + 2) e 1 v n xs := by
  refine own_below ?_ (below_al (Below.refl _ _) (Nat.le_refl _) _)
  rcases h.2 with ⟨rfl, hn⟩ | ⟨g', cap, cur, rfl, hb, hh, hc⟩
  · exact ⟨h.1, .inl ⟨rfl, hn⟩⟩
  · have hlt : g' < wr.heap.size := (Array.getElem?_eq_some_iff.1 hh).1
    exact ⟨h.1, .inr ⟨g', cap, cur, rfl, hb, (g.block g' (by simp; omega) (fun e => by injection e; omega)).trans ((Below.heap_alloc wr o g' hlt).trans hh), hc⟩⟩
theorem wrap64_id {j : Nat} (h : j ≤ 1000) : wrap64 ((j : Int) + 1) = ((j + 1 : Nat) : Int) := by
  have := wrap_id ((j : Int) + 1) (by omega) (by omega)
  rw [← IntWalk.i64_left, this]
  simp
theorem mea_lt {j : Nat} {S : List (Int × Int)} (h : j < S.length) (hw : wrap64 ((j : Int) + 1) = ((j + 1 : Nat) : Int)) : S.length - (intOf (.int .i64 (wrap64 ((j : Int) + 1)))).toNat < S.length - (intOf (.int .i64 (j : Int))).toNat := by
  rw [hw]
  simp only [intOf, Int.toNat_natCast]
  omega
theorem IR.out {l : List In} {a : Nat} {m : Int} {S : List (Int × Int)} {M : Nat} {A5 : Option Addr} {v1 v2 v3 v4 : Value} {w : World} {v : Value} {j : Nat} {L : List (Int × Int)} {st : List Int} {D : DataW Unit} {wr : World} {i : In} (h : IR l a m S M A5 #[v1, v2, v3, v4] w v j L st D wr) (hj : (S.length : Int) ≤ (j : Int)) (hi : l[a]? = some i) (hb : bearsB i.op m = true) (hS : S = stepsP i a m) (hM : M ≤ 2 * l.length) :
    BRel l v1 v2 v3 v4 w v wr ∧ 2 * (l.length - mapLen wr (w.heap.size + 1)) + lenOf v ≤ M := by
  refine ⟨⟨D, L, st, h.map, h.tie, h.row, inv_close h.inv h.la hi hb (fun s hs => ?_), h.be, h.blk, Nat.le_trans h.mea hM⟩, ?_⟩
  · rw [← hS] at hs
    obtain ⟨q, hq, rfl⟩ := List.getElem_of_mem hs
    exact h.done q _ (by omega) (List.getElem?_eq_getElem hq)
  · obtain ⟨A, cap, rfl, -, -⟩ := own_reads h.row
    rw [mapLen_own h.map, h.tie.2.1]
    have h1 := h.inv.cnt
    have h2 := h.mea
    show 2 * (l.length - L.length) + st.length ≤ M
    omega
theorem out_lt {l : List In} {L : List (Int × Int)} {D : DataW Unit} {x k cap : Nat} {wr : World} {b g4 : Nat} (hm : wr.ownsMap Tryd.prog 3 (plainElem (H := Unit) Tryd.prog 3) b L.length D) (ht : Tie D L) (hc : U l.length L + L.length = l.length) (hx : x ≤ 2 * U l.length L + k) : x < 2 * (l.length - mapLen wr b) + lenOf (.slice (some ⟨g4, 0, none⟩) (k + 1) cap) := by
  rw [mapLen_own hm, ht.2.1]
  show x < 2 * (l.length - L.length) + (k + 1)
  omega
theorem steps_len (i : In) (a : Nat) (m : Int) : (stepsP i a m).length ≤ 3 := by
  unfold stepsP
  repeat' split
  all_goals simp
theorem ins_drew {w wr : World} {A : Option Addr} {l : List In} (h : Ins w w.heap.size A l) (hb : Below w.heap.size w wr) : Ins wr.drew wr.drew.heap.size A l := (h.below (below_drewN hb 1)).more hb.size
set_option maxRecDepth 100000 in
set_option maxHeartbeats 4000000 in
theorem balanced_any (l : List In) (As Al A : Option Addr) (c ns cs nk ck : Nat) (g : Int) (w : World) (hl : l.length ≤ 1000) (hpos : 0 < l.length) (hwf : Wf l) (h : Ins w w.heap.size A l) :
    Calls Tryd.prog 16 #[.agg #[.slice A l.length c, .slice As ns cs, .slice Al nk ck, .int .i64 g]] w fun e w' => ∃ q, e = .returned (.bool q) ∧ (q = true ↔ Good l) ∧ Below w.heap.size w w' := by
  have HI := hide h
  have HWF := hide hwf
  have HL := hide (And.intro hl hpos)
  have HM0 := hide (show ((w.alloc (.cells #[.slice A l.length c, .slice As ns cs, .slice Al nk ck, .int .i64 g] 26)).alloc (.map #[] 0)).ownsMap Tryd.prog 3 (plainElem (H := Unit) Tryd.prog 3) (w.heap.size + 1) 0 (.map []) from by
    have := World.ownsMap_made (w.alloc (.cells #[.slice A l.length c, .slice As ns cs, .slice Al nk ck, .int .i64 g] 26)) Tryd.prog 3 (plainElem (H := Unit) Tryd.prog 3)
    simpa using this)
  clear h hwf hl hpos
  have hmm := @run_makeMap Tryd.prog
  go_enter Tryd.func16, Tryd.ntmps16
  go_wp2_with (first
    | (refine wpList_insert_own _ rfl _ _ _ 60 rfl 3 3 lawI Tryd.underlying60 _ (w.heap.size + 1) 0 _ rfl (unhide HM0) (by unfold maxLen; omega) _ _ _ rfl rfl (keyI (k := 0) (by omega) (by omega)) _ [] (elemI (k := 0) (by omega) (by omega)) ?_; intro w1 hown1 hgrow1)
    | go_in)
  have HM1 := hide hown1
  have HG1 := hide hgrow1
  clear hown1 hgrow1
  go_loopw [4] (fun v wr => BRel l (.slice A l.length c) (.slice As ns cs) (.slice Al nk ck) (.int .i64 g) w v wr) (fun v wr => 2 * (l.length - mapLen wr (w.heap.size + 1)) + lenOf v)
  case atStart =>
    have hb1 := (below_al (below_al (Below.refl w.heap.size w) (Nat.le_refl _) (.cells #[.slice A l.length c, .slice As ns cs, .slice Al nk ck, .int .i64 g] 26)) (by simp) (.map #[] 0)).grown (unhide HG1) (by simp; omega) (fun j hj => by injection hj; omega)
    have hs1 : w.heap.size + 2 ≤ w1.heap.size := by have := (unhide HG1).size; simp at this; omega
    refine ⟨_, [(0, 0)], [0], (unhide HM1).alloc _, tie_put tie_nil 0 0 rfl, own_one rfl hs1, inv_start (unhide HL).2, below_al hb1 hb1.size _, ?_, ?_⟩
    rotate_left
    · have h1 := (inv_start (l := l) (unhide HL).2).cnt
      have h2 := (unhide HL).2
      simp only [List.length_cons, List.length_nil] at h1 ⊢
      omega
    exact (((Blk.new w _ _).alloc _).grown (unhide HG1) (by simp)).alloc _
  case round =>
    obtain ⟨D, L, st, hmap, htie, hown, hinv, hbe, hblk, hmea⟩ := hrel
    rcases st.eq_nil_or_concat with rfl | ⟨st0, a, rfl⟩
    · simp only [List.length_nil] at hown
      obtain ⟨A4, cap, rfl, hr4, hc4⟩ := own_reads hown
      have HE := hide (And.intro (inv_end hinv) hbe)
      clear hmap htie hown hinv hbe hblk hr4 hmea
      go_wp2
      go_ret
      exact ⟨true, rfl, ⟨fun _ => (unhide HE).1, fun _ => rfl⟩, (unhide HE).2⟩
    · rw [List.concat_eq_append, List.length_append, List.length_singleton] at hown
      rw [List.concat_eq_append] at hinv
      obtain ⟨g4, cap, rfl, hbg, hcap, hcm, hlast, hown0⟩ := own_pop hown
      obtain ⟨m, hm⟩ : ∃ m, look L a = some m := Option.isSome_iff_exists.1 (hinv.inn a (by simp))
      obtain ⟨a, rfl, halt, -, hm0, hmU⟩ := hinv.ok a m hm
      obtain ⟨ia, hia⟩ : ∃ ia, l[a]? = some ia := ⟨l[a], List.getElem?_eq_getElem halt⟩
      obtain ⟨b, off, rfl, hb, hc⟩ := (unhide HI) (by omega)
      have c0 := (hbe.cell (p := ⟨b, off + a * 6, none⟩) hb).trans (hc a ia hia).1
      have x0 := hblk.cell 0
      have hlen := (unhide HL).1
      rw [List.length_concat] at hmea
      have hwk : IntKind.i64.wrap (st0.length : Int) = (st0.length : Int) := wrap_id _ (by omega) (by unfold maxLen at hcm; omega)
      obtain ⟨k, hk⟩ : ∃ k, k = st0.length := ⟨_, rfl⟩
      rw [← hk] at hcap hlast hown0 hwk hown ⊢
      have d1 : decide ((0 : Int) < (k : Int) + 1) = true := decide_eq_true (by omega)
      have d2 : (k : Int) ≤ (cap : Int) := by omega
      have d3 : (k : Int) < (k : Int) + 1 := by omega
      have d4 : (a : Int) < (l.length : Int) := by omega
      have H1 := hide (And.intro hmap (And.intro htie (And.intro hown0 (And.intro hinv (And.intro hbe hblk)))))
      have H2 := hide (And.intro hm (And.intro hia (And.intro hm0 hmU)))
      have H3 := hide (And.intro hc (And.intro hk hbg))
      have H4 := hide (And.intro hmea (hinv.cnt))
      clear hmap htie hown0 hinv hbe hblk hm hia hm0 hmU hc hk hown hbg
      go_wp2_with fail
      obtain ⟨m', hrunD, hat, -⟩ := (unhide H1).1.drew.lookup_int lawI Tryd.underlying60 Tryd.underlying3 (zeroI _) (keyI (k := (a : Int)) (by omega) (by omega))
      have em : m' = m := by
        have := ((unhide H1).2.1.2.2 (a : Int)).2
        rw [(unhide H2).1] at this
        rw [this] at hat
        injection hat with e; injection e with _ e; exact e.symm
      subst em
      refine wp_region_still_lit (by kernel_rfl) (by kernel_rfl) ?_
      iterate 9 still_step
      still_call (bears_any ia.op m' wr.drew)
      still_step
      refine wpStill_nil ?_
      have X0 := hide (hblkd (unhide H1).2.2.2.2.2)
      cases qb : bearsB ia.op m'
      · have HQ := hide (inv_bad (unhide H1).2.2.2.1 (unhide H2).1 (unhide H2).2.1 qb)
        clear qb
        go_wp2_with fail
        go_ret
        exact ⟨false, rfl, ⟨fun e => (by cases e), fun e => absurd e (unhide HQ)⟩, below_drewN (unhide H1).2.2.2.2.1 1⟩
      · have HQ := hide qb
        clear qb
        obtain ⟨x0, x1, x2, x3⟩ := unhide X0
        go_wp2_with fail
        refine (steps_any l As Al _ c ns cs nk ck g m' a wr.drew ia (unhide H2).2.1 (by omega) (unhide H2).2.2.1 (by have := (unhide H2).2.2.2; omega) (ins_drew (unhide HI) (unhide H1).2.2.2.2.1)).mono ?_
        rintro e w5 ⟨A5, cap5, rfl, hS, -, hb5, hf5⟩
        obtain ⟨S, hSd⟩ : ∃ S, S = stepsP ia a m' := ⟨_, rfl⟩
        rw [← hSd] at hS ⊢
        have hbw : Below w.heap.size w w5 := (below_drewN (unhide H1).2.2.2.2.1 1).trans (hb5.mono (unhide H1).2.2.2.2.1.size)
        have hIR : IR l a m' S (2 * U l.length L + k) A5 #[.slice (some ⟨b, off, none⟩) l.length c, .slice As ns cs, .slice Al nk ck, .int .i64 g] w (.slice (some ⟨g4, 0, none⟩) k cap) 0 L st0 D w5 :=
          ⟨Nat.zero_le _, (unhide H1).1.drew.kept (only_of_below hb5 none) (by simp), (unhide H1).2.1, (unhide H3).2.1 ▸ own_below (W := wr.drew) (unhide H1).2.2.1 hb5, inv_pop (unhide H1).2.2.2.1, (unhide H2).1, fun q t h => absurd h (by omega), by rw [(unhide H3).2.1]; exact Nat.le_refl _, hbw, (unhide H1).2.2.2.2.2.drew.below hb5 (unhide H1).2.2.2.2.2.lt, hS, fun ad e => ⟨by have h1 := hf5 ad e; have h2 : (w.heap.size + 1) < wr.heap.size := (unhide H1).1.lt; have h3 : wr.drew.heap.size = wr.heap.size := rfl; omega, fun he => by
            have h1 := hf5 ad e
            have h2 := own_lt (unhide H1).2.2.1
            have h3 : wr.drew.heap.size = wr.heap.size := rfl
            simp [Value.ownBlock] at he
            omega⟩⟩
        have H5 := hide hIR
        have HSd := hide hSd
        have HSl := hide (steps_len ia a m')
        clear hS hb5 hf5 hbw hIR hSd x0 x1 x2 x3
        go_wp2_with fail
        go_loopw [4, 45] (fun v i wq => ∃ (j : Nat) (L' : List (Int × Int)) (st : List Int) (D' : DataW Unit), i = .int .i64 (j : Int) ∧ IR l a m' S (2 * U l.length L + k) A5 #[.slice (some ⟨b, off, none⟩) l.length c, .slice As ns cs, .slice Al nk ck, .int .i64 g] w v j L' st D' wq) (fun _ i _ => S.length - (intOf i).toNat)
        case atStart => exact ⟨0, L, st0, D, rfl, unhide H5⟩
        case round =>
          obtain ⟨j, L', st, D', rfl, hir⟩ := hrel
          go_hideQ
          by_cases hjl : j < S.length
          · obtain ⟨s, hs⟩ : ∃ s, S[j]? = some s := ⟨S[j], List.getElem?_eq_getElem hjl⟩
            obtain ⟨b5, off5, rfl, hb5, hc5⟩ := hir.lst (by omega)
            have e0 := (hc5 j s hs).1
            have e1 := (hc5 j s hs).2
            have hmem : s ∈ stepsP ia a m' := by have := List.mem_of_getElem? hs; rwa [unhide HSd] at this
            have hs01 := (unhide HWF) a ia m' (unhide H2).2.1 s hmem
            have hs2 := steps_near (unhide H2).2.2.1 (unhide HQ) s hmem
            have hl1 := (unhide HL).1
            have hm1 := (unhide H2).2.2.2
            have HK := hide (keyI (k := s.1) (by omega) (by omega))
            have HEL := hide (elemI (k := s.2) (by omega) (by omega))
            have HS := hide (And.intro hs hmem)
            have HIR := hide hir
            clear hs01 hs2 hl1 hm1 hc5 hs hmem
            cases hk : look L' s.1 with
            | some n0 =>
              have hh : Maps.has D' (li s.1) = true := by rw [(hir.tie.2.2 s.1).1, hk]; rfl
              have HKK := hide hk
              clear hk hir
              by_cases hn : n0 = s.2
              · have hn' : (n0 != s.2) = false := by simp [hn]
                have HN := hide hn
                clear hn
                go_wp2_with (first
                  | (at_lookup; refine wpList_lookup_own_ok_int _ rfl _ _ 60 rfl 3 3 .i64 lawI Tryd.underlying60 Tryd.underlying3 (zeroI _) (w.heap.size + 1) L'.length D' rfl ((unhide HIR).map.alloc _) _ _ rfl (unhide HK) ?_; intro n hat hwc; obtain rfl := tie_at (unhide HIR).tie (unhide HKK) hat; clear hat hwc)
                  | fail)
                have hj3 : S.length ≤ 3 := by have h := unhide HSl; rwa [← unhide HSd] at h
                have hj4 := wrap64_id (j := j) (by omega)
                exact ⟨⟨j + 1, L', st, D', by rw [hj4], (unhide HIR).same _ (unhide HS).1 ((unhide HKK).trans (congrArg some (unhide HN)))⟩, mea_lt hjl hj4⟩
              · have hn' : (n0 != s.2) = true := by simp [hn]
                have HN := hide (inv_clash (unhide HIR).inv (unhide HIR).la (unhide H2).2.1 (unhide HQ) (unhide HS).2 (unhide HKK) hn)
                clear hn
                go_wp2_with (first
                  | (at_lookup; refine wpList_lookup_own_ok_int _ rfl _ _ 60 rfl 3 3 .i64 lawI Tryd.underlying60 Tryd.underlying3 (zeroI _) (w.heap.size + 1) L'.length D' rfl ((unhide HIR).map.alloc _) _ _ rfl (unhide HK) ?_; intro n hat hwc; obtain rfl := tie_at (unhide HIR).tie (unhide HKK) hat; clear hat hwc)
                  | fail)
                go_ret
                exact ⟨false, rfl, ⟨fun e => (by cases e), fun e => absurd e (unhide HN)⟩, below_al (unhide HIR).be (unhide HIR).be.size _⟩
            | none =>
              have hh : Maps.has D' (li s.1) = false := by rw [(hir.tie.2.2 s.1).1, hk]; rfl
              have HKK := hide hk
              clear hk hir
              obtain ⟨i0, hi, hz0, hz1, hz2⟩ := info_parts info_int
              go_wp2_with (first
                | (at_lookup; refine wpList_lookup_own_ok_int _ rfl _ _ 60 rfl 3 3 .i64 lawI Tryd.underlying60 Tryd.underlying3 (zeroI _) (w.heap.size + 1) L'.length D' rfl ((unhide HIR).map.alloc _) _ _ rfl (unhide HK) ?_; intro n hat hwc; clear hat hwc)
                | (at_mapUpdate; refine wpList_mapUpdate_own _ rfl _ _ _ 60 rfl 3 3 lawI Tryd.underlying60 _ (w.heap.size + 1) L'.length D' rfl ((unhide HIR).map.alloc _) (by have h1 := (unhide HIR).inv.cnt; have h2 := (unhide HL).1; unfold maxLen; omega) _ _ _ rfl rfl (unhide HK) _ [] (unhide HEL) ?_; intro w6 h6 g6; have z0 := ((Blk.new _ 66 #[.int .i64 s.1, .int .i64 s.2]).grown g6 (by have h1 := (unhide HIR).map.lt; simp; omega)).cell 0; have H6 := hide (And.intro h6 g6); clear h6 g6)
                | (at_builtin; refine wpList_append_any _ rfl (.tmp 70) (.tmp 73) 61 rfl (w.heap.size + 2) 3 i0 (.int .i64 0) 1 8 Tryd.underlying61 hi hz0 hz1 hz2 rfl (by decide) _ st.length _ rfl (row6 (unhide HIR).row (unhide H6).2) _ _ 1 1 _ rfl (reads_at rfl #[.int .i64 s.1] 3 1 1 rfl) (ints_one [s.1]) (by have h1 := (unhide HIR).mea; have h2 := (unhide H4); have h3 := (unhide HL).1; have h4 := (unhide H3).2.1; unfold maxLen; omega) (by have h1 := (unhide HIR).mea; have h2 := (unhide H4); have h3 := (unhide HL).1; have h4 := (unhide H3).2.1; omega) (by have h1 := (unhide HIR).map.lt; have h2 := (unhide H6).2.size; simp at h2 ⊢; omega) ?_; intro v8 w8 h8 g8 n8; have H8 := hide (And.intro h8 (And.intro g8 n8)); clear h8 g8 n8)
                | fail)
              have hj3 : S.length ≤ 3 := by have h := unhide HSl; rwa [← unhide HSd] at h
              have hj4 := wrap64_id (j := j) (by omega)
              exact ⟨⟨j + 1, s :: L', st ++ [s.1], _, by rw [hj4], IR.step (unhide HWF) (unhide H2).2.1 (unhide HQ) (unhide HSd) (unhide HIR) (unhide HS).1 (unhide HKK) (unhide H6).1 (unhide H6).2 (unhide H8).1 (unhide H8).2.1 (unhide H8).2.2⟩, mea_lt hjl hj4⟩
          · have hjn : (S.length : Int) ≤ (j : Int) := by omega
            have HIR := hide hir
            clear hir
            have HO := hide (IR.out (unhide HIR) hjn (unhide H2).2.1 (unhide HQ) (unhide HSd) (by have h1 := (unhide H4).1; have h2 := (unhide H3).2.1; omega))
            clear hjn
            go_wp2_with fail
            exact ⟨(unhide HO).1, out_lt (unhide H1).1 (unhide H1).2.1 (unhide H4).2 (unhide HO).2⟩
end Go.Proofs.YtiaelaepfhiabaaDoor.Co
