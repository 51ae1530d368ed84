/-
  TextIn: the symbol behind any place is in any set just if the document says so: the given statement, its row and its card.
-/
import Derived.Test.YtdeaaidbmneplaaDoorMTxLaw
import Derived.Test.YtdeaaidbmneplaaDoorMTxPart
import Derived.Test.YtdeaaidbmneplaaDoorMRsRefHas
import Derived.Test.YtdeaaidbmneplaaDoorMLdA
import Derived.Test.YtdeaaidbmneplaaDoorMRsOpen
set_option linter.unusedSimpArgs false
set_option linter.unusedVariables false
namespace Go.Proofs.YtdeaaidbmneplaaDoor.Tx
open Go.RowKit Go.Proofs.YtdeaaidbmneplaaDoor.Mem Go.Proofs.YtdeaaidbmneplaaDoor.Sy
attribute [local go_sem] Go.Proofs.YtdeaaidbmneplaaDoor.Rs.run_not_true Go.Proofs.YtdeaaidbmneplaaDoor.Rs.run_not_false
theorem info_ref : (Tryd.prog.info? 45).map (fun i => (i.zero, i.size, i.bytes)) = some (some (.agg #[.int .i64 0, .int .i64 0]), 2, 16) := by kernel_rfl
def CutR (w : World) (l : List Rs.R) (v : Value) (w' : World) : Prop := w'.ownsRow w.heap.size 45 2 v l.length (Rs.flat l) ∧ Below w.heap.size w w'
def ORel (l : List Rs.R) (w : World) (v i : Value) (wr : World) : Prop := ∃ k : Nat, i = .int .i64 k ∧ k ≤ l.length ∧ CutR w (l.take k) v wr
set_option maxHeartbeats 1000000 in
theorem in_big1 (A B : Option Addr) (cap n m c : Nat) (k : Int) (w : World) (hG : Tl w) (h : 2000 < (n : Int)) :
    Calls Tryd.prog 6 #[.slice A n cap, .int .i64 k, .slice B m c] w fun e w' => e = .returned (.bool true) ∧ Below w.heap.size w w' := by
  go_enter Tryd.func6, Tryd.ntmps6
  go_wp2_with fail
  refine (anchor_any w hG).mono ?_
  rintro e w1 ⟨rfl, hB⟩
  go_wp2
  go_ret
  exact ⟨rfl, hB⟩
set_option maxHeartbeats 1000000 in
theorem in_big2 (A B : Option Addr) (cap n m c : Nat) (k : Int) (w : World) (hG : Tl w) (h : (n : Int) ≤ 2000) (h2 : 50 < (m : Int)) :
    Calls Tryd.prog 6 #[.slice A n cap, .int .i64 k, .slice B m c] w fun e w' => e = .returned (.bool true) ∧ Below w.heap.size w w' := by
  have d1 : decide (2000 < (n : Int)) = false := by rw [decide_eq_false_iff_not]; omega
  have d2 : decide (50 < (m : Int)) = true := decide_eq_true h2
  go_enter Tryd.func6, Tryd.ntmps6
  go_wp2_with fail
  refine (anchor_any w hG).mono ?_
  rintro e w1 ⟨rfl, hB⟩
  go_wp2
  go_ret
  exact ⟨rfl, hB⟩
set_option maxRecDepth 100000 in
set_option maxHeartbeats 4000000 in
theorem in_small (A B : Option Addr) (cap c : Nat) (bs : List UInt8) (s : List Rs.R) (k : Int) (w : World) (hG : Tl w) (hP : BV bs A cap w) (h : (bs.length : Int) ≤ 2000) (h2 : (s.length : Int) ≤ 50) (h3 : Rs.Lst w w.heap.size B s) :
    Calls Tryd.prog 6 #[.slice A bs.length cap, .int .i64 k, .slice B s.length c] w fun e w' => e = .returned (.bool true) ∧ Below w.heap.size w w' := by
  have HV := hide hP
  have HT := hide hG
  clear hP hG
  have HLS := hide h3
  have d1 : decide (2000 < (bs.length : Int)) = false := by rw [decide_eq_false_iff_not]; omega
  have d2 : decide (50 < (s.length : Int)) = false := by rw [decide_eq_false_iff_not]; omega
  clear h3
  go_enter Tryd.func6, Tryd.ntmps6
  go_wp2_with fail
  refine (anchor_any w (unhide HT)).mono ?_
  rintro e w1 ⟨rfl, hB⟩
  have HB1 := hide hB
  have HV1 := hide ((unhide HV).below hB)
  have HT1 := hide ((unhide HT).below hB)
  clear hB HV HT
  go_wp2_with fail
  refine (new_bv (unhide HV1) (unhide HT1) (by omega)).mono ?_
  rintro e w2 ⟨A1, c1, rfl, hs1, hB⟩
  have hX := hB.alloc hB.size (.cells #[.slice A1 (symsZ bs).length c1] 26)
  have HB2 := hide ((unhide HB1).trans (hX.mono (unhide HB1).size))
  have HV2 := hide ((unhide HV1).below hX)
  have HT2 := hide ((unhide HT1).below hX)
  have HS2 := hide (hs1.below (below_box _ (.cells #[.slice A1 (symsZ bs).length c1] 26)))
  have HK2 := hide (Blk.new w2 26 #[.slice A1 (symsZ bs).length c1])
  clear hs1 hB hX HB1 HV1 HT1
  go_wp2_with fail
  generalize w2.alloc (.cells #[.slice A1 (symsZ bs).length c1] 26) = X2 at *
  refine (all_bv (unhide HV2) (by omega)).mono ?_
  rintro e w3 ⟨A2, c2, u3, rfl, hs2, hB⟩
  have HL := hide (show LW bs A cap (symsZ bs) A1 c1 w2.heap.size A2 c2 w w3 from ⟨(unhide HV2).below hB, (unhide HS2).below hB, hs2, (unhide HT2).below hB, (unhide HK2).below hB (unhide HK2).lt, (unhide HB2).trans (hB.mono (unhide HB2).size)⟩)
  have HLS3 := hide (((unhide HLS).below (unhide HL).bel).more (unhide HL).bel.size)
  have d3 := (unhide HL).b1.cell 0
  clear hs2 hB HB2 HV2 HT2 HS2 HK2
  go_wp2_with fail
  go_loopw [11, 37] (fun v i wr => ORel s w3 v i wr) (fun _ i _ => s.length - (intOf i).toNat)
  case atStart => exact ⟨0, rfl, Nat.zero_le _, World.ownsRow_nil _ _ _ _, Below.refl _ _⟩
  case round =>
    obtain ⟨j, rfl, hk, hrow⟩ := hrel
    by_cases hlt : j < s.length
    · obtain ⟨b, off, rfl, hb, hc⟩ := (unhide HLS3) (by omega)
      obtain ⟨r, hr⟩ : ∃ r, s[j]? = some r := ⟨_, List.getElem?_eq_getElem hlt⟩
      have c1 : wr.cell? ⟨b, off + j * 2, none⟩ = some (.int .i64 r.1) := (hrow.2.cell (p := ⟨b, off + j * 2, none⟩) hb).trans (hc j r hr).1
      have c2 : wr.cell? ⟨b, off + j * 2 + 1, none⟩ = some (.int .i64 r.2) := (hrow.2.cell (p := ⟨b, off + j * 2 + 1, none⟩) hb).trans (hc j r hr).2
      have hlt' : (j : Int) < (s.length : Int) := by omega
      have htk : s.take (j + 1) = s.take j ++ [r] := by
        have e : s[j] = r := by simpa [List.getElem?_eq_getElem hlt] using hr
        rw [List.take_succ_eq_append_getElem hlt, e]
      have hcut : CutR w3 (s.take j) u11 (wr.alloc (.cells #[.int .i64 r.1, .int .i64 r.2] 44)) := ⟨hrow.1.alloc _, Rs.below_al hrow.2 hrow.2.size _⟩
      have hl2 : (s.take j).length ≤ j := List.length_take_le _ _
      have hmx : (s.take j).length + 1 ≤ maxLen := by unfold maxLen; omega
      have hone : ∀ u ∈ (#[.int .i64 r.1, .int .i64 r.2] : Array Value).toList, u.oneCell' = true := by simp [Value.oneCell']
      have hwz := hrow.2.size
      have hpl : (s.take j).length = j := by rw [List.length_take]; omega
      clear hrow hr hc
      generalize s.take j = pre at *
      have HTK := hide htk
      have HCUT := hide hcut
      clear htk hcut d3
      obtain ⟨i0, hi, hz0, hz1, hz2⟩ := info_parts info_ref
      go_wp2_with (at_builtin; refine wpList_append_any _ rfl (.tmp 41) (.tmp 43) 42 rfl w3.heap.size 45 i0 (.agg #[.int .i64 0, .int .i64 0]) 2 16 Tryd.underlying42 hi hz0 hz1 hz2 rfl (by decide) _ pre.length _ rfl ((unhide HCUT).1.alloc _) _ _ 1 1 _ rfl (Rs.reads_at (by rw [World.size_alloc]) #[.int .i64 r.1, .int .i64 r.2] 45 1 2 rfl) hone hmx (by omega) (by rw [World.size_alloc, World.size_alloc]; omega) ?_; intro v5 w5 ho5 hg5 hn5; have HO5 := hide ho5; have HG5 := hide hg5; clear ho5 hg5 hn5)
      first | go_roundw | refine ⟨⟨_, _, _, _, ?rel, rfl, rfl, rfl, rfl⟩, ?measure⟩ | refine ⟨⟨_, _, _, ?rel, rfl, rfl, rfl⟩, ?measure⟩
      case rel =>
        refine ⟨j + 1, by go_num, by omega, ?_⟩
        rw [unhide HTK]
        exact ⟨by rw [Rs.flat_append, List.length_append]; exact unhide HO5, Rs.below_app (unhide HCUT).2 (unhide HCUT).1 (unhide HG5)⟩
      case measure => simp [intOf]; omega
    · obtain rfl : j = s.length := by omega
      rw [List.take_length] at hrow
      obtain ⟨A4, c4, rfl, hlst, -⟩ := Rs.own_lst2 hrow.1
      have HL4 := hide ((unhide HL).below hrow.2)
      have HLS4 := hide (((unhide HLS3).below hrow.2).more hrow.2.size)
      have HM4 := hide hlst
      have d4 := (unhide HL4).b1.cell 0
      have CA := hide (rat_any (symsZ bs) A2 c2 k wr (unhide HL4).s2)
      clear hrow hlst d3
      go_wp2_with fail
      refine (unhide CA).mono ?_
      rintro e wq ⟨rfl, hwq⟩
      obtain rfl : _ = wq := hwq.symm
      have CI := hide (in_any s B c k (unhide HL4).s1 (by omega) (unhide HLS4))
      obtain ⟨y, hy⟩ : ∃ y, atZ (symsZ bs) k = y := ⟨_, rfl⟩
      rw [hy] at CI
      rw [hy]
      clear hy
      go_wp2_with fail
      refine (unhide CI).mono ?_
      rintro e w6 ⟨rfl, hB⟩
      have HL6 := hide ((unhide HL4).below hB)
      have HM6 := hide (((unhide HM4).below hB).more hB.size)
      clear hB CI CA d4
      by_cases h0 : 0 ≤ y
      · have CH := hide (Rs.refHas_any s y A4 c4 w6 (by omega) (unhide HM6))
        have e0 : decide (0 ≤ y) = true := decide_eq_true h0
        have e1 : decide (y < 0) = false := by rw [decide_eq_false_iff_not]; omega
        clear h0
        go_wp2_with fail
        refine (unhide CH).mono ?_
        rintro e wq ⟨rfl, hwq⟩
        obtain rfl : _ = wq := hwq.symm
        clear CH
        generalize Rs.hasL s y = q at *
        cases q with
        | true =>
          go_wp2
          go_ret
          exact ⟨rfl, (unhide HL6).bel⟩
        | false =>
          go_wp2
          go_ret
          exact ⟨rfl, (unhide HL6).bel⟩
      · have hout := Rs.has_out (l := s) (x := y) (.inl (by omega))
        rw [hout]
        have e0 : decide (0 ≤ y) = false := decide_eq_false h0
        have e1 : y < 0 := by omega
        clear h0 hout
        go_wp2
        go_ret
        exact ⟨rfl, (unhide HL6).bel⟩
theorem walkIn (A B : Option Addr) (cap c : Nat) (bs : List UInt8) (s : List Rs.R) (k : Int) (w : World) (hG : Tl w) (hP : BV bs A cap w) (h3 : Rs.Lst w w.heap.size B s) :
    Calls Tryd.prog 6 #[.slice A bs.length cap, .int .i64 k, .slice B s.length c] w fun e w' => e = .returned (.bool true) ∧ Below w.heap.size w w' := by
  by_cases h : 2000 < (bs.length : Int)
  · exact in_big1 A B cap bs.length s.length c k w hG h
  · by_cases h2 : 50 < (s.length : Int)
    · exact in_big2 A B cap bs.length s.length c k w hG (by omega) h2
    · exact in_small A B cap c bs s k w hG hP (by omega) (by omega) h3
end Go.Proofs.YtdeaaidbmneplaaDoor.Tx
namespace Go.Proofs.YtdeaaidbmneplaaDoor.TxLawIn
open Go.ChangeShapes Go.WideShapes Go.ChangeAt Go.RowKit Go.ChangeMaps Go.Proofs.YtdeaaidbmneplaaDoor.Tx
set_option maxRecDepth 100000 in
theorem lifted (os : Os) (started : os.Started) (H : Type) (enc : TypeId × Value → H) :
    ReturnsInHanded {} Tryd.checked os 6 .any (fun w args => (Rows.textInSpec.pre enc Tryd.prog Tryd.f6 [] false w args ∧ laidMetH Tryd.prog list w) ∧ sizedMet enc Tryd.prog Tryd.f6 (OpenSpec.ofChange Rows.textInSpec) false w args)
      (Rows.textInSpec.post enc Tryd.prog Tryd.f6 false true false false) := by
  refine bothG list Tl (fun _ h => tl_of h) started (by kernel_rfl) Tryd.func6
    (ChangeSpec.witness_shaped (enc := enc) (C := Tryd.checked) (os := os) (X := fun w _ => laidMetH Tryd.prog list w) false (World.laidAll Tryd.prog os list) #[.slice none 0 0, .int .i64 0, .slice none 0 0] 8 (World.laidAll_os _ _ _)
      (World.shaped_of_ZipB (by kernel_rfl) (by kernel_rfl)) (by kernel_rfl) (by kernel_rfl) (by kernel_rfl)
      (by rw [MakeChecks.laidMetH_plain _ _ _ (by kernel_rfl)]; exact laidMet_laidAll _ (by kernel_rfl) (by kernel_rfl))) ?_
  intro W base args ds gs before hval0 hW hGl
  have hval : ∀ (j : Nat) t v, Tryd.f6.params[j]? = some t → args[j]? = some v → Value.okWide Tryd.prog W .any base t v := hval0
  have hW' := hW
  obtain ⟨p, q, hA0, hV, rfl, hfz, hnd⟩ := hW
  have hA : DataW.TrodAll enc Tryd.prog W 0 (fun _ => true) true Tryd.f6.params.toList args.toList ds p := hA0
  rw [Tryd.params6] at hA hval
  obtain ⟨v0, vs0, d0, ds0, p0, q0, hargs, rfl, rfl, h0, r0⟩ := trodAll_cons hA
  obtain ⟨v1, vs1, d1, ds1, p1, q1, rfl, rfl, rfl, h1, r1⟩ := trodAll_cons r0
  obtain ⟨v2, vs2, d2, ds2, p2, q2, rfl, rfl, rfl, h2, r2⟩ := trodAll_cons r1
  obtain ⟨rfl, rfl, rfl⟩ := trodAll_nil r2
  obtain rfl : args = #[v0, v1, v2] := by cases args; simp_all
  obtain ⟨rfl, rfl⟩ := trodVars_none hV
  obtain ⟨a0, len0, cap0, rfl⟩ := okWide_slice Tryd.underlying22 (hval 0 22 v0 rfl rfl)
  have k0 := h0
  have lt0 : ∀ x ∈ p0, x.block < W.heap.size := by obtain ⟨m, hm⟩ := k0; exact DataW.trod_lt m _ _ _ hm
  obtain ⟨z0, w0⟩ : ∃ zs, Laid.IsRow .u8 W a0 len0 cap0 zs := by
    obtain ⟨fuel, hf⟩ := h0
    rcases open_ints Tryd.underlying22 Tryd.underlying5 (by kernel_rfl) hf with ⟨hcs, _⟩ | ⟨x, l, c, zs, hcs, _, hl, hm, hz, _, hcell, hwz⟩
    · simp [Value.cells] at hcs
      obtain ⟨rfl, rfl, rfl⟩ := hcs
      exact ⟨[], .inl ⟨rfl, rfl, rfl, rfl⟩⟩
    · simp [Value.cells] at hcs
      obtain ⟨rfl, rfl, rfl⟩ := hcs
      exact ⟨zs, .inr ⟨x, rfl, hl, hm, hz, hcell, hwz⟩⟩
  obtain ⟨bs0, rfl, hl0, hm0, hr0⟩ := Laid.bytes_of w0
  obtain ⟨x1, rfl, rfl, rfl, w1⟩ := open_int Tryd.underlying3 (hval 1 3 v1 rfl rfl) h1
  obtain ⟨a2, len2, cap2, rfl⟩ := okWide_slice Tryd.underlying41 (hval 2 41 v2 rfl rfl)
  have k2 := h2
  have lt2 : ∀ x ∈ p2, x.block < W.heap.size := by obtain ⟨m, hm⟩ := k2; exact DataW.trod_lt m _ _ _ hm
  obtain ⟨l2, rfl, hl2, hm2, hb2, hr2⟩ := Rs.ranges_of h2
  clear hA0 hval0
  simp only [List.append_nil, List.nil_append] at hW'
  refine (walkIn a0 a2 cap0 cap2 bs0 l2 x1 W hGl ⟨hl0, hm0, hr0⟩ hr2).mono fun e W' ⟨he, bel⟩ => ?_
  subst he
  exact ⟨_, rfl, _, _, _, [], _, [], hW', trodAll_mk1 (shut_bool Tryd.underlying4 _), (trodAll_cons_mk (Below.trod laidOut (by kernel_rfl) (of_decide_eq_true (by kernel_rfl)) k0 bel lt0) (trodAll_cons_mk (shut_int Tryd.underlying3 w1) (trodAll_cons_mk (Below.trod laidOut (by kernel_rfl) (of_decide_eq_true (by kernel_rfl)) k2 bel lt2) trodAll_mk0))), rfl, bel.frame _, fun h => by cases h⟩
theorem said : Rows.TextInSaid :=
  OpenClaim.holds_of_wide 6 Tryd.f6 rfl rfl rfl rfl rfl rfl rfl ⟨rfl, rfl, rfl, rfl, rfl⟩ rfl rfl rfl rfl rfl (by kernel_rfl) Tryd.func6 (by kernel_rfl)
    (of_decide_eq_true (by kernel_rfl)) (by unfold Func.isWrapper; first | (rw [if_pos (by decide +kernel)]; kernel_rfl) | (rw [if_neg (by decide +kernel)]; exact ⟨rfl, rfl⟩))
    (fun os started H enc _ => lifted os started H enc)
theorem plain (f : FuncId) (fn : Func) (hf : Tryd.pinned.checked.prog.funcNamed "clew/clewlaw13.TextIn" = some f) (hfn : Tryd.pinned.checked.prog.funcs[f]? = some fn) :
    false = Tryd.pinned.checked.prog.looks [] ∧ ∀ (j : Nat) t, fn.params[j]? = some t → Tryd.pinned.checked.prog.wantsStandIn t = false := by
  obtain rfl : f = 6 := Option.some.inj ((show Tryd.prog.funcNamed "clew/clewlaw13.TextIn" = some 6 by kernel_rfl).symm.trans hf) |>.symm
  obtain rfl : fn = Tryd.f6 := (Option.some.inj (Tryd.func6.symm.trans hfn)).symm
  refine ⟨by kernel_rfl, fun j t ht => ?_⟩
  rw [Tryd.params6] at ht
  have hm : t ∈ [22, 3, 41] := by simpa using Array.mem_of_getElem? ht
  have hall : ([22, 3, 41].all fun u => !Tryd.prog.wantsStandIn u) = true := by kernel_rfl
  exact (show Tryd.prog.wantsStandIn t = false by simpa using List.all_eq_true.1 hall t hm)
theorem card : Rows.TextInCardSaid :=
  Claim7.holds_tied_plain_at .later [] _ _ _ _ said (fun _ h => by cases h) (by kernel_rfl) (fun _ h => by cases h) textIn_row_tie rfl ⟨rfl, rfl⟩ (by kernel_rfl) rfl plain (by kernel_rfl)
end Go.Proofs.YtdeaaidbmneplaaDoor.TxLawIn
