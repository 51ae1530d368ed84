/-
  TextHolds: anything holds at any place just if the document says so: the given statement, its row and its card.
-/
import Derived.Test.YtdeaaidbmneplaaDoorMTxLaw
import Derived.Test.YtdeaaidbmneplaaDoorMTxRHold
import Derived.Test.YtdeaaidbmneplaaDoorMLdA
set_option linter.unusedSimpArgs false
set_option linter.unusedVariables false
namespace Go.Proofs.YtdeaaidbmneplaaDoor.Tx
open Go.RowKit Go.Proofs.YtdeaaidbmneplaaDoor.Mem Go.Proofs.YtdeaaidbmneplaaDoor.Sy
attribute [local go_sem] Go.Proofs.YtdeaaidbmneplaaDoor.Rs.run_not_true Go.Proofs.YtdeaaidbmneplaaDoor.Rs.run_not_false
set_option maxHeartbeats 1000000 in
theorem holds_big (A : Option Addr) (cap n : Nat) (x k : Int) (w : World) (hG : Tl w) (h : 5000 < (n : Int)) :
    Calls Tryd.prog 5 #[.slice A n cap, .int .i64 x, .int .i64 k] w fun e w' => e = .returned (.bool true) ∧ Below w.heap.size w w' := by
  go_enter Tryd.func5, Tryd.ntmps5
  go_wp2_with fail
  refine (anchor_any w hG).mono ?_
  rintro e w1 ⟨rfl, hB⟩
  go_wp2
  go_ret
  exact ⟨rfl, hB⟩
set_option maxRecDepth 100000 in
set_option maxHeartbeats 4000000 in
theorem holds_small (A : Option Addr) (cap : Nat) (bs : List UInt8) (x k : Int) (w : World) (hG : Tl w) (hP : BV bs A cap w) (h : (bs.length : Int) ≤ 5000) :
    Calls Tryd.prog 5 #[.slice A bs.length cap, .int .i64 x, .int .i64 k] w fun e w' => e = .returned (.bool true) ∧ Below w.heap.size w w' := by
  have HV := hide hP
  have HT := hide hG
  clear hP hG
  go_enter Tryd.func5, Tryd.ntmps5
  go_wp2_with fail
  refine (anchor_any w (unhide HT)).mono ?_
  rintro e w1 ⟨rfl, hB⟩
  have HB1 := hide hB
  have HV1 := hide ((unhide HV).below hB)
  have HT1 := hide ((unhide HT).below hB)
  clear hB HV HT
  go_wp2_with fail
  refine (new_bv (unhide HV1) (unhide HT1) (by omega)).mono ?_
  rintro e w2 ⟨A1, c1, rfl, hs1, hB⟩
  have hX := hB.alloc hB.size (.cells #[.slice A1 (symsZ bs).length c1] 26)
  have HB2 := hide ((unhide HB1).trans (hX.mono (unhide HB1).size))
  have HV2 := hide ((unhide HV1).below hX)
  have HT2 := hide ((unhide HT1).below hX)
  have HS2 := hide (hs1.below (below_box _ (.cells #[.slice A1 (symsZ bs).length c1] 26)))
  have HK2 := hide (Blk.new w2 26 #[.slice A1 (symsZ bs).length c1])
  clear hs1 hB hX HB1 HV1 HT1
  go_wp2_with fail
  generalize w2.alloc (.cells #[.slice A1 (symsZ bs).length c1] 26) = X2 at *
  refine (all_bv (unhide HV2) (by omega)).mono ?_
  rintro e w3 ⟨A2, c2, u3, rfl, hs2, hB⟩
  have HL := hide (show LW bs A cap (symsZ bs) A1 c1 w2.heap.size A2 c2 w w3 from ⟨(unhide HV2).below hB, (unhide HS2).below hB, hs2, (unhide HT2).below hB, (unhide HK2).below hB (unhide HK2).lt, (unhide HB2).trans (hB.mono (unhide HB2).size)⟩)
  have HSA := hide (all_syms bs)
  have d3 := (unhide HL).b1.cell 0
  clear hs2 hB HB2 HV2 HT2 HS2 HK2
  have CH := hide (hold_any (k := k) x (unhide HL).s1 (unhide HL).tl)
  go_wp2_with fail
  refine (unhide CH).mono ?_
  rintro e w4 ⟨rfl, hB⟩
  have HL4 := hide ((unhide HL).below hB)
  have CR := hide (rhold_any (k := k) x (unhide HL4).s2)
  clear hB CH HL d3
  go_wp2_with fail
  refine (unhide CR).mono ?_
  rintro e w5 ⟨rfl, hB⟩
  have HB5 := hide ((unhide HL4).below hB).bel
  clear hB CR HL4
  generalize holdZ (symsZ bs) x k = q at *
  cases q with
  | true =>
    go_wp2
    go_ret
    exact ⟨rfl, unhide HB5⟩
  | false =>
    go_wp2
    go_ret
    exact ⟨rfl, unhide HB5⟩
theorem walkHolds (A : Option Addr) (cap : Nat) (bs : List UInt8) (x k : Int) (w : World) (hG : Tl w) (hP : BV bs A cap w) (hx : -9223372036854775808 ≤ x ∧ x ≤ 9223372036854775807) (hk : -9223372036854775808 ≤ k ∧ k ≤ 9223372036854775807) :
    Calls Tryd.prog 5 #[.slice A bs.length cap, .int .i64 x, .int .i64 k] w fun e w' => e = .returned (.bool true) ∧ Below w.heap.size w w' := by
  by_cases h : 5000 < (bs.length : Int)
  · exact holds_big A cap bs.length x k w hG h
  · exact holds_small A cap bs x k w hG hP (by omega)
end Go.Proofs.YtdeaaidbmneplaaDoor.Tx
namespace Go.Proofs.YtdeaaidbmneplaaDoor.TxLawHolds
open Go.ChangeShapes Go.WideShapes Go.ChangeAt Go.RowKit Go.ChangeMaps Go.Proofs.YtdeaaidbmneplaaDoor.Tx
set_option maxRecDepth 100000 in
theorem lifted (os : Os) (started : os.Started) (H : Type) (enc : TypeId × Value → H) :
    ReturnsInHanded {} Tryd.checked os 5 .any (fun w args => (Rows.textHoldsSpec.pre enc Tryd.prog Tryd.f5 [] false w args ∧ laidMetH Tryd.prog list w) ∧ sizedMet enc Tryd.prog Tryd.f5 (OpenSpec.ofChange Rows.textHoldsSpec) false w args)
      (Rows.textHoldsSpec.post enc Tryd.prog Tryd.f5 false true false false) := by
  refine bothG list Tl (fun _ h => tl_of h) started (by kernel_rfl) Tryd.func5
    (ChangeSpec.witness_shaped (enc := enc) (C := Tryd.checked) (os := os) (X := fun w _ => laidMetH Tryd.prog list w) false (World.laidAll Tryd.prog os list) #[.slice none 0 0, .int .i64 0, .int .i64 0] 8 (World.laidAll_os _ _ _)
      (World.shaped_of_ZipB (by kernel_rfl) (by kernel_rfl)) (by kernel_rfl) (by kernel_rfl) (by kernel_rfl)
      (by rw [MakeChecks.laidMetH_plain _ _ _ (by kernel_rfl)]; exact laidMet_laidAll _ (by kernel_rfl) (by kernel_rfl))) ?_
  intro W base args ds gs before hval0 hW hGl
  have hval : ∀ (j : Nat) t v, Tryd.f5.params[j]? = some t → args[j]? = some v → Value.okWide Tryd.prog W .any base t v := hval0
  have hW' := hW
  obtain ⟨p, q, hA0, hV, rfl, hfz, hnd⟩ := hW
  have hA : DataW.TrodAll enc Tryd.prog W 0 (fun _ => true) true Tryd.f5.params.toList args.toList ds p := hA0
  rw [Tryd.params5] at hA hval
  obtain ⟨v0, vs0, d0, ds0, p0, q0, hargs, rfl, rfl, h0, r0⟩ := trodAll_cons hA
  obtain ⟨v1, vs1, d1, ds1, p1, q1, rfl, rfl, rfl, h1, r1⟩ := trodAll_cons r0
  obtain ⟨v2, vs2, d2, ds2, p2, q2, rfl, rfl, rfl, h2, r2⟩ := trodAll_cons r1
  obtain ⟨rfl, rfl, rfl⟩ := trodAll_nil r2
  obtain rfl : args = #[v0, v1, v2] := by cases args; simp_all
  obtain ⟨rfl, rfl⟩ := trodVars_none hV
  obtain ⟨a0, len0, cap0, rfl⟩ := okWide_slice Tryd.underlying22 (hval 0 22 v0 rfl rfl)
  have k0 := h0
  have lt0 : ∀ x ∈ p0, x.block < W.heap.size := by obtain ⟨m, hm⟩ := k0; exact DataW.trod_lt m _ _ _ hm
  obtain ⟨z0, w0⟩ : ∃ zs, Laid.IsRow .u8 W a0 len0 cap0 zs := by
    obtain ⟨fuel, hf⟩ := h0
    rcases open_ints Tryd.underlying22 Tryd.underlying5 (by kernel_rfl) hf with ⟨hcs, _⟩ | ⟨x, l, c, zs, hcs, _, hl, hm, hz, _, hcell, hwz⟩
    · simp [Value.cells] at hcs
      obtain ⟨rfl, rfl, rfl⟩ := hcs
      exact ⟨[], .inl ⟨rfl, rfl, rfl, rfl⟩⟩
    · simp [Value.cells] at hcs
      obtain ⟨rfl, rfl, rfl⟩ := hcs
      exact ⟨zs, .inr ⟨x, rfl, hl, hm, hz, hcell, hwz⟩⟩
  obtain ⟨bs0, rfl, hl0, hm0, hr0⟩ := Laid.bytes_of w0
  obtain ⟨x1, rfl, rfl, rfl, w1⟩ := open_int Tryd.underlying3 (hval 1 3 v1 rfl rfl) h1
  obtain ⟨x2, rfl, rfl, rfl, w2⟩ := open_int Tryd.underlying3 (hval 2 3 v2 rfl rfl) h2
  clear hA0 hval0
  simp only [List.append_nil, List.nil_append] at hW'
  refine (walkHolds a0 cap0 bs0 x1 x2 W hGl ⟨hl0, hm0, hr0⟩ (Laid.int_of w1) (Laid.int_of w2)).mono fun e W' ⟨he, bel⟩ => ?_
  subst he
  exact ⟨_, rfl, _, _, _, [], _, [], hW', trodAll_mk1 (shut_bool Tryd.underlying4 _), (trodAll_cons_mk (Below.trod laidOut (by kernel_rfl) (of_decide_eq_true (by kernel_rfl)) k0 bel lt0) (trodAll_cons_mk (shut_int Tryd.underlying3 w1) (trodAll_cons_mk (shut_int Tryd.underlying3 w2) trodAll_mk0))), rfl, bel.frame _, fun h => by cases h⟩
theorem said : Rows.TextHoldsSaid :=
  OpenClaim.holds_of_wide 5 Tryd.f5 rfl rfl rfl rfl rfl rfl rfl ⟨rfl, rfl, rfl, rfl, rfl⟩ rfl rfl rfl rfl rfl (by kernel_rfl) Tryd.func5 (by kernel_rfl)
    (of_decide_eq_true (by kernel_rfl)) (by unfold Func.isWrapper; first | (rw [if_pos (by decide +kernel)]; kernel_rfl) | (rw [if_neg (by decide +kernel)]; exact ⟨rfl, rfl⟩))
    (fun os started H enc _ => lifted os started H enc)
theorem plain (f : FuncId) (fn : Func) (hf : Tryd.pinned.checked.prog.funcNamed "clew/clewlaw13.TextHolds" = some f) (hfn : Tryd.pinned.checked.prog.funcs[f]? = some fn) :
    false = Tryd.pinned.checked.prog.looks [] ∧ ∀ (j : Nat) t, fn.params[j]? = some t → Tryd.pinned.checked.prog.wantsStandIn t = false := by
  obtain rfl : f = 5 := Option.some.inj ((show Tryd.prog.funcNamed "clew/clewlaw13.TextHolds" = some 5 by kernel_rfl).symm.trans hf) |>.symm
  obtain rfl : fn = Tryd.f5 := (Option.some.inj (Tryd.func5.symm.trans hfn)).symm
  refine ⟨by kernel_rfl, fun j t ht => ?_⟩
  rw [Tryd.params5] at ht
  have hm : t ∈ [22, 3, 3] := by simpa using Array.mem_of_getElem? ht
  have hall : ([22, 3, 3].all fun u => !Tryd.prog.wantsStandIn u) = true := by kernel_rfl
  exact (show Tryd.prog.wantsStandIn t = false by simpa using List.all_eq_true.1 hall t hm)
theorem card : Rows.TextHoldsCardSaid :=
  Claim7.holds_tied_plain_at .later [] _ _ _ _ said (fun _ h => by cases h) (by kernel_rfl) (fun _ h => by cases h) textHolds_row_tie rfl ⟨rfl, rfl⟩ (by kernel_rfl) rfl plain (by kernel_rfl)
end Go.Proofs.YtdeaaidbmneplaaDoor.TxLawHolds
