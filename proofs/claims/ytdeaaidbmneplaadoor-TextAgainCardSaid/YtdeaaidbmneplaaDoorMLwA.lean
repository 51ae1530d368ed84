/-
  TextAgain: what stands between any two places comes again at any third one just if the document says so: the given statement, its row and its card.
-/
import Derived.Test.YtdeaaidbmneplaaDoorMLdA
import Derived.Test.YtdeaaidbmneplaaDoorMTxLaw
import Derived.Test.YtdeaaidbmneplaaDoorMTxRAgain
set_option linter.unusedSimpArgs false
set_option linter.unusedVariables false
namespace Go.Proofs.YtdeaaidbmneplaaDoor.Tx
section
open Go.ChangeShapes Go.WideShapes Go.ChangeAt Go.RowKit Go.Proofs.YtdeaaidbmneplaaDoor.Mem
theorem c_int : Tryd.prog.cellsOf 3 = 1 := by kernel_rfl
theorem c_spot : Tryd.prog.cellsOf 50 = 4 := by kernel_rfl
theorem int_v {H : Type} {enc : TypeId × Value → H} {W : World} {fuel : Nat} {v : Value} {x : DataW H × List MemPlace} (h : DataW.trod enc Tryd.prog W 0 (fun _ => true) true fuel 3 [v] = some x) : ∃ k : Int, v = .int .i64 k := by
  obtain ⟨z, e, _, w⟩ := DataW.trod_int Tryd.underlying3 h
  exact ⟨z, by simpa using e⟩
set_option maxRecDepth 100000 in
theorem spot_of {H : Type} {enc : TypeId × Value → H} {W : World} {b0 : Nat} {v : Value} {d : DataW H} {p : List MemPlace} (hv : Value.okWide Tryd.prog W .any b0 50 v) (h : DataW.Trod enc Tryd.prog W 0 (fun _ => true) true 50 v d p) :
    ∃ s : Int × Int × Int × Int, v = .agg #[.int .i64 s.1, .int .i64 s.2.1, .int .i64 s.2.2.1, .int .i64 s.2.2.2] := by
  obtain ⟨cs, rfl, hsz⟩ := okWide_struct Tryd.underlying50 hv
  obtain ⟨fuel, hf⟩ := h
  have hl : cs.toList.length = 4 := by rw [Array.length_toList, hsz, c_spot]
  have hf2 : DataW.trod enc Tryd.prog W 0 (fun _ => true) true fuel 50 cs.toList = some (d, p) := by simpa [Value.cells] using hf
  obtain ⟨xs, n', _, hxy, _, hxl, hg⟩ := DataW.trod_struct Tryd.underlying50 hf2
  obtain ⟨l, hcs⟩ : ∃ l, cs.toList = l := ⟨_, rfl⟩
  rw [hcs] at hl hg
  match xs, hxl, l, hl with
  | [y0, y1, y2, y3], _, [v0, v1, v2, v3], _ =>
    have g0 := hg 0 _ rfl
    have g1 := hg 1 _ rfl
    have g2 := hg 2 _ rfl
    have g3 := hg 3 _ rfl
    simp only [c_int, List.getElem?_cons_zero, List.getElem?_cons_succ, List.drop_zero, List.drop_succ_cons, List.take_succ_cons, List.take_zero] at g0 g1 g2 g3
    obtain ⟨k0, rfl⟩ := int_v g0
    obtain ⟨k1, rfl⟩ := int_v g1
    obtain ⟨k2, rfl⟩ := int_v g2
    obtain ⟨k3, rfl⟩ := int_v g3
    exact ⟨(k0, k1, k2, k3), by rw [← hcs]⟩
end
section
open Go.RowKit Go.Proofs.YtdeaaidbmneplaaDoor.Mem Go.Proofs.YtdeaaidbmneplaaDoor.Sy
attribute [local go_sem] Go.Proofs.YtdeaaidbmneplaaDoor.Rs.run_not_true Go.Proofs.YtdeaaidbmneplaaDoor.Rs.run_not_false
set_option maxHeartbeats 1000000 in
theorem again_big (A : Option Addr) (cap n : Nat) (f t a m : Int) (w : World) (hG : Tl w) (h : 2000 < (n : Int)) :
    Calls Tryd.prog 7 #[.slice A n cap, .agg #[.int .i64 f, .int .i64 t, .int .i64 a, .int .i64 m]] w fun e w' => e = .returned (.bool true) ∧ Below w.heap.size w w' := by
  go_enter Tryd.func7, Tryd.ntmps7
  go_wp2_with fail
  have hbs := below_box w (.cells #[.int .i64 f, .int .i64 t, .int .i64 a, .int .i64 m] 50)
  refine (anchor_any _ (hG.below hbs)).mono ?_
  rintro e w1 ⟨rfl, hB⟩
  have HB := hide (hbs.trans (hB.mono hbs.size))
  clear hB hbs
  go_wp2
  go_ret
  exact ⟨rfl, unhide HB⟩
set_option maxRecDepth 100000 in
set_option maxHeartbeats 4000000 in
theorem again_small (A : Option Addr) (cap : Nat) (bs : List UInt8) (f t a m : Int) (w : World) (hG : Tl w) (hP : BV bs A cap w) (h : (bs.length : Int) ≤ 2000) :
    Calls Tryd.prog 7 #[.slice A bs.length cap, .agg #[.int .i64 f, .int .i64 t, .int .i64 a, .int .i64 m]] w fun e w' => e = .returned (.bool true) ∧ Below w.heap.size w w' := by
  have HV := hide hP
  have HT := hide hG
  clear hP hG
  have HKS := hide (Blk.new w 50 #[.int .i64 f, .int .i64 t, .int .i64 a, .int .i64 m])
  have hbs := below_box w (.cells #[.int .i64 f, .int .i64 t, .int .i64 a, .int .i64 m] 50)
  have HVS := hide ((unhide HV).below hbs)
  have HTS := hide ((unhide HT).below hbs)
  have HBS := hide hbs
  clear hbs HV HT
  go_enter Tryd.func7, Tryd.ntmps7
  go_wp2_with fail
  generalize hx0 : w.alloc (.cells #[.int .i64 f, .int .i64 t, .int .i64 a, .int .i64 m] 50) = X0 at *
  have hgl := (unhide HKS).lt
  refine (anchor_any X0 (unhide HTS)).mono ?_
  rintro e w1 ⟨rfl, hB⟩
  have HB1 := hide ((unhide HBS).trans (hB.mono (unhide HBS).size))
  have HV1 := hide ((unhide HVS).below hB)
  have HT1 := hide ((unhide HTS).below hB)
  have HK1 := hide ((unhide HKS).below hB (unhide HKS).lt)
  clear hB HVS HTS HBS HKS
  go_wp2_with fail
  refine (new_bv (unhide HV1) (unhide HT1) (by omega)).mono ?_
  rintro e w2 ⟨A1, c1, rfl, hs1, hB⟩
  have hX := hB.alloc hB.size (.cells #[.slice A1 (symsZ bs).length c1] 26)
  have HKB := hide ((unhide HK1).below hX (unhide HK1).lt)
  have HB2 := hide ((unhide HB1).trans (hX.mono (unhide HB1).size))
  have HV2 := hide ((unhide HV1).below hX)
  have HT2 := hide ((unhide HT1).below hX)
  have HS2 := hide (hs1.below (below_box _ (.cells #[.slice A1 (symsZ bs).length c1] 26)))
  have HK2 := hide (Blk.new w2 26 #[.slice A1 (symsZ bs).length c1])
  clear hs1 hB hX HB1 HV1 HT1
  go_wp2_with fail
  generalize w2.alloc (.cells #[.slice A1 (symsZ bs).length c1] 26) = X2 at *
  refine (all_bv (unhide HV2) (by omega)).mono ?_
  rintro e w3 ⟨A2, c2, u3, rfl, hs2, hB⟩
  have HL := hide (show LW bs A cap (symsZ bs) A1 c1 w2.heap.size A2 c2 w w3 from ⟨(unhide HV2).below hB, (unhide HS2).below hB, hs2, (unhide HT2).below hB, (unhide HK2).below hB (unhide HK2).lt, (unhide HB2).trans (hB.mono (unhide HB2).size)⟩)
  have HKC := hide ((unhide HKB).below hB (unhide HKB).lt)
  have e0 := (unhide HKC).cell 0
  have e1 := (unhide HKC).cell 1
  have e2 := (unhide HKC).cell 2
  have e3 := (unhide HKC).cell 3
  have d3 := (unhide HL).b1.cell 0
  clear hs2 hB HB2 HV2 HT2 HS2 HK2
  have CH := hide (again_any f t a m (unhide HL).s1 (unhide HL).tl)
  go_wp2_with fail
  refine (unhide CH).mono ?_
  rintro e w4 ⟨rfl, hB⟩
  have HL4 := hide ((unhide HL).below hB)
  have HKD := hide ((unhide HKC).below hB (unhide HKC).lt)
  have y0 := (unhide HKD).cell 0
  have y1 := (unhide HKD).cell 1
  have y2 := (unhide HKD).cell 2
  have y3 := (unhide HKD).cell 3
  have CR := hide (ragain_any f t a m (unhide HL4).s2)
  clear hB CH HL d3 e0 e1 e2 e3
  go_wp2_with fail
  refine (unhide CR).mono ?_
  rintro e w5 ⟨rfl, hB⟩
  have HB5 := hide ((unhide HL4).below hB).bel
  clear hB CR HL4 y0 y1 y2 y3
  generalize againZ (symsZ bs) f t a m = q at *
  generalize q.getD 0 = z at *
  generalize q.isSome = b at *
  cases b with
  | true =>
    go_wp2
    go_ret
    exact ⟨rfl, unhide HB5⟩
  | false =>
    go_wp2
    go_ret
    exact ⟨rfl, unhide HB5⟩
theorem walkAgain (A : Option Addr) (cap : Nat) (bs : List UInt8) (f t a m : Int) (w : World) (hG : Tl w) (hP : BV bs A cap w) :
    Calls Tryd.prog 7 #[.slice A bs.length cap, .agg #[.int .i64 f, .int .i64 t, .int .i64 a, .int .i64 m]] w fun e w' => e = .returned (.bool true) ∧ Below w.heap.size w w' := by
  by_cases h : 2000 < (bs.length : Int)
  · exact again_big A cap bs.length f t a m w hG h
  · exact again_small A cap bs f t a m w hG hP (by omega)
end
end Go.Proofs.YtdeaaidbmneplaaDoor.Tx
namespace Go.Proofs.YtdeaaidbmneplaaDoor.TxLawAgain
open Go.ChangeShapes Go.WideShapes Go.ChangeAt Go.RowKit Go.ChangeMaps Go.Proofs.YtdeaaidbmneplaaDoor.Tx
set_option maxRecDepth 100000 in
theorem lifted (os : Os) (started : os.Started) (H : Type) (enc : TypeId × Value → H) :
    ReturnsInHanded {} Tryd.checked os 7 .any (fun w args => (Rows.textAgainSpec.pre enc Tryd.prog Tryd.f7 [] false w args ∧ laidMetH Tryd.prog list w) ∧ sizedMet enc Tryd.prog Tryd.f7 (OpenSpec.ofChange Rows.textAgainSpec) false w args)
      (Rows.textAgainSpec.post enc Tryd.prog Tryd.f7 false true false false) := by
  refine bothG list Tl (fun _ h => tl_of h) started (by kernel_rfl) Tryd.func7
    (ChangeSpec.witness_shaped (enc := enc) (C := Tryd.checked) (os := os) (X := fun w _ => laidMetH Tryd.prog list w) false (World.laidAll Tryd.prog os list) #[.slice none 0 0, .agg #[.int .i64 0, .int .i64 0, .int .i64 0, .int .i64 0]] 8 (World.laidAll_os _ _ _)
      (World.shaped_of_ZipB (by kernel_rfl) (by kernel_rfl)) (by kernel_rfl) (by kernel_rfl) (by kernel_rfl)
      (by rw [MakeChecks.laidMetH_plain _ _ _ (by kernel_rfl)]; exact laidMet_laidAll _ (by kernel_rfl) (by kernel_rfl))) ?_
  intro W base args ds gs before hval0 hW hGl
  have hval : ∀ (j : Nat) t v, Tryd.f7.params[j]? = some t → args[j]? = some v → Value.okWide Tryd.prog W .any base t v := hval0
  have hW' := hW
  obtain ⟨p, q, hA0, hV, rfl, hfz, hnd⟩ := hW
  have hA : DataW.TrodAll enc Tryd.prog W 0 (fun _ => true) true Tryd.f7.params.toList args.toList ds p := hA0
  rw [Tryd.params7] at hA hval
  obtain ⟨v0, vs0, d0, ds0, p0, q0, hargs, rfl, rfl, h0, r0⟩ := trodAll_cons hA
  obtain ⟨v1, vs1, d1, ds1, p1, q1, rfl, rfl, rfl, h1, r1⟩ := trodAll_cons r0
  obtain ⟨rfl, rfl, rfl⟩ := trodAll_nil r1
  obtain rfl : args = #[v0, v1] := by cases args; simp_all
  obtain ⟨rfl, rfl⟩ := trodVars_none hV
  obtain ⟨a0, len0, cap0, rfl⟩ := okWide_slice Tryd.underlying22 (hval 0 22 v0 rfl rfl)
  have k0 := h0
  have lt0 : ∀ x ∈ p0, x.block < W.heap.size := by obtain ⟨m, hm⟩ := k0; exact DataW.trod_lt m _ _ _ hm
  obtain ⟨z0, w0⟩ : ∃ zs, Laid.IsRow .u8 W a0 len0 cap0 zs := by
    obtain ⟨fuel, hf⟩ := h0
    rcases open_ints Tryd.underlying22 Tryd.underlying5 (by kernel_rfl) hf with ⟨hcs, _⟩ | ⟨x, l, c, zs, hcs, _, hl, hm, hz, _, hcell, hwz⟩
    · simp [Value.cells] at hcs
      obtain ⟨rfl, rfl, rfl⟩ := hcs
      exact ⟨[], .inl ⟨rfl, rfl, rfl, rfl⟩⟩
    · simp [Value.cells] at hcs
      obtain ⟨rfl, rfl, rfl⟩ := hcs
      exact ⟨zs, .inr ⟨x, rfl, hl, hm, hz, hcell, hwz⟩⟩
  obtain ⟨bs0, rfl, hl0, hm0, hr0⟩ := Laid.bytes_of w0
  have k1 := h1
  have lt1 : ∀ x ∈ p1, x.block < W.heap.size := by obtain ⟨m, hm⟩ := k1; exact DataW.trod_lt m _ _ _ hm
  obtain ⟨s1, rfl⟩ := spot_of (hval 1 50 v1 rfl rfl) h1
  clear hA0 hval0
  simp only [List.append_nil, List.nil_append] at hW'
  refine (walkAgain a0 cap0 bs0 s1.1 s1.2.1 s1.2.2.1 s1.2.2.2 W hGl ⟨hl0, hm0, hr0⟩).mono fun e W' ⟨he, bel⟩ => ?_
  subst he
  exact ⟨_, rfl, _, _, _, [], _, [], hW', trodAll_mk1 (shut_bool Tryd.underlying4 _), (trodAll_cons_mk (Below.trod laidOut (by kernel_rfl) (of_decide_eq_true (by kernel_rfl)) k0 bel lt0) (trodAll_cons_mk (Below.trod laidOut (by kernel_rfl) (of_decide_eq_true (by kernel_rfl)) k1 bel lt1) trodAll_mk0)), rfl, bel.frame _, fun h => by cases h⟩
theorem said : Rows.TextAgainSaid :=
  OpenClaim.holds_of_wide 7 Tryd.f7 rfl rfl rfl rfl rfl rfl rfl ⟨rfl, rfl, rfl, rfl, rfl⟩ rfl rfl rfl rfl rfl (by kernel_rfl) Tryd.func7 (by kernel_rfl)
    (of_decide_eq_true (by kernel_rfl)) (by unfold Func.isWrapper; first | (rw [if_pos (by decide +kernel)]; kernel_rfl) | (rw [if_neg (by decide +kernel)]; exact ⟨rfl, rfl⟩))
    (fun os started H enc _ => lifted os started H enc)
theorem plain (f : FuncId) (fn : Func) (hf : Tryd.pinned.checked.prog.funcNamed "clew/clewlaw13.TextAgain" = some f) (hfn : Tryd.pinned.checked.prog.funcs[f]? = some fn) :
    false = Tryd.pinned.checked.prog.looks [] ∧ ∀ (j : Nat) t, fn.params[j]? = some t → Tryd.pinned.checked.prog.wantsStandIn t = false := by
  obtain rfl : f = 7 := Option.some.inj ((show Tryd.prog.funcNamed "clew/clewlaw13.TextAgain" = some 7 by kernel_rfl).symm.trans hf) |>.symm
  obtain rfl : fn = Tryd.f7 := (Option.some.inj (Tryd.func7.symm.trans hfn)).symm
  refine ⟨by kernel_rfl, fun j t ht => ?_⟩
  rw [Tryd.params7] at ht
  have hm : t ∈ [22, 50] := by simpa using Array.mem_of_getElem? ht
  have hall : ([22, 50].all fun u => !Tryd.prog.wantsStandIn u) = true := by kernel_rfl
  exact (show Tryd.prog.wantsStandIn t = false by simpa using List.all_eq_true.1 hall t hm)
theorem card : Rows.TextAgainCardSaid :=
  Claim7.holds_tied_plain_at .later [] _ _ _ _ said (fun _ h => by cases h) (by kernel_rfl) (fun _ h => by cases h) textAgain_row_tie rfl ⟨rfl, rfl⟩ (by kernel_rfl) rfl plain (by kernel_rfl)
end Go.Proofs.YtdeaaidbmneplaaDoor.TxLawAgain
