/-
  TextLong: a text of more symbols than there may be is refused; one of as many isn't: the given statement, its row and its card.
-/
import Derived.Test.YtdeaaidbmneplaaDoorMTxLaw
import Derived.Test.YtdeaaidbmneplaaDoorMLdA
set_option linter.unusedSimpArgs false
set_option linter.unusedVariables false
namespace Go.Proofs.YtdeaaidbmneplaaDoor.Tx
open Go.RowKit Go.Proofs.YtdeaaidbmneplaaDoor.Mem Go.Proofs.YtdeaaidbmneplaaDoor.Sy
attribute [local go_sem] Go.Proofs.YtdeaaidbmneplaaDoor.Rs.run_not_true Go.Proofs.YtdeaaidbmneplaaDoor.Rs.run_not_false
theorem at_same {bs : List UInt8} {c : UInt8} (h : ∀ j, j < bs.length → g bs j = c.toNat) {k : Nat} (hk : k < bs.length) : (at_ bs k).2 = 1 := by
  unfold at_
  have h0 := h k hk
  have h1 : ∀ j, bs.length - k > j → g bs (k + j) = g bs k := fun j hj => by rw [h (k + j) (by omega), h0]
  have hl := g_lt bs k
  obtain ⟨n, hn⟩ : ∃ n, bs.length - k = n := ⟨_, rfl⟩
  rw [hn] at h1 ⊢
  have e1 := h1 1
  have e2 := h1 2
  have e3 := h1 3
  generalize g bs k = a at *
  generalize g bs (k + 1) = a1 at *
  generalize g bs (k + 2) = a2 at *
  generalize g bs (k + 3) = a3 at *
  unfold sy
  split
  · rfl
  · unfold dec Go.Lib.decodeN
    by_cases g0 : a < 128
    · rw [if_pos g0]
    rw [if_neg g0]
    rw [if_neg (by rintro ⟨p1, p2, p3⟩; have := e1 (by omega); omega), if_neg (by rintro ⟨p1, ⟨p2, p3⟩, _⟩; have := e1 (by omega); omega), if_neg (by rintro ⟨p1, ⟨p2, p3⟩, _⟩; have := e1 (by omega); omega)]
theorem from_same {bs : List UInt8} {c : UInt8} (h : ∀ j, j < bs.length → g bs j = c.toNat) (k : Nat) : (from_ bs k).length = bs.length - k := by
  by_cases hk : k < bs.length
  · rw [from_lt hk, List.length_cons, at_same h hk, from_same h (k + 1)]
    omega
  · rw [from_ge (by omega)]; simp; omega
termination_by bs.length - k
theorem syms_same {n : Nat} (c : UInt8) : (syms (List.replicate n c)).length = n := by
  unfold syms
  rw [List.length_map, from_same (c := c) (fun j hj => by rw [List.length_replicate] at hj; exact g_of (by rw [List.getElem?_replicate, if_pos hj]))]
  simp
def bysA (l : List UInt8) : Array Value := (l.map Mem.u8).toArray
theorem info_byte : (Tryd.prog.info? 5).map (fun i => (i.zero, i.size, i.bytes)) = some (some (.int .u8 0), 1, 1) := by kernel_rfl
theorem made_bytes (n : Nat) : madeCells #[.int .u8 0] n = bysA (List.replicate n 0) := by
  unfold madeCells bysA
  apply Array.ext
  · simp
  · intro i h1 h2
    have : i % 1 = 0 := Nat.mod_one i
    simp [Mem.u8, this]
theorem make_bytes (n : Nat) (hn : n ≤ 100000) (W : World) : Sem.run Tryd.prog (Instr.makeSlice 22 (.int .i64 (n : Int)) (.int .i64 (n : Int))) W = .ok (.slice (some ⟨W.heap.size, 0, none⟩) n n) (W.alloc (.cells (bysA (List.replicate n 0)) 5)) := by
  obtain ⟨i0, hi, hz0, hz1, hz2⟩ := info_parts info_byte
  have := run_makeSlice (P := Tryd.prog) W 22 5 i0 (.int .u8 0) Tryd.underlying22 hi hz0 .i64 .i64 (n : Int) (n : Int) (by omega) (Int.le_refl _) (by rw [hz1]; simp; omega) (by rw [hz2]; omega) (by omega)
  rw [this, hz1, Int.toNat_natCast, Nat.mul_one]
  exact congrArg (fun z => Result.ok _ (W.alloc (.cells z 5))) (made_bytes n)
theorem bysA_set (l : List UInt8) (k : Nat) (c : UInt8) : (bysA l).setIfInBounds k (.int .u8 (c.toNat : Int)) = bysA (l.set k c) := by
  unfold bysA
  rw [List.setIfInBounds_toArray, ← List.map_set]
def BRel (n : Nat) (c : UInt8) (w1 : World) (i : Value) (wr : World) : Prop :=
  ∃ (k : Nat) (l : List UInt8), i = .int .i64 k ∧ k ≤ n ∧ l.length = n ∧ (∀ j, j < k → l[j]? = some c) ∧ Blk wr w1.heap.size 5 (bysA l) ∧ Below w1.heap.size w1 wr
theorem bysA_at {l : List UInt8} {k : Nat} {x : UInt8} (h : l[k]? = some x) : (bysA l)[k]? = some (.int .u8 (x.toNat : Int)) := by
  unfold bysA
  rw [List.getElem?_toArray, List.getElem?_map, h]
  rfl
theorem brel_step {n k : Nat} {c : UInt8} {l : List UInt8} {w1 wr : World} (hk : k < n) (hl : l.length = n) (hc : ∀ j, j < k → l[j]? = some c) (hb : Blk wr w1.heap.size 5 (bysA l)) (hB : Below w1.heap.size w1 wr) :
    BRel n c w1 (.int .i64 ((k : Int) + 1)) (wr.setCell ⟨w1.heap.size, k, none⟩ (.int .u8 (c.toNat : Int))) := by
  refine ⟨k + 1, l.set k c, by go_num, by omega, by rw [List.length_set]; exact hl, fun j hj => ?_, ?_, hB.setCell (p := ⟨w1.heap.size, k, none⟩) (Nat.le_refl _) _⟩
  · rw [List.getElem?_set]
    by_cases h : k = j
    · subst h; simp; omega
    · rw [if_neg h]; exact hc j (by omega)
  · have := hb.set_ k (.int .u8 (c.toNat : Int))
    rwa [bysA_set] at this
theorem bv_of {n : Nat} {c : UInt8} {l : List UInt8} {g : Nat} {wr : World} (hl : l.length = n) (hc : ∀ j, j < n → l[j]? = some c) (hb : Blk wr g 5 (bysA l)) (hn : n ≤ 70000) : BV (List.replicate n c) (some ⟨g, 0, none⟩) n wr := by
  have e : l = List.replicate n c := by
    apply List.ext_getElem?
    intro j
    rw [List.getElem?_replicate]
    split
    · rename_i h; exact hc j h
    · rw [List.getElem?_eq_none (by omega)]
  subst e
  refine ⟨by simp, by omega, by simp, fun _ => ⟨_, rfl, hb.lt, fun j u hu => ?_⟩⟩
  rw [Go.WideShapes.add_plain, Nat.zero_add, hb.cell j]
  unfold bysA
  rw [List.getElem?_toArray]
  exact hu
attribute [local go_sem high] make_bytes
set_option maxHeartbeats 1000000 in
theorem long_neg (n : Int) (c : UInt8) (w : World) (hG : Tl w) (h : n < 0) : Calls Tryd.prog 4 #[.int .i64 n, .int .u8 (c.toNat : Int)] w fun e w' => e = .returned (.bool true) ∧ Below w.heap.size w w' := by
  go_enter Tryd.func4, Tryd.ntmps4
  go_wp2_with fail
  refine (anchor_any w hG).mono ?_
  rintro e w1 ⟨rfl, hB⟩
  go_wp2
  go_ret
  exact ⟨rfl, hB⟩
set_option maxHeartbeats 1000000 in
theorem long_big (n : Int) (c : UInt8) (w : World) (hG : Tl w) (h : 70000 < n) : Calls Tryd.prog 4 #[.int .i64 n, .int .u8 (c.toNat : Int)] w fun e w' => e = .returned (.bool true) ∧ Below w.heap.size w w' := by
  have d1 : decide (n < 0) = false := by rw [decide_eq_false_iff_not]; omega
  go_enter Tryd.func4, Tryd.ntmps4
  go_wp2_with fail
  refine (anchor_any w hG).mono ?_
  rintro e w1 ⟨rfl, hB⟩
  go_wp2
  go_ret
  exact ⟨rfl, hB⟩
set_option maxRecDepth 100000 in
set_option maxHeartbeats 4000000 in
theorem long_some (n : Nat) (c : UInt8) (w : World) (hG : Tl w) (h : n ≤ 70000) : Calls Tryd.prog 4 #[.int .i64 (n : Int), .int .u8 (c.toNat : Int)] w fun e w' => e = .returned (.bool true) ∧ Below w.heap.size w w' := by
  have d1 : decide ((n : Int) < 0) = false := by rw [decide_eq_false_iff_not]; omega
  have d2 : decide (70000 < (n : Int)) = false := by rw [decide_eq_false_iff_not]; omega
  have d2' : decide (70000 < n) = false := by rw [decide_eq_false_iff_not]; omega
  have d3 : n ≤ 100000 := by omega
  have HT := hide hG
  have HN := hide h
  obtain ⟨v, hv⟩ : ∃ v : Int, (c.toNat : Int) = v := ⟨_, rfl⟩
  rw [hv]
  have HV := hide hv
  clear hG hv h
  go_enter Tryd.func4, Tryd.ntmps4
  go_wp2_with fail
  refine (anchor_any w (unhide HT)).mono ?_
  rintro e w1 ⟨rfl, hB⟩
  have HB1 := hide hB
  have HT1 := hide ((unhide HT).below hB)
  clear hB HT
  go_wp2_with fail
  go_loopw [21] (fun i wr => BRel n c w1 i wr) (fun i _ => n - (intOf i).toNat)
  case atStart => exact ⟨0, List.replicate n 0, rfl, by omega, by simp, fun j hj => absurd hj (by omega), Blk.new w1 _ _, below_box _ _⟩
  case round =>
    obtain ⟨k, l, rfl, hk, hl, hc, hb, hB⟩ := hrel
    clear d1 d2 d2'
    by_cases hlt : k < n
    · obtain ⟨x, hx⟩ : ∃ x, l[k]? = some x := ⟨_, List.getElem?_eq_getElem (by omega)⟩
      have hcell := (hb.cell k).trans (bysA_at hx)
      have hfz := hb.frozen k
      have hlt' : (k : Int) < (n : Int) := by omega
      have HR := hide (brel_step hlt hl hc hb hB)
      rw [unhide HV] at HR
      obtain ⟨xz, hxz⟩ : ∃ xz : Int, (x.toNat : Int) = xz := ⟨_, rfl⟩
      rw [hxz] at hcell
      clear hl hc hb hB hx hxz
      go_wp2_with fail
      have hR := unhide HR
      have hme : n - (intOf (.int .i64 ((k : Int) + 1))).toNat < n - (intOf (.int .i64 (k : Int))).toNat := by simp only [intOf]; omega
      first | exact ⟨hR, hme⟩ | exact ⟨⟨_, hR, rfl⟩, hme⟩ | exact ⟨⟨_, _, _, hR, rfl, rfl, rfl⟩, hme⟩ | (go_roundw; exact hR; exact hme)
    · obtain rfl : k = n := by omega
      have HV2 := hide (bv_of hl hc hb (unhide HN))
      have HT2 := hide ((unhide HT1).below hB)
      have HB2 := hide ((unhide HB1).trans (hB.mono (unhide HB1).size))
      have HSY := hide (syms_same (n := k) c)
      have CN := hide (new_any (List.replicate k c) (some ⟨w1.heap.size, 0, none⟩) k wr (unhide HT2).tabs (by rw [List.length_replicate]; have := unhide HN; omega) (by simp) (by have := unhide HN; omega) (unhide HV2).reads)
      rw [List.length_replicate] at CN
      clear hl hc hb hB HB1 HT1 HV
      go_wp2_with fail
      refine (unhide CN).mono ?_
      rintro e w3 hn
      clear CN
      rcases hn with ⟨h1, v1, rfl, ho, hB⟩ | ⟨h1, rfl, hB⟩
      · rw [unhide HSY] at h1
        have d4 : decide (65536 < (k : Int)) = false := by rw [decide_eq_false_iff_not]; omega
        have d4' : decide (65536 < k) = false := by rw [decide_eq_false_iff_not]; omega
        obtain ⟨A5, c5, rfl, -⟩ := Fo.own_reads ho
        have hX := hB.alloc hB.size (.cells #[.slice A5 (syms (List.replicate k c)).length c5] 26)
        have HX := hide ((unhide HB2).trans (hX.mono (unhide HB2).size))
        have hk3 := Blk.new w3 26 #[.slice A5 (syms (List.replicate k c)).length c5]
        have e3 := hk3.cell 0
        have CL := hide (len_any A5 (syms (List.replicate k c)).length c5)
        rw [unhide HSY] at *
        clear ho hB hX hk3 h1
        go_wp2_with fail
        refine ((unhide CL) _).mono ?_
        rintro e w4 ⟨rfl, hB⟩
        have HB4 := hide ((unhide HX).trans (hB.mono (unhide HX).size))
        clear hB CL HX
        go_wp2
        go_ret
        exact ⟨rfl, unhide HB4⟩
      · rw [unhide HSY] at h1
        have d4 : decide (65536 < (k : Int)) = true := by rw [decide_eq_true_iff]; omega
        have d4' : decide (65536 < k) = true := by rw [decide_eq_true_iff]; omega
        have hX := hB.alloc hB.size (.cells #[.slice none 0 0] 26)
        have HX := hide ((unhide HB2).trans (hX.mono (unhide HB2).size))
        clear hB hX h1
        go_wp2
        go_ret
        exact ⟨rfl, unhide HX⟩
theorem walkLong (n : Int) (c : UInt8) (w : World) (hG : Tl w) : Calls Tryd.prog 4 #[.int .i64 n, .int .u8 (c.toNat : Int)] w fun e w' => e = .returned (.bool true) ∧ Below w.heap.size w w' := by
  by_cases h0 : n < 0
  · exact long_neg n c w hG h0
  by_cases h1 : 70000 < n
  · exact long_big n c w hG h1
  · obtain ⟨m, rfl⟩ : ∃ m : Nat, n = (m : Int) := ⟨n.toNat, by omega⟩
    exact long_some m c w hG (by omega)
end Go.Proofs.YtdeaaidbmneplaaDoor.Tx
namespace Go.Proofs.YtdeaaidbmneplaaDoor.TxLawLong
open Go.ChangeShapes Go.WideShapes Go.ChangeAt Go.RowKit Go.ChangeMaps Go.Proofs.YtdeaaidbmneplaaDoor.Tx
set_option maxRecDepth 100000 in
theorem lifted (os : Os) (started : os.Started) (H : Type) (enc : TypeId × Value → H) :
    ReturnsInHanded {} Tryd.checked os 4 .any (fun w args => (Rows.textLongSpec.pre enc Tryd.prog Tryd.f4 [] false w args ∧ laidMetH Tryd.prog list w) ∧ sizedMet enc Tryd.prog Tryd.f4 (OpenSpec.ofChange Rows.textLongSpec) false w args)
      (Rows.textLongSpec.post enc Tryd.prog Tryd.f4 false true false false) := by
  refine bothG list Tl (fun _ h => tl_of h) started (by kernel_rfl) Tryd.func4
    (ChangeSpec.witness_shaped (enc := enc) (C := Tryd.checked) (os := os) (X := fun w _ => laidMetH Tryd.prog list w) false (World.laidAll Tryd.prog os list) #[.int .i64 0, .int .u8 0] 8 (World.laidAll_os _ _ _)
      (World.shaped_of_ZipB (by kernel_rfl) (by kernel_rfl)) (by kernel_rfl) (by kernel_rfl) (by kernel_rfl)
      (by rw [MakeChecks.laidMetH_plain _ _ _ (by kernel_rfl)]; exact laidMet_laidAll _ (by kernel_rfl) (by kernel_rfl))) ?_
  intro W base args ds gs before hval0 hW hGl
  have hval : ∀ (j : Nat) t v, Tryd.f4.params[j]? = some t → args[j]? = some v → Value.okWide Tryd.prog W .any base t v := hval0
  have hW' := hW
  obtain ⟨p, q, hA0, hV, rfl, hfz, hnd⟩ := hW
  have hA : DataW.TrodAll enc Tryd.prog W 0 (fun _ => true) true Tryd.f4.params.toList args.toList ds p := hA0
  rw [Tryd.params4] at hA hval
  obtain ⟨v0, vs0, d0, ds0, p0, q0, hargs, rfl, rfl, h0, r0⟩ := trodAll_cons hA
  obtain ⟨v1, vs1, d1, ds1, p1, q1, rfl, rfl, rfl, h1, r1⟩ := trodAll_cons r0
  obtain ⟨rfl, rfl, rfl⟩ := trodAll_nil r1
  obtain rfl : args = #[v0, v1] := by cases args; simp_all
  obtain ⟨rfl, rfl⟩ := trodVars_none hV
  obtain ⟨x0, rfl, rfl, rfl, w0⟩ := open_int Tryd.underlying3 (hval 0 3 v0 rfl rfl) h0
  obtain ⟨x1, rfl, rfl, rfl, w1⟩ := open_int Tryd.underlying5 (hval 1 5 v1 rfl rfl) h1
  obtain ⟨b1, rfl⟩ := byte_of w1
  clear hA0 hval0
  simp only [List.append_nil, List.nil_append] at hW'
  refine (walkLong x0 b1 W hGl).mono fun e W' ⟨he, bel⟩ => ?_
  subst he
  exact ⟨_, rfl, _, _, _, [], _, [], hW', trodAll_mk1 (shut_bool Tryd.underlying4 _), (trodAll_cons_mk (shut_int Tryd.underlying3 w0) (trodAll_cons_mk (shut_int Tryd.underlying5 w1) trodAll_mk0)), rfl, bel.frame _, fun h => by cases h⟩
theorem said : Rows.TextLongSaid :=
  OpenClaim.holds_of_wide 4 Tryd.f4 rfl rfl rfl rfl rfl rfl rfl ⟨rfl, rfl, rfl, rfl, rfl⟩ rfl rfl rfl rfl rfl (by kernel_rfl) Tryd.func4 (by kernel_rfl)
    (of_decide_eq_true (by kernel_rfl)) (by unfold Func.isWrapper; first | (rw [if_pos (by decide +kernel)]; kernel_rfl) | (rw [if_neg (by decide +kernel)]; exact ⟨rfl, rfl⟩))
    (fun os started H enc _ => lifted os started H enc)
theorem plain (f : FuncId) (fn : Func) (hf : Tryd.pinned.checked.prog.funcNamed "clew/clewlaw13.TextLong" = some f) (hfn : Tryd.pinned.checked.prog.funcs[f]? = some fn) :
    false = Tryd.pinned.checked.prog.looks [] ∧ ∀ (j : Nat) t, fn.params[j]? = some t → Tryd.pinned.checked.prog.wantsStandIn t = false := by
  obtain rfl : f = 4 := Option.some.inj ((show Tryd.prog.funcNamed "clew/clewlaw13.TextLong" = some 4 by kernel_rfl).symm.trans hf) |>.symm
  obtain rfl : fn = Tryd.f4 := (Option.some.inj (Tryd.func4.symm.trans hfn)).symm
  refine ⟨by kernel_rfl, fun j t ht => ?_⟩
  rw [Tryd.params4] at ht
  have hm : t ∈ [3, 5] := by simpa using Array.mem_of_getElem? ht
  have hall : ([3, 5].all fun u => !Tryd.prog.wantsStandIn u) = true := by kernel_rfl
  exact (show Tryd.prog.wantsStandIn t = false by simpa using List.all_eq_true.1 hall t hm)
theorem card : Rows.TextLongCardSaid :=
  Claim7.holds_tied_plain_at .later [] _ _ _ _ said (fun _ h => by cases h) (by kernel_rfl) (fun _ h => by cases h) textLong_row_tie rfl ⟨rfl, rfl⟩ (by kernel_rfl) rfl plain (by kernel_rfl)
end Go.Proofs.YtdeaaidbmneplaaDoor.TxLawLong
