/-
  The law's anchor (clewlaw13), walked: true; a text made of bytes, of symbols that lie.
-/
import Derived.Test.YtdeaaidbmneplaaDoorMTxNew
import Derived.Test.YtdeaaidbmneplaaDoorMTxHold
import Derived.Test.YtdeaaidbmneplaaDoorMTxAgain
import Derived.Lib.SlBytesConst
set_option linter.unusedSimpArgs false
set_option linter.unusedVariables false
namespace Go.Proofs.YtdeaaidbmneplaaDoor.Tx
open Go.RowKit Go.Proofs.YtdeaaidbmneplaaDoor.Mem Go.Proofs.YtdeaaidbmneplaaDoor.Sy
def NOk (l : List Int) (B : Nat) (w : World) (e : Ending) (w' : World) : Prop := ∃ A c, e = .returned (.tuple #[.agg #[.slice A l.length c], .int .i64 0]) ∧ SV l A c w' ∧ Below B w w'
theorem sv_of {bs : List UInt8} {w w' : World} {v : Value} (hl : bs.length ≤ 100000) (h : w'.ownsRow w.heap.size 3 1 v (syms bs).length ((syms bs).map n64)) : ∃ A c, v = .slice A (symsZ bs).length c ∧ SV (symsZ bs) A c w' := by
  have e : (symsZ bs).map Mem.i64 = (syms bs).map n64 := by simp [symsZ]
  rcases h.2 with ⟨rfl, hn⟩ | ⟨g, cap, cur, rfl, _, _, h1, h2, _⟩
  · refine ⟨none, 0, by rw [symsZ_len, hn], by rw [symsZ_len, hn]; omega, by omega, by rw [symsZ_len]; have := syms_len bs; omega, sm_syms bs, ?_⟩
    rw [symsZ_len, hn]
    exact ⟨by rw [e, h.1, hn], fun h0 => by omega⟩
  · refine ⟨_, cap, by rw [symsZ_len], by rw [symsZ_len]; exact h1, by unfold maxLen at h2; omega, by rw [symsZ_len]; have := syms_len bs; omega, sm_syms bs, ?_⟩
    rw [e, symsZ_len]
    exact Reads.of_own h
theorem new_ok (bs : List UInt8) (A : Option Addr) (cap : Nat) (w : World) (hT : Tl w) (hlen : bs.length ≤ 65536) (hcap : bs.length ≤ cap) (hm : cap ≤ 9223372036854775807) (hr : Reads w w.heap.size 1 A bs.length (bs.map u8)) :
    Calls Tryd.prog 9 #[.slice A bs.length cap] w (NOk (symsZ bs) w.heap.size w) :=
  (new_any bs A cap w hT.tabs (by omega) hcap hm hr).mono fun e w' h => by
    rcases h with ⟨_, v, rfl, ho, hb⟩ | ⟨h1, _⟩
    · obtain ⟨A', c, rfl, hs⟩ := sv_of (by omega) ho
      exact ⟨A', c, rfl, hs, hb⟩
    · have := syms_len bs; omega
theorem new_lit (bs : List UInt8) (C : Array Value) (fr : Nat × Nat) (W : World) (hC : C.toList = bs.map u8) (hl : bs.length ≤ 1000) (hT : Tl W) :
    Calls Tryd.prog 9 #[.slice (some ⟨W.heap.size, 0, none⟩) bs.length bs.length] (W.alloc (.cells C 5 fr)) (NOk (symsZ bs) W.heap.size W) := by
  have hb := below_box W (.cells C 5 fr)
  refine (new_ok bs _ _ _ (hT.below hb) (by omega) (Nat.le_refl _) (by omega) ⟨by rw [List.length_map, Nat.mul_one], fun _ => ⟨_, rfl, by simp, fun j u hu => ?_⟩⟩).mono fun e w' ⟨A, c, he, hs, hb2⟩ => ⟨A, c, he, hs, hb.trans (hb2.mono hb.size)⟩
  rw [Go.WideShapes.add_plain, Nat.zero_add, World.cell?_alloc_mark, ← Array.getElem?_toList, hC]
  exact hu
def ex1 : List UInt8 := [97, 10, 98]
def ex2 : List UInt8 := [97, 98, 65, 66]
theorem ex1_at0 : at_ ex1 0 = (97, 1) := by decide
theorem ex1_at1 : at_ ex1 1 = (10, 1) := by decide
theorem ex1_at2 : at_ ex1 2 = (98, 1) := by decide
theorem ex1_syms : symsZ ex1 = [97, 10, 98] := by
  unfold symsZ syms
  rw [from_lt (by decide : 0 < ex1.length), ex1_at0, from_lt (by decide : 0 + 1 < ex1.length), ex1_at1, from_lt (by decide : 0 + 1 + 1 < ex1.length), ex1_at2, from_ge (by decide)]
  rfl
theorem ex2_at0 : at_ ex2 0 = (97, 1) := by decide
theorem ex2_at1 : at_ ex2 1 = (98, 1) := by decide
theorem ex2_at2 : at_ ex2 2 = (65, 1) := by decide
theorem ex2_at3 : at_ ex2 3 = (66, 1) := by decide
theorem ex2_syms : symsZ ex2 = [97, 98, 65, 66] := by
  unfold symsZ syms
  rw [from_lt (by decide : 0 < ex2.length), ex2_at0, from_lt (by decide : 0 + 1 < ex2.length), ex2_at1, from_lt (by decide : 0 + 1 + 1 < ex2.length), ex2_at2, from_lt (by decide : 0 + 1 + 1 + 1 < ex2.length), ex2_at3, from_ge (by decide)]
  rfl
theorem f97 : Fo.foldZ 97 = 65 := (Fo.fold_least 97).symm.trans (by decide +kernel)
theorem f65 : Fo.foldZ 65 = 65 := (Fo.fold_least 65).symm.trans (by decide +kernel)
theorem f98 : Fo.foldZ 98 = 66 := (Fo.fold_least 98).symm.trans (by decide +kernel)
theorem f66 : Fo.foldZ 66 = 66 := (Fo.fold_least 66).symm.trans (by decide +kernel)
theorem ex_again : againZ [97, 98, 65, 66] 0 2 2 1 = some 4 := by
  have h1 : sameZ 1 97 65 = true := by unfold sameZ; rw [if_pos rfl, f97, f65]; rfl
  have h2 : sameZ 1 98 66 = true := by unfold sameZ; rw [if_pos rfl, f98, f66]; rfl
  have h3 : runL 1 ([97, 98, 65, 66] : List Int) [65, 66] 2 = true := by
    show (true && sameZ 1 97 65 && sameZ 1 98 66) = true
    rw [h1, h2]; rfl
  have := again_nat (l := [97, 98, 65, 66]) (f := 0) (t := 2) (a := 2) (mode := 1) (by omega) (by simp) (by simp)
  exact this.trans (by rw [show runL 1 (([97, 98, 65, 66] : List Int).drop 0) (([97, 98, 65, 66] : List Int).drop 2) (2 - 0) = true from h3]; rfl)
theorem ex_h1 : holdZ [97, 10, 98] 4 2 = true := by decide
theorem ex_h2 : holdZ [97, 10, 98] 4 1 = false := by decide
theorem ex_h3 : holdZ [97, 10, 98] 5 1 = true := by decide
theorem ex_h4 : holdZ [97, 10, 98] 6 3 = true := by decide +kernel
attribute [local go_sem] Go.Proofs.YtdeaaidbmneplaaDoor.Rs.run_not_true Go.Proofs.YtdeaaidbmneplaaDoor.Rs.run_not_false
structure AN (A1 A2 : Option Addr) (c1 c2 g1 : Nat) (w wx : World) : Prop where
  s1 : SV [97, 10, 98] A1 c1 wx
  tl : Tl wx
  b1 : Blk wx g1 26 #[.slice A1 3 c1]
  bel : Below w.heap.size w wx
theorem AN.below {A1 A2 : Option Addr} {c1 c2 g1 : Nat} {w wx wy : World} (h : AN A1 A2 c1 c2 g1 w wx) (hb : Below wx.heap.size wx wy) : AN A1 A2 c1 c2 g1 w wy :=
  ⟨h.s1.below hb, h.tl.below hb, h.b1.below hb h.b1.lt, h.bel.trans (hb.mono h.bel.size)⟩
set_option maxRecDepth 100000 in
set_option maxHeartbeats 4000000 in
theorem anchor_any (w : World) (hT : Tl w) : Calls Tryd.prog 8 #[] w fun e w' => e = .returned (.bool true) ∧ Below w.heap.size w w' := by
  have kc := fun (w : World) (C : Array Value) (n c : Nat) => Lib.run_convert_bytes_const (P := Tryd.prog) w 22 5 C n c Tryd.underlying22 Tryd.underlying5
  have CN1 := hide (fun W (h : Tl W) => new_lit ex1 #[.int .u8 97, .int .u8 10, .int .u8 98] (3, 4) W rfl (by decide) h)
  have CN2 := hide (fun W (h : Tl W) => new_lit ex2 #[.int .u8 97, .int .u8 98, .int .u8 65, .int .u8 66] (4, 5) W rfl (by decide) h)
  rw [ex1_syms] at CN1
  rw [ex2_syms] at CN2
  have HT := hide hT
  clear hT
  go_enter Tryd.func8, Tryd.ntmps8
  go_wp2_with fail
  refine ((unhide CN1) _ (unhide HT)).mono ?_
  rintro e w1 ⟨A1, c1, rfl, hs1, hB⟩
  have hX1 := hB.alloc hB.size (.cells #[.slice A1 3 c1] 26)
  have HA1 := hide (show AN A1 none c1 0 w1.heap.size w (w1.alloc (.cells #[.slice A1 3 c1] 26)) from ⟨hs1.below (below_box _ _), (unhide HT).below hX1, Blk.new _ _ _, hX1⟩)
  clear hs1 hB hX1 CN1 HT
  generalize hx1 : w1.alloc (.cells #[.slice A1 3 c1] 26) = X1 at *
  go_wp2_with fail
  refine ((unhide CN2) _ (unhide HA1).tl).mono ?_
  rintro e w2 ⟨A2, c2, rfl, hs2, hB⟩
  have hX2 := hB.alloc hB.size (.cells #[.slice A2 4 c2] 26)
  have HA2 := hide ((unhide HA1).below hX2)
  have HS2 := hide (hs2.below (below_box _ (.cells #[.slice A2 4 c2] 26)))
  have hk2 := Blk.new w2 26 #[.slice A2 4 c2]
  have d2 := hk2.cell 0
  have CG := hide (again_any 0 2 2 1 (unhide HS2) (unhide HA2).tl)
  rw [ex_again] at CG
  clear hs2 hB hX2 CN2 HA1 hk2
  go_wp2_with fail
  refine (unhide CG).mono ?_
  rintro e w3 ⟨rfl, hB⟩
  have HA3 := hide ((unhide HA2).below hB)
  have d3 := (unhide HA3).b1.cell 0
  have C1 := hide (hold_any (k := 2) 4 (unhide HA3).s1 (unhide HA3).tl)
  rw [ex_h1] at C1
  clear hB CG HA2 HS2 d2
  go_wp2_with fail
  refine (unhide C1).mono ?_
  rintro e w4 ⟨rfl, hB⟩
  have HA4 := hide ((unhide HA3).below hB)
  have d4 := (unhide HA4).b1.cell 0
  have C2 := hide (hold_any (k := 1) 4 (unhide HA4).s1 (unhide HA4).tl)
  rw [ex_h2] at C2
  clear hB C1 HA3 d3
  go_wp2_with fail
  refine (unhide C2).mono ?_
  rintro e w5 ⟨rfl, hB⟩
  have HA5 := hide ((unhide HA4).below hB)
  have d5 := (unhide HA5).b1.cell 0
  have C3 := hide (hold_any (k := 1) 5 (unhide HA5).s1 (unhide HA5).tl)
  rw [ex_h3] at C3
  clear hB C2 HA4 d4
  go_wp2_with fail
  refine (unhide C3).mono ?_
  rintro e w6 ⟨rfl, hB⟩
  have HA6 := hide ((unhide HA5).below hB)
  have d6 := (unhide HA6).b1.cell 0
  have C4 := hide (hold_any (k := 3) 6 (unhide HA6).s1 (unhide HA6).tl)
  rw [ex_h4] at C4
  clear hB C3 HA5 d5
  go_wp2_with fail
  refine (unhide C4).mono ?_
  rintro e w7 ⟨rfl, hB⟩
  have HB7 := hide ((unhide HA6).below hB).bel
  clear hB C4 HA6 d6
  go_wp2
  go_ret
  exact ⟨rfl, unhide HB7⟩
end Go.Proofs.YtdeaaidbmneplaaDoor.Tx
