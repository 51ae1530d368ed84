/-
  TextSymbols: a text's symbols are those of its bytes, at any place; parts of it are their bytes again: the given statement, its row and its card.
-/
import Derived.Test.YtdeaaidbmneplaaDoorMTxLaw
import Derived.Test.YtdeaaidbmneplaaDoorMTxPart
import Derived.Test.YtdeaaidbmneplaaDoorMSymRefPut
import Derived.Test.YtdeaaidbmneplaaDoorMSymStr
import Derived.Test.YtdeaaidbmneplaaDoorMLdA
set_option linter.unusedSimpArgs false
set_option linter.unusedVariables false
namespace Go.Proofs.YtdeaaidbmneplaaDoor.Tx
open Go.RowKit Go.Proofs.YtdeaaidbmneplaaDoor.Mem Go.Proofs.YtdeaaidbmneplaaDoor.Sy
attribute [local go_sem] Go.Proofs.YtdeaaidbmneplaaDoor.Rs.run_not_true Go.Proofs.YtdeaaidbmneplaaDoor.Rs.run_not_false
theorem info_by : (Tryd.prog.info? 5).map (fun i => (i.zero, i.size, i.bytes)) = some (some (.int .u8 0), 1, 1) := by kernel_rfl
def encB (zs : List Int) : List UInt8 := (encs zs).map fun z => UInt8.ofNat z.toNat
theorem encB_u8 (zs : List Int) (h : Put.AllS zs) : (encB zs).map u8 = (encs zs).map (Value.int .u8) := by
  unfold encB
  rw [List.map_map]
  apply List.map_congr_left
  intro z hz
  obtain ⟨x, hx, hz⟩ := List.mem_flatMap.1 (show z ∈ zs.flatMap encZ from hz)
  have := encZ_range x (h x hx) z hz
  simp only [Function.comp_apply, u8, UInt8.toNat_ofNat', Value.int.injEq, true_and]
  omega
theorem encB_len (zs : List Int) : (encB zs).length = (encs zs).length := by simp [encB]
theorem row_kept {zs : List Int} {w wr w' : World} {v : Value} (h : Put.Row zs w v wr) (hb : Below wr.heap.size wr w') : Put.Row zs w v w' := ⟨Fo.own_below h.1 hb, h.2.trans (hb.mono h.2.size)⟩
theorem row_app {zs ys : List Int} {w wr w' : World} {v v' : Value} (h : Put.Row zs w v wr) (h1 : w'.ownsRow w.heap.size 5 1 v' (zs.length + ys.length) (zs.map (Value.int .u8) ++ ys.map (Value.int .u8))) (h2 : wr.grownBy w' v.ownBlock) : Put.Row (zs ++ ys) w v' w' :=
  ⟨by simpa using h1, h.2.grown h2 h.2.size (Fo.own_base h.1)⟩
theorem row_reads {zs : List Int} {w w' : World} {v : Value} (hs : Put.AllS zs) (h : Put.Row (encs zs) w v w') : ∃ A c, v = .slice A (encB zs).length c ∧ Reads w' w'.heap.size 1 A (encB zs).length ((encB zs).map u8) := by
  obtain ⟨A, c, rfl, hr, -⟩ := Fo.own_reads h.1
  rw [← encB_len, ← encB_u8 zs hs] at hr
  exact ⟨A, c, by rw [encB_len], hr⟩
theorem encB_syms (bs : List UInt8) : encB (symsZ bs) = bs := by
  unfold encB
  rw [encs_syms]
  unfold nums
  rw [List.map_map]
  conv => rhs; rw [← List.map_id bs]
  apply List.map_congr_left
  intro x _
  simp
theorem part_len {l : List Int} {f t q : Int} {p : Nat} (hp : max f 0 = (p : Int)) (hq : min t l.length = q) : ((partZ l f t).length : Int) = max 0 (q - p) := by
  unfold partZ
  rw [hp, hq]
  split
  · rw [List.length_take, List.length_drop]; omega
  · simp; omega
theorem part_at {l : List Int} {f t : Int} {p k : Nat} (hp : max f 0 = (p : Int)) (h : k < (partZ l f t).length) : ∃ z, (partZ l f t)[k]? = some z ∧ l[p + k]? = some z := by
  have hz := List.getElem?_eq_getElem h
  refine ⟨_, hz, ?_⟩
  rw [← hz]
  unfold partZ at h ⊢
  split at h
  · rename_i hc
    rw [if_pos hc, hp, Int.toNat_natCast, List.getElem?_take, List.getElem?_drop, if_pos]
    rw [hp, Int.toNat_natCast, List.length_take] at h
    omega
  · simp at h
theorem part_mem {l : List Int} {f t : Int} (h : Put.AllS l) : Put.AllS (partZ l f t) := by
  unfold partZ
  split
  · exact fun x hx => h x (List.mem_of_mem_drop (List.mem_of_mem_take hx))
  · exact fun x hx => by cases hx
def SRel (pz : List Int) (p : Nat) (w3 : World) (v i : Value) (wr : World) : Prop :=
  ∃ k : Nat, i = .int .i64 ((p + k : Nat) : Int) ∧ k ≤ pz.length ∧ Put.Row (encs (pz.take k)) w3 v wr
structure SY (bs : List UInt8) (A : Option Addr) (cap : Nat) (l : List Int) (A1 : Option Addr) (c1 g1 : Nat) (A2 : Option Addr) (c2 : Nat) (w : World) (ps : List UInt8) (Ap : Option Addr) (np cp : Nat) (wx : World) : Prop where
  lw : LW bs A cap l A1 c1 g1 A2 c2 w wx
  len : ps.length = np
  pr : Reads wx wx.heap.size 1 Ap np (ps.map u8)
section
variable {bs : List UInt8} {A : Option Addr} {cap : Nat} {l : List Int} {A1 : Option Addr} {c1 g1 : Nat} {A2 : Option Addr} {c2 : Nat} {w : World} {ps : List UInt8} {Ap : Option Addr} {np cp : Nat} {wx wy : World}
theorem SY.below (h : SY bs A cap l A1 c1 g1 A2 c2 w ps Ap np cp wx) (hb : Below wx.heap.size wx wy) : SY bs A cap l A1 c1 g1 A2 c2 w ps Ap np cp wy := ⟨h.lw.below hb, h.len, (h.pr.below hb).more hb.size⟩
theorem SY.held (h : SY bs A cap l A1 c1 g1 A2 c2 w ps Ap np cp wx) :
    (convert 22 9 (.slice Ap np cp)).run Tryd.prog wx = .ok (.string ⟨ps.toArray⟩) wx ∧ (convert 22 9 (.slice A bs.length cap)).run Tryd.prog wx = .ok (.string ⟨bs.toArray⟩) wx ∧ wx.cell? ⟨g1, 0, none⟩ = some (.slice A1 l.length c1) ∧ Hid (SY bs A cap l A1 c1 g1 A2 c2 w ps Ap np cp wx) :=
  ⟨Str.conv_str ps _ np cp Ap wx h.len h.pr, Str.conv_str bs _ bs.length cap A wx rfl h.lw.bv.reads, h.lw.b1.cell 0, hide h⟩
end
set_option maxHeartbeats 1000000 in
theorem syms_big (A : Option Addr) (cap n : Nat) (a t : Int) (w : World) (hG : Tl w) (h : 5000 < (n : Int)) :
    Calls Tryd.prog 3 #[.slice A n cap, .int .i64 a, .int .i64 t] w fun e w' => e = .returned (.bool true) ∧ Below w.heap.size w w' := by
  go_enter Tryd.func3, Tryd.ntmps3
  go_wp2_with fail
  refine (anchor_any w hG).mono ?_
  rintro e w1 ⟨rfl, hB⟩
  go_wp2
  go_ret
  exact ⟨rfl, hB⟩
set_option maxRecDepth 100000 in
set_option maxHeartbeats 8000000 in
theorem syms_small (A : Option Addr) (cap : Nat) (bs : List UInt8) (a t : Int) (w : World) (hG : Tl w) (hP : BV bs A cap w) (h : (bs.length : Int) ≤ 5000) :
    Calls Tryd.prog 3 #[.slice A bs.length cap, .int .i64 a, .int .i64 t] w fun e w' => e = .returned (.bool true) ∧ Below w.heap.size w w' := by
  obtain ⟨i0, hi, hz0, hz1, hz2⟩ := info_parts info_by
  obtain ⟨p, hp⟩ : ∃ p : Nat, max a 0 = (p : Int) := ⟨(max a 0).toNat, by omega⟩
  have HV := hide hP
  have HT := hide hG
  clear hP hG
  go_enter Tryd.func3, Tryd.ntmps3
  go_wp2_with fail
  refine (anchor_any w (unhide HT)).mono ?_
  rintro e w1 ⟨rfl, hB⟩
  have HB1 := hide hB
  have HV1 := hide ((unhide HV).below hB)
  have HT1 := hide ((unhide HT).below hB)
  clear hB HV HT
  go_wp2_with fail
  refine (new_bv (unhide HV1) (unhide HT1) (by omega)).mono ?_
  rintro e w2 ⟨A1, c1, rfl, hs1, hB⟩
  have hX := hB.alloc hB.size (.cells #[.slice A1 (symsZ bs).length c1] 26)
  have HB2 := hide ((unhide HB1).trans (hX.mono (unhide HB1).size))
  have HV2 := hide ((unhide HV1).below hX)
  have HT2 := hide ((unhide HT1).below hX)
  have HS2 := hide (hs1.below (below_box _ (.cells #[.slice A1 (symsZ bs).length c1] 26)))
  have HK2 := hide (Blk.new w2 26 #[.slice A1 (symsZ bs).length c1])
  clear hs1 hB hX HB1 HV1 HT1
  go_wp2_with fail
  generalize w2.alloc (.cells #[.slice A1 (symsZ bs).length c1] 26) = X2 at *
  refine (all_bv (unhide HV2) (by omega)).mono ?_
  rintro e w3 ⟨A2, c2, u3, rfl, hs2, hB⟩
  have HL := hide (show LW bs A cap (symsZ bs) A1 c1 w2.heap.size A2 c2 w w3 from ⟨(unhide HV2).below hB, (unhide HS2).below hB, hs2, (unhide HT2).below hB, (unhide HK2).below hB (unhide HK2).lt, (unhide HB2).trans (hB.mono (unhide HB2).size)⟩)
  have HSA := hide (all_syms bs)
  have d3 := (unhide HL).b1.cell 0
  clear hs2 hB HB2 HV2 HT2 HS2 HK2
  obtain ⟨q, hq⟩ : ∃ q : Int, min t ((symsZ bs).length : Int) = q := ⟨_, rfl⟩
  have hpl := part_len hp hq
  have HPA := hide (fun k h => part_at (l := symsZ bs) (t := t) (k := k) hp h)
  have HPM := hide (part_mem (f := a) (t := t) (unhide HSA))
  have HPT := hide (part_any (w := w3) a t (unhide HL).s1 (unhide HSA))
  have hsl : (symsZ bs).length ≤ 5000 := by have := syms_len bs; rw [symsZ_len]; omega
  have hpz : (partZ (symsZ bs) a t).length ≤ 5000 := by omega
  have HPL := hide hpl
  obtain ⟨pz, hpz0⟩ : ∃ pz, partZ (symsZ bs) a t = pz := ⟨_, rfl⟩
  have HPZ := hide hpz0
  rw [hpz0] at HPA HPM HPL hpz
  clear hpl hpz0 HPT
  go_wp2_with fail
  go_loopw [11, 12] (fun v i wr => SRel pz p w3 v i wr) (fun _ i _ => p + pz.length - (intOf i).toNat)
  case atStart => exact ⟨0, rfl, Nat.zero_le _, World.ownsRow_nil _ _ _ _, Below.refl _ _⟩
  case round =>
    obtain ⟨k, rfl, hk, hrow⟩ := hrel
    have HPLk := unhide HPL
    by_cases hlt : k < pz.length
    · obtain ⟨z, hz, hlz⟩ := (unhide HPA) k hlt
      have hd : decide (((p + k : Nat) : Int) < q) = true := by rw [decide_eq_true_iff]; omega
      have htk : pz.take (k + 1) = pz.take k ++ [z] := by
        have e : pz[k] = z := by simpa [List.getElem?_eq_getElem hlt] using hz
        rw [List.take_succ_eq_append_getElem hlt, e]
      have hsz : isS z = true := (unhide HPM) z (List.mem_of_getElem? hz)
      have hll : p + k < (symsZ bs).length := (List.getElem?_eq_some_iff.1 hlz).1
      have HLr := hide ((unhide HL).below hrow.2)
      obtain ⟨b, off, rfl, hb, hc⟩ := (unhide HLr).s2.reads.flat (by omega)
      have e1 := hc (p + k) (.int .i64 z) (by rw [List.getElem?_map, hlz]; rfl)
      have hlc := (unhide HLr).s2.room
      have htp := (unhide HLr).s2.top
      have hen : (encs (pz.take k)).length ≤ 1000000 := by have := Put.encs_len (pz.take k); have h2 : (pz.take k).length ≤ k := List.length_take_le _ _; omega
      have hl4 := encZ_len z
      have hmx : (encs (pz.take k)).length + (encZ z).length ≤ maxLen := by unfold maxLen; omega
      have HROW := hide hrow
      have HTK := hide htk
      have HS := hide hsz
      have hk1 : k + 1 ≤ pz.length := hlt
      have HMS := hide (show p + pz.length - (p + k + 1) < p + pz.length - (p + k) by omega)
      clear hrow htk hsz hc hb hz hlz HPLk d3 hp
      obtain ⟨j, hj⟩ : ∃ j, p + k = j := ⟨_, rfl⟩
      rw [hj] at hd e1 hll HMS ⊢
      have HJ := hide hj
      clear hj
      go_wp2_with fail
      refine (Put.ref_any z (unhide HS) wr).mono ?_
      rintro e w4 ⟨y, rfl, hy⟩
      have HROW4 := hide (row_kept (unhide HROW) hy.2)
      obtain ⟨A4, c4, rfl, hr4, -⟩ := Fo.own_reads hy.1
      have hbz : w3.heap.size ≤ w4.heap.size := (unhide HROW4).2.size
      clear hy HROW e1
      go_wp2_with (at_builtin; refine wpList_append_any _ rfl (.tmp 38) (.tmp 43) 22 rfl w3.heap.size 5 i0 (.int .u8 0) 1 1 Tryd.underlying22 hi hz0 hz1 hz2 rfl (by decide) _ _ _ rfl (unhide HROW4).1 _ _ _ _ _ rfl hr4 (by simp [Value.oneCell']) hmx (by omega) hbz ?_; intro u' w5 hu' hg5 hn5; have HR5 := hide (row_app (unhide HROW4) hu' hg5); clear hu' hg5 hn5)
      first | go_roundw | refine ⟨⟨_, _, _, ?rel, rfl, rfl, rfl⟩, ?measure⟩
      case rel =>
        refine ⟨k + 1, by have := unhide HJ; rw [show ((j : Int) + 1) = ((p + (k + 1) : Nat) : Int) by omega], hk1, ?_⟩
        rw [unhide HTK, Put.encs_snoc]
        exact unhide HR5
      case measure => have := unhide HMS; have := unhide HJ; simp only [intOf]; omega
    · obtain rfl : k = pz.length := by omega
      have hd : decide (((p + pz.length : Nat) : Int) < q) = false := by rw [decide_eq_false_iff_not]; omega
      rw [List.take_length] at hrow
      obtain ⟨Ap, cp, rfl, hpr⟩ := row_reads (unhide HPM) hrow
      have HSY := hide (show SY bs A cap (symsZ bs) A1 c1 w2.heap.size A2 c2 w (encB pz) Ap (encB pz).length cp wr from ⟨(unhide HL).below hrow.2, rfl, hpr⟩)
      have d4 := (unhide HSY).lw.b1.cell 0
      clear hrow hpr HPLk d3
      obtain ⟨j, hj⟩ : ∃ j, p + pz.length = j := ⟨_, rfl⟩
      rw [hj] at hd ⊢
      clear hj hp
      have HZ := hide (show (symsZ bs).length = (symsZ bs).length from rfl)
      have CL := hide (len_any A1 (symsZ bs).length c1)
      have CA := hide (fun wx (h : SY bs A cap (symsZ bs) A1 c1 w2.heap.size A2 c2 w (encB pz) Ap (encB pz).length cp wx) => (at_any (symsZ bs) A1 c1 a wx h.lw.s1).mono (R' := fun e w' => e = .returned (.int .i64 (atZ (symsZ bs) a)) ∧ SY bs A cap (symsZ bs) A1 c1 w2.heap.size A2 c2 w (encB pz) Ap (encB pz).length cp w') fun e w' h2 => ⟨h2.1, h.below h2.2⟩)
      have CR := hide (fun wx (h : SY bs A cap (symsZ bs) A1 c1 w2.heap.size A2 c2 w (encB pz) Ap (encB pz).length cp wx) => rat_any (symsZ bs) A2 c2 a wx h.lw.s2)
      have CP := hide (fun wx (h : SY bs A cap (symsZ bs) A1 c1 w2.heap.size A2 c2 w (encB pz) Ap (encB pz).length cp wx) => (part_any a t h.lw.s1 (unhide HSA)).mono (R' := fun e w' => ∃ A4 c4, e = .returned (.slice A4 (encB pz).length c4) ∧ (convert 22 9 (.slice A4 (encB pz).length c4)).run Tryd.prog w' = .ok (.string ⟨(encB pz).toArray⟩) w' ∧ SY bs A cap (symsZ bs) A1 c1 w2.heap.size A2 c2 w (encB pz) Ap (encB pz).length cp w') fun e w' ⟨v, he, hv⟩ => by
        rw [unhide HPZ] at hv
        obtain ⟨A4, c4, rfl, hr⟩ := row_reads (unhide HPM) hv
        exact ⟨A4, c4, he, Str.conv_str (encB pz) _ _ c4 A4 w' rfl hr, h.below hv.2⟩)
      have CQ := hide (fun wx (h : SY bs A cap (symsZ bs) A1 c1 w2.heap.size A2 c2 w (encB pz) Ap (encB pz).length cp wx) => (part_any 0 ((symsZ bs).length : Int) h.lw.s1 (unhide HSA)).mono (R' := fun e w' => ∃ A4 c4, e = .returned (.slice A4 bs.length c4) ∧ (convert 22 9 (.slice A4 bs.length c4)).run Tryd.prog w' = .ok (.string ⟨bs.toArray⟩) w' ∧ SY bs A cap (symsZ bs) A1 c1 w2.heap.size A2 c2 w (encB pz) Ap (encB pz).length cp w') fun e w' ⟨v, he, hv⟩ => by
        rw [part_all] at hv
        obtain ⟨A4, c4, rfl, hr⟩ := row_reads (unhide HSA) hv
        rw [encB_syms] at hr he
        exact ⟨A4, c4, he, Str.conv_str bs _ _ c4 A4 w' rfl hr, h.below hv.2⟩)
      go_wp2_with fail
      have HS0 := hide ((unhide HSY).below (Below.refl _ _).drew)
      refine wp_region_noPanic ?_
      refine wp_region_held_drew (S := (fun wx => (convert 22 9 (.slice Ap (encB pz).length cp)).run Tryd.prog wx = .ok (.string ⟨(encB pz).toArray⟩) wx ∧ (convert 22 9 (.slice A bs.length cap)).run Tryd.prog wx = .ok (.string ⟨bs.toArray⟩) wx ∧ wx.cell? ⟨w2.heap.size, 0, none⟩ = some (.slice A1 (symsZ bs).length c1) ∧ Hid (SY bs A cap (symsZ bs) A1 c1 w2.heap.size A2 c2 w (encB pz) Ap (encB pz).length cp wx))) (by kernel_rfl) (SY.held (unhide HS0)) (fun hH0 => ?_)
      refine wpAnyH_take (i := 0) (oi := { dst := some 45, op := _, type := _, pos := _, after := _, guard := _ }) (v := ?v0) rfl (by kernel_rfl) (by kernel_rfl) (by kernel_rfl) (fun _ _ _ h => h) (Or.inl ⟨by rfl, ?y0⟩) hH0 ?r0
      case y0 => (intro w hSw; (try dsimp only at hSw); go_simp; try with_reducible rfl)
      try simp only [Act.put, List.setIfInBounds_toArray, List.set_cons_zero, List.set_cons_succ]
      refine wpAnyH_take (i := 1) (oi := { dst := some 46, op := _, type := _, pos := _, after := _, guard := _ }) (v := ?v1) rfl (by kernel_rfl) (by kernel_rfl) (by kernel_rfl) (fun _ _ _ h => h) (Or.inl ⟨by rfl, ?y1⟩) hH0 ?r1
      case y1 => (intro w hSw; (try dsimp only at hSw); go_simp; try with_reducible rfl)
      try simp only [Act.put, List.setIfInBounds_toArray, List.set_cons_zero, List.set_cons_succ]
      refine wpAnyH_take (i := 2) (oi := { dst := some 47, op := _, type := _, pos := _, after := _, guard := _ }) (v := ?v2) rfl (by kernel_rfl) (by kernel_rfl) (by kernel_rfl) (fun _ _ _ h => h) (Or.inl ⟨by rfl, ?y2⟩) hH0 ?r2
      case y2 => (intro w hSw; (try dsimp only at hSw); go_simp; try with_reducible rfl)
      try simp only [Act.put, List.setIfInBounds_toArray, List.set_cons_zero, List.set_cons_succ]
      refine wpAnyH_take (i := 3) (oi := { dst := some 48, op := _, type := _, pos := _, after := _, guard := _ }) (v := ?v3) rfl (by kernel_rfl) (by kernel_rfl) (by kernel_rfl) (fun _ _ _ h => h) (Or.inl ⟨by rfl, ?y3⟩) hH0 ?r3
      case y3 => (intro w hSw; (try dsimp only at hSw); go_simp; try with_reducible rfl)
      try simp only [Act.put, List.setIfInBounds_toArray, List.set_cons_zero, List.set_cons_succ]
      refine wpAnyH_take (i := 5) (oi := { dst := some 50, op := _, type := _, pos := _, after := _, guard := _ }) (v := ?v5) rfl (by kernel_rfl) (by kernel_rfl) (by kernel_rfl) (fun _ _ _ h => h) (Or.inl ⟨by rfl, ?y5⟩) hH0 ?r5
      case y5 => (intro w hSw; (try dsimp only at hSw); go_simp; try with_reducible rfl)
      try simp only [Act.put, List.setIfInBounds_toArray, List.set_cons_zero, List.set_cons_succ]
      refine wpAnyH_take (i := 6) (oi := { dst := some 51, op := _, type := _, pos := _, after := _, guard := _ }) (v := ?v6) rfl (by kernel_rfl) (by kernel_rfl) (by kernel_rfl) (fun _ _ _ h => h) (Or.inl ⟨by rfl, ?y6⟩) hH0 ?r6
      case y6 => (intro w hSw; (try dsimp only at hSw); go_simp; try with_reducible rfl)
      try simp only [Act.put, List.setIfInBounds_toArray, List.set_cons_zero, List.set_cons_succ]
      refine wpAnyH_ready (rs := [4]) (by kernel_rfl) (by simp) ?_
      refine AllReadyH.cons (o := { dst := some 49, op := _, type := _, pos := _, after := _, guard := _ }) rfl (fun K hK => ?_) AllReadyH.nil
      go_simp
      refine ((unhide CL) _).mono ?_
      rintro e w4 ⟨rfl, hB⟩
      have HS4 := hide ((unhide HS0).below hB)
      clear hB
      go_wp2_with fail
      refine hK.out _ _ (SY.held (unhide HS4)) (fun hH4 => ?_)
      clear hK K
      try simp only [Act.put, List.setIfInBounds_toArray, List.set_cons_zero, List.set_cons_succ]
      refine wpAnyH_take (i := 7) (oi := { dst := some 52, op := _, type := _, pos := _, after := _, guard := _ }) (v := ?v7) rfl (by kernel_rfl) (by kernel_rfl) (by kernel_rfl) (fun _ _ _ h => h) (Or.inl ⟨by rfl, ?y7⟩) hH4 ?r7
      case y7 => (intro w hSw; (try dsimp only at hSw); go_simp; try with_reducible rfl)
      try simp only [Act.put, List.setIfInBounds_toArray, List.set_cons_zero, List.set_cons_succ]
      refine wpAnyH_take (i := 8) (oi := { dst := some 53, op := _, type := _, pos := _, after := _, guard := _ }) (v := ?v8) rfl (by kernel_rfl) (by kernel_rfl) (by kernel_rfl) (fun _ _ _ h => h) (Or.inl ⟨by rfl, ?y8⟩) hH4 ?r8
      case y8 => (intro w hSw; (try dsimp only at hSw); go_simp; try with_reducible rfl)
      try simp only [Act.put, List.setIfInBounds_toArray, List.set_cons_zero, List.set_cons_succ]
      refine wpAnyH_take (i := 9) (oi := { dst := some 54, op := _, type := _, pos := _, after := _, guard := _ }) (v := ?v9) rfl (by kernel_rfl) (by kernel_rfl) (by kernel_rfl) (fun _ _ _ h => h) (Or.inl ⟨by rfl, ?y9⟩) hH4 ?r9
      case y9 => (intro w hSw; (try dsimp only at hSw); go_simp; try with_reducible rfl)
      try simp only [Act.put, List.setIfInBounds_toArray, List.set_cons_zero, List.set_cons_succ]
      refine wpAnyH_take (i := 10) (oi := { dst := some 55, op := _, type := _, pos := _, after := _, guard := _ }) (v := ?v10) rfl (by kernel_rfl) (by kernel_rfl) (by kernel_rfl) (fun _ _ _ h => h) (Or.inl ⟨by rfl, ?y10⟩) hH4 ?r10
      case y10 => (intro w hSw; (try dsimp only at hSw); go_simp; try with_reducible rfl)
      try simp only [Act.put, List.setIfInBounds_toArray, List.set_cons_zero, List.set_cons_succ]
      refine wpAnyH_take (i := 11) (oi := { dst := some 56, op := _, type := _, pos := _, after := _, guard := _ }) (v := ?v11) rfl (by kernel_rfl) (by kernel_rfl) (by kernel_rfl) (fun _ _ _ h => h) (Or.inl ⟨by rfl, ?y11⟩) hH4 ?r11
      case y11 => (intro w hSw; (try dsimp only at hSw); go_simp; try with_reducible rfl)
      try simp only [Act.put, List.setIfInBounds_toArray, List.set_cons_zero, List.set_cons_succ]
      refine wpAnyH_take (i := 13) (oi := { dst := some 58, op := _, type := _, pos := _, after := _, guard := _ }) (v := ?v13) rfl (by kernel_rfl) (by kernel_rfl) (by kernel_rfl) (fun _ _ _ h => h) (Or.inl ⟨by rfl, ?y13⟩) hH4 ?r13
      case y13 => (intro w hSw; (try dsimp only at hSw); go_simp; try with_reducible rfl)
      try simp only [Act.put, List.setIfInBounds_toArray, List.set_cons_zero, List.set_cons_succ]
      refine wpAnyH_take (i := 14) (oi := { dst := some 59, op := _, type := _, pos := _, after := _, guard := _ }) (v := ?v14) rfl (by kernel_rfl) (by kernel_rfl) (by kernel_rfl) (fun _ _ _ h => h) (Or.inl ⟨by rfl, ?y14⟩) hH4 ?r14
      case y14 => (intro w hSw; (try dsimp only at hSw); go_simp; try with_reducible rfl)
      try simp only [Act.put, List.setIfInBounds_toArray, List.set_cons_zero, List.set_cons_succ]
      refine wpAnyH_ready (rs := [12]) (by kernel_rfl) (by simp) ?_
      refine AllReadyH.cons (o := { dst := some 57, op := _, type := _, pos := _, after := _, guard := _ }) rfl (fun K hK => ?_) AllReadyH.nil
      go_simp
      refine ((unhide CA) _ (unhide HS4)).mono ?_
      rintro e w5 ⟨rfl, hs5⟩
      have HS5 := hide hs5
      clear hs5
      go_wp2_with fail
      refine hK.out _ _ (SY.held (unhide HS5)) (fun hH5 => ?_)
      clear hK K
      try simp only [Act.put, List.setIfInBounds_toArray, List.set_cons_zero, List.set_cons_succ]
      refine wpAnyH_ready (rs := [15]) (by kernel_rfl) (by simp) ?_
      refine AllReadyH.cons (o := { dst := some 60, op := _, type := _, pos := _, after := _, guard := _ }) rfl (fun K hK => ?_) AllReadyH.nil
      go_simp
      refine ((unhide CR) _ (unhide HS5)).mono ?_
      rintro e wq ⟨rfl, hwq⟩
      obtain rfl : _ = wq := hwq.symm
      go_wp2_with fail
      refine hK.out _ _ (SY.held (unhide HS5)) (fun hH6 => ?_)
      clear hK K
      try simp only [Act.put, List.setIfInBounds_toArray, List.set_cons_zero, List.set_cons_succ]
      refine wpAnyH_take (i := 16) (oi := { dst := some 61, op := _, type := _, pos := _, after := _, guard := _ }) (v := ?v16) rfl (by kernel_rfl) (by kernel_rfl) (by kernel_rfl) (fun _ _ _ h => h) (Or.inl ⟨by rfl, ?y16⟩) hH6 ?r16
      case y16 => (intro w hSw; (try dsimp only at hSw); go_simp; try with_reducible rfl)
      try simp only [Act.put, List.setIfInBounds_toArray, List.set_cons_zero, List.set_cons_succ]
      refine wpAnyH_take (i := 17) (oi := { dst := some 62, op := _, type := _, pos := _, after := _, guard := _ }) (v := ?v17) rfl (by kernel_rfl) (by kernel_rfl) (by kernel_rfl) (fun _ _ _ h => h) (Or.inl ⟨by rfl, ?y17⟩) hH6 ?r17
      case y17 => (intro w hSw; (try dsimp only at hSw); go_simp; try with_reducible rfl)
      try simp only [Act.put, List.setIfInBounds_toArray, List.set_cons_zero, List.set_cons_succ]
      refine wpAnyH_take (i := 18) (oi := { dst := some 63, op := _, type := _, pos := _, after := _, guard := _ }) (v := ?v18) rfl (by kernel_rfl) (by kernel_rfl) (by kernel_rfl) (fun _ _ _ h => h) (Or.inl ⟨by rfl, ?y18⟩) hH6 ?r18
      case y18 => (intro w hSw; (try dsimp only at hSw); go_simp; try with_reducible rfl)
      try simp only [Act.put, List.setIfInBounds_toArray, List.set_cons_zero, List.set_cons_succ]
      refine wpAnyH_take (i := 19) (oi := { dst := some 64, op := _, type := _, pos := _, after := _, guard := _ }) (v := ?v19) rfl (by kernel_rfl) (by kernel_rfl) (by kernel_rfl) (fun _ _ _ h => h) (Or.inl ⟨by rfl, ?y19⟩) hH6 ?r19
      case y19 => (intro w hSw; (try dsimp only at hSw); go_simp; try with_reducible rfl)
      try simp only [Act.put, List.setIfInBounds_toArray, List.set_cons_zero, List.set_cons_succ]
      refine wpAnyH_take (i := 20) (oi := { dst := some 65, op := _, type := _, pos := _, after := _, guard := _ }) (v := ?v20) rfl (by kernel_rfl) (by kernel_rfl) (by kernel_rfl) (fun _ _ _ h => h) (Or.inl ⟨by rfl, ?y20⟩) hH6 ?r20
      case y20 => (intro w hSw; (try dsimp only at hSw); go_simp; try with_reducible rfl)
      try simp only [Act.put, List.setIfInBounds_toArray, List.set_cons_zero, List.set_cons_succ]
      refine wpAnyH_take (i := 21) (oi := { dst := some 66, op := _, type := _, pos := _, after := _, guard := _ }) (v := ?v21) rfl (by kernel_rfl) (by kernel_rfl) (by kernel_rfl) (fun _ _ _ h => h) (Or.inl ⟨by rfl, ?y21⟩) hH6 ?r21
      case y21 => (intro w hSw; (try dsimp only at hSw); go_simp; try with_reducible rfl)
      try simp only [Act.put, List.setIfInBounds_toArray, List.set_cons_zero, List.set_cons_succ]
      refine wpAnyH_take (i := 24) (oi := { dst := some 69, op := _, type := _, pos := _, after := _, guard := _ }) (v := ?v24) rfl (by kernel_rfl) (by kernel_rfl) (by kernel_rfl) (fun _ _ _ h => h) (Or.inl ⟨by rfl, ?y24⟩) hH6 ?r24
      case y24 => (intro w hSw; (try dsimp only at hSw); go_simp; try with_reducible rfl)
      try simp only [Act.put, List.setIfInBounds_toArray, List.set_cons_zero, List.set_cons_succ]
      refine wpAnyH_take (i := 25) (oi := { dst := some 70, op := _, type := _, pos := _, after := _, guard := _ }) (v := ?v25) rfl (by kernel_rfl) (by kernel_rfl) (by kernel_rfl) (fun _ _ _ h => h) (Or.inl ⟨by rfl, ?y25⟩) hH6 ?r25
      case y25 => (intro w hSw; (try dsimp only at hSw); go_simp; try with_reducible rfl)
      try simp only [Act.put, List.setIfInBounds_toArray, List.set_cons_zero, List.set_cons_succ]
      refine wpAnyH_ready (rs := [22]) (by kernel_rfl) (by simp) ?_
      refine AllReadyH.cons (o := { dst := some 67, op := _, type := _, pos := _, after := _, guard := _ }) rfl (fun K hK => ?_) AllReadyH.nil
      go_simp
      refine ((unhide CP) _ (unhide HS5)).mono ?_
      rintro e w6 ⟨A4, c4, rfl, hcv6, hs6⟩
      have HS6 := hide hs6
      clear hs6
      go_wp2_with fail
      refine hK.out _ _ (SY.held (unhide HS6)) (fun hH7 => ?_)
      clear hK K
      try simp only [Act.put, List.setIfInBounds_toArray, List.set_cons_zero, List.set_cons_succ]
      refine wpAnyH_ready (rs := [23]) (by kernel_rfl) (by simp) ?_
      refine AllReadyH.cons (o := { dst := some 68, op := _, type := _, pos := _, after := _, guard := _ }) rfl (fun K hK => ?_) AllReadyH.nil
      go_simp
      refine hK.out _ _ hH7 (fun hH8 => ?_)
      clear hK K
      try simp only [Act.put, List.setIfInBounds_toArray, List.set_cons_zero, List.set_cons_succ]
      refine wpAnyH_take (i := 26) (oi := { dst := some 71, op := _, type := _, pos := _, after := _, guard := _ }) (v := ?v26) rfl (by kernel_rfl) (by kernel_rfl) (by kernel_rfl) (fun _ _ _ h => h) (Or.inl ⟨by rfl, ?y26⟩) hH8 ?r26
      case y26 => (intro w hSw; (try dsimp only at hSw); go_simp; try with_reducible rfl)
      try simp only [Act.put, List.setIfInBounds_toArray, List.set_cons_zero, List.set_cons_succ]
      refine wpAnyH_take (i := 27) (oi := { dst := some 72, op := _, type := _, pos := _, after := _, guard := _ }) (v := ?v27) rfl (by kernel_rfl) (by kernel_rfl) (by kernel_rfl) (fun _ _ _ h => h) (Or.inl ⟨by rfl, ?y27⟩) hH8 ?r27
      case y27 => (intro w hSw; (try dsimp only at hSw); go_simp; try with_reducible rfl)
      try simp only [Act.put, List.setIfInBounds_toArray, List.set_cons_zero, List.set_cons_succ]
      refine wpAnyH_take (i := 28) (oi := { dst := some 73, op := _, type := _, pos := _, after := _, guard := _ }) (v := ?v28) rfl (by kernel_rfl) (by kernel_rfl) (by kernel_rfl) (fun _ _ _ h => h) (Or.inl ⟨by rfl, ?y28⟩) hH8 ?r28
      case y28 => (intro w hSw; (try dsimp only at hSw); go_simp; try with_reducible rfl)
      try simp only [Act.put, List.setIfInBounds_toArray, List.set_cons_zero, List.set_cons_succ]
      refine wpAnyH_take (i := 29) (oi := { dst := some 74, op := _, type := _, pos := _, after := _, guard := _ }) (v := ?v29) rfl (by kernel_rfl) (by kernel_rfl) (by kernel_rfl) (fun _ _ _ h => h) (Or.inl ⟨by rfl, ?y29⟩) hH8 ?r29
      case y29 => (intro w hSw; (try dsimp only at hSw); go_simp; try with_reducible rfl)
      try simp only [Act.put, List.setIfInBounds_toArray, List.set_cons_zero, List.set_cons_succ]
      refine wpAnyH_take (i := 30) (oi := { dst := some 75, op := _, type := _, pos := _, after := _, guard := _ }) (v := ?v30) rfl (by kernel_rfl) (by kernel_rfl) (by kernel_rfl) (fun _ _ _ h => h) (Or.inl ⟨by rfl, ?y30⟩) hH8 ?r30
      case y30 => (intro w hSw; (try dsimp only at hSw); go_simp; try with_reducible rfl)
      try simp only [Act.put, List.setIfInBounds_toArray, List.set_cons_zero, List.set_cons_succ]
      refine wpAnyH_take (i := 31) (oi := { dst := some 76, op := _, type := _, pos := _, after := _, guard := _ }) (v := ?v31) rfl (by kernel_rfl) (by kernel_rfl) (by kernel_rfl) (fun _ _ _ h => h) (Or.inl ⟨by rfl, ?y31⟩) hH8 ?r31
      case y31 => (intro w hSw; (try dsimp only at hSw); go_simp; try with_reducible rfl)
      try simp only [Act.put, List.setIfInBounds_toArray, List.set_cons_zero, List.set_cons_succ]
      refine wpAnyH_take (i := 34) (oi := { dst := some 79, op := _, type := _, pos := _, after := _, guard := _ }) (v := ?v34) rfl (by kernel_rfl) (by kernel_rfl) (by kernel_rfl) (fun _ _ _ h => h) (Or.inl ⟨by rfl, ?y34⟩) hH8 ?r34
      case y34 => (intro w hSw; (try dsimp only at hSw); go_simp; try with_reducible rfl)
      try simp only [Act.put, List.setIfInBounds_toArray, List.set_cons_zero, List.set_cons_succ]
      refine wpAnyH_take (i := 35) (oi := { dst := some 80, op := _, type := _, pos := _, after := _, guard := _ }) (v := ?v35) rfl (by kernel_rfl) (by kernel_rfl) (by kernel_rfl) (fun _ _ _ h => h) (Or.inl ⟨by rfl, ?y35⟩) hH8 ?r35
      case y35 => (intro w hSw; (try dsimp only at hSw); go_simp; try with_reducible rfl)
      try simp only [Act.put, List.setIfInBounds_toArray, List.set_cons_zero, List.set_cons_succ]
      refine wpAnyH_ready (rs := [32]) (by kernel_rfl) (by simp) ?_
      refine AllReadyH.cons (o := { dst := some 77, op := _, type := _, pos := _, after := _, guard := _ }) rfl (fun K hK => ?_) AllReadyH.nil
      go_simp
      refine ((unhide CQ) _ (unhide HS6)).mono ?_
      rintro e w7 ⟨A5, c5, rfl, hcv7, hs7⟩
      have HS7 := hide hs7
      clear hs7
      go_wp2_with fail
      refine hK.out _ _ (SY.held (unhide HS7)) (fun hH9 => ?_)
      clear hK K
      try simp only [Act.put, List.setIfInBounds_toArray, List.set_cons_zero, List.set_cons_succ]
      refine wpAnyH_ready (rs := [33]) (by kernel_rfl) (by simp) ?_
      refine AllReadyH.cons (o := { dst := some 78, op := _, type := _, pos := _, after := _, guard := _ }) rfl (fun K hK => ?_) AllReadyH.nil
      go_simp
      refine hK.out _ _ hH9 (fun hH10 => ?_)
      clear hK K
      try simp only [Act.put, List.setIfInBounds_toArray, List.set_cons_zero, List.set_cons_succ]
      refine wpAnyH_take (i := 36) (oi := { dst := some 81, op := _, type := _, pos := _, after := _, guard := _ }) (v := ?v36) rfl (by kernel_rfl) (by kernel_rfl) (by kernel_rfl) (fun _ _ _ h => h) (Or.inl ⟨by rfl, ?y36⟩) hH10 ?r36
      case y36 => (intro w hSw; (try dsimp only at hSw); go_simp; try with_reducible rfl)
      try simp only [Act.put, List.setIfInBounds_toArray, List.set_cons_zero, List.set_cons_succ]
      refine wpAnyH_take (i := 37) (oi := { dst := some 82, op := _, type := _, pos := _, after := _, guard := _ }) (v := ?v37) rfl (by kernel_rfl) (by kernel_rfl) (by kernel_rfl) (fun _ _ _ h => h) (Or.inl ⟨by rfl, ?y37⟩) hH10 ?r37
      case y37 => (intro w hSw; (try dsimp only at hSw); go_simp; try with_reducible rfl)
      try simp only [Act.put, List.setIfInBounds_toArray, List.set_cons_zero, List.set_cons_succ]
      refine wpAnyH_take (i := 38) (oi := { dst := some 6, op := _, type := _, pos := _, after := _, guard := _ }) (v := ?v38) rfl (by kernel_rfl) (by kernel_rfl) (by kernel_rfl) (fun _ _ _ h => h) (Or.inl ⟨by rfl, ?y38⟩) hH10 ?r38
      case y38 => (intro w hSw; (try dsimp only at hSw); go_simp; try with_reducible rfl)
      try simp only [Act.put, List.setIfInBounds_toArray, List.set_cons_zero, List.set_cons_succ]
      refine wpAnyH_done (by kernel_rfl) ?_ _
      refine NoPanic.normal ?_
      go_wp2
      go_ret
      exact ⟨rfl, (unhide HS7).lw.bel⟩
theorem walkSymbols (A : Option Addr) (cap : Nat) (bs : List UInt8) (a t : Int) (w : World) (hG : Tl w) (hP : BV bs A cap w) :
    Calls Tryd.prog 3 #[.slice A bs.length cap, .int .i64 a, .int .i64 t] w fun e w' => e = .returned (.bool true) ∧ Below w.heap.size w w' := by
  by_cases h : 5000 < (bs.length : Int)
  · exact syms_big A cap bs.length a t w hG h
  · exact syms_small A cap bs a t w hG hP (by omega)
end Go.Proofs.YtdeaaidbmneplaaDoor.Tx
namespace Go.Proofs.YtdeaaidbmneplaaDoor.TxLawSymbols
open Go.ChangeShapes Go.WideShapes Go.ChangeAt Go.RowKit Go.ChangeMaps Go.Proofs.YtdeaaidbmneplaaDoor.Tx
set_option maxRecDepth 100000 in
theorem lifted (os : Os) (started : os.Started) (H : Type) (enc : TypeId × Value → H) :
    ReturnsInHanded {} Tryd.checked os 3 .any (fun w args => (Rows.textSymbolsSpec.pre enc Tryd.prog Tryd.f3 [] false w args ∧ laidMetH Tryd.prog list w) ∧ sizedMet enc Tryd.prog Tryd.f3 (OpenSpec.ofChange Rows.textSymbolsSpec) false w args)
      (Rows.textSymbolsSpec.post enc Tryd.prog Tryd.f3 false true false false) := by
  refine bothG list Tl (fun _ h => tl_of h) started (by kernel_rfl) Tryd.func3
    (ChangeSpec.witness_shaped (enc := enc) (C := Tryd.checked) (os := os) (X := fun w _ => laidMetH Tryd.prog list w) false (World.laidAll Tryd.prog os list) #[.slice none 0 0, .int .i64 0, .int .i64 0] 8 (World.laidAll_os _ _ _)
      (World.shaped_of_ZipB (by kernel_rfl) (by kernel_rfl)) (by kernel_rfl) (by kernel_rfl) (by kernel_rfl)
      (by rw [MakeChecks.laidMetH_plain _ _ _ (by kernel_rfl)]; exact laidMet_laidAll _ (by kernel_rfl) (by kernel_rfl))) ?_
  intro W base args ds gs before hval0 hW hGl
  have hval : ∀ (j : Nat) t v, Tryd.f3.params[j]? = some t → args[j]? = some v → Value.okWide Tryd.prog W .any base t v := hval0
  have hW' := hW
  obtain ⟨p, q, hA0, hV, rfl, hfz, hnd⟩ := hW
  have hA : DataW.TrodAll enc Tryd.prog W 0 (fun _ => true) true Tryd.f3.params.toList args.toList ds p := hA0
  rw [Tryd.params3] at hA hval
  obtain ⟨v0, vs0, d0, ds0, p0, q0, hargs, rfl, rfl, h0, r0⟩ := trodAll_cons hA
  obtain ⟨v1, vs1, d1, ds1, p1, q1, rfl, rfl, rfl, h1, r1⟩ := trodAll_cons r0
  obtain ⟨v2, vs2, d2, ds2, p2, q2, rfl, rfl, rfl, h2, r2⟩ := trodAll_cons r1
  obtain ⟨rfl, rfl, rfl⟩ := trodAll_nil r2
  obtain rfl : args = #[v0, v1, v2] := by cases args; simp_all
  obtain ⟨rfl, rfl⟩ := trodVars_none hV
  obtain ⟨a0, len0, cap0, rfl⟩ := okWide_slice Tryd.underlying22 (hval 0 22 v0 rfl rfl)
  have k0 := h0
  have lt0 : ∀ x ∈ p0, x.block < W.heap.size := by obtain ⟨m, hm⟩ := k0; exact DataW.trod_lt m _ _ _ hm
  obtain ⟨z0, w0⟩ : ∃ zs, Laid.IsRow .u8 W a0 len0 cap0 zs := by
    obtain ⟨fuel, hf⟩ := h0
    rcases open_ints Tryd.underlying22 Tryd.underlying5 (by kernel_rfl) hf with ⟨hcs, _⟩ | ⟨x, l, c, zs, hcs, _, hl, hm, hz, _, hcell, hwz⟩
    · simp [Value.cells] at hcs
      obtain ⟨rfl, rfl, rfl⟩ := hcs
      exact ⟨[], .inl ⟨rfl, rfl, rfl, rfl⟩⟩
    · simp [Value.cells] at hcs
      obtain ⟨rfl, rfl, rfl⟩ := hcs
      exact ⟨zs, .inr ⟨x, rfl, hl, hm, hz, hcell, hwz⟩⟩
  obtain ⟨bs0, rfl, hl0, hm0, hr0⟩ := Laid.bytes_of w0
  obtain ⟨x1, rfl, rfl, rfl, w1⟩ := open_int Tryd.underlying3 (hval 1 3 v1 rfl rfl) h1
  obtain ⟨x2, rfl, rfl, rfl, w2⟩ := open_int Tryd.underlying3 (hval 2 3 v2 rfl rfl) h2
  clear hA0 hval0
  simp only [List.append_nil, List.nil_append] at hW'
  refine (walkSymbols a0 cap0 bs0 x1 x2 W hGl (⟨hl0, hm0, hr0⟩)).mono fun e W' ⟨he, bel⟩ => ?_
  subst he
  exact ⟨_, rfl, _, _, _, [], _, [], hW', trodAll_mk1 (shut_bool Tryd.underlying4 _), (trodAll_cons_mk (Below.trod laidOut (by kernel_rfl) (of_decide_eq_true (by kernel_rfl)) k0 bel lt0) (trodAll_cons_mk (shut_int Tryd.underlying3 w1) (trodAll_cons_mk (shut_int Tryd.underlying3 w2) trodAll_mk0))), rfl, bel.frame _, fun h => by cases h⟩
theorem said : Rows.TextSymbolsSaid :=
  OpenClaim.holds_of_wide 3 Tryd.f3 rfl rfl rfl rfl rfl rfl rfl ⟨rfl, rfl, rfl, rfl, rfl⟩ rfl rfl rfl rfl rfl (by kernel_rfl) Tryd.func3 (by kernel_rfl)
    (of_decide_eq_true (by kernel_rfl)) (by unfold Func.isWrapper; first | (rw [if_pos (by decide +kernel)]; kernel_rfl) | (rw [if_neg (by decide +kernel)]; exact ⟨rfl, rfl⟩))
    (fun os started H enc _ => lifted os started H enc)
theorem plain (f : FuncId) (fn : Func) (hf : Tryd.pinned.checked.prog.funcNamed "clew/clewlaw13.TextSymbols" = some f) (hfn : Tryd.pinned.checked.prog.funcs[f]? = some fn) :
    false = Tryd.pinned.checked.prog.looks [] ∧ ∀ (j : Nat) t, fn.params[j]? = some t → Tryd.pinned.checked.prog.wantsStandIn t = false := by
  obtain rfl : f = 3 := Option.some.inj ((show Tryd.prog.funcNamed "clew/clewlaw13.TextSymbols" = some 3 by kernel_rfl).symm.trans hf) |>.symm
  obtain rfl : fn = Tryd.f3 := (Option.some.inj (Tryd.func3.symm.trans hfn)).symm
  refine ⟨by kernel_rfl, fun j t ht => ?_⟩
  rw [Tryd.params3] at ht
  have hm : t ∈ [22, 3, 3] := by simpa using Array.mem_of_getElem? ht
  have hall : ([22, 3, 3].all fun u => !Tryd.prog.wantsStandIn u) = true := by kernel_rfl
  exact (show Tryd.prog.wantsStandIn t = false by simpa using List.all_eq_true.1 hall t hm)
theorem card : Rows.TextSymbolsCardSaid :=
  Claim7.holds_tied_plain_at .later [] _ _ _ _ said (fun _ h => by cases h) (by kernel_rfl) (fun _ h => by cases h) textSymbols_row_tie rfl ⟨rfl, rfl⟩ (by kernel_rfl) rfl plain (by kernel_rfl)
end Go.Proofs.YtdeaaidbmneplaaDoor.TxLawSymbols
