/-
  The law SymBytes, walked: true at any numbers. Conditions: the library's two tables hold what the program's text lays.
-/
import Derived.Test.YtbnjhopodhjdhaaDoorSymAnchor
import Derived.Test.YtbnjhopodhjdhaaDoorSymRefPut
import Derived.Test.YtbnjhopodhjdhaaDoorSymBytes
import Derived.Test.YtbnjhopodhjdhaaDoorSymEnc2
import Derived.Test.YtbnjhopodhjdhaaDoorSymStr
set_option linter.unusedVariables false
set_option linter.unusedSimpArgs false
namespace Go.Proofs.YtbnjhopodhjdhaaDoor.LawBytes
open Go.RowKit Go.Proofs.YtbnjhopodhjdhaaDoor.Sy Go.Proofs.YtbnjhopodhjdhaaDoor.Mem Go.Proofs.YtbnjhopodhjdhaaDoor.Utf Go.Proofs.YtbnjhopodhjdhaaDoor.Anchor Go.Proofs.YtbnjhopodhjdhaaDoor.Put

/-- The bytes of numbers, if they are symbols. -/
def encB (zs : List Int) : List UInt8 := (encs zs).map fun z => UInt8.ofNat z.toNat
theorem encB_u8 (zs : List Int) (h : AllS zs) : (encB zs).map u8 = (encs zs).map (Value.int .u8) := by
  unfold encB
  rw [List.map_map]
  apply List.map_congr_left
  intro z hz
  obtain ⟨x, hx, hz⟩ := List.mem_flatMap.1 (show z ∈ zs.flatMap encZ from hz)
  have := encZ_range x (h x hx) z hz
  simp only [Function.comp_apply, u8, UInt8.toNat_ofNat', Value.int.injEq, true_and]
  omega
theorem encB_len (zs : List Int) : (encB zs).length = (encs zs).length := by simp [encB]

/-- Between two rounds: what is wanted so far lies in a row of the call's own. -/
def Rel (zs : List Int) (w2 : World) (v i : Value) (wr : World) : Prop :=
  ∃ k : Nat, i = .int .i64 k ∧ k ≤ zs.length ∧ AllS (zs.take k) ∧ Row (encs (zs.take k)) w2 v wr

theorem row_kept {zs : List Int} {w wr w' : World} {v : Value} (h : Row zs w v wr) (hb : Below wr.heap.size wr w') : Row zs w v w' := by
  refine ⟨h.1.kept (below_iff.1 hb) ?_, h.2.trans (hb.mono h.2.size)⟩
  rcases h.1.2 with ⟨rfl, _⟩ | ⟨g, cap, cur, rfl, _⟩
  · exact .inl rfl
  · exact .inr (by simp [Value.ownBlock])
theorem row_app {zs ys : List Int} {w wr w' : World} {v v' : Value} (h : Row zs w v wr) (h1 : w'.ownsRow w.heap.size 5 1 v' (zs.length + ys.length) (zs.map (Value.int .u8) ++ ys.map (Value.int .u8))) (h2 : wr.grownBy w' v.ownBlock) : Row (zs ++ ys) w v' w' := by
  refine ⟨by simpa using h1, h.2.grown h2 h.2.size ?_⟩
  intro k hk
  rcases h.1.2 with ⟨rfl, _⟩ | ⟨g, cap, cur, rfl, hb, _, _⟩
  · simp [Value.ownBlock] at hk
  · obtain rfl : g = k := by simpa [Value.ownBlock] using hk
    exact hb

set_option maxHeartbeats 1000000 in
theorem walk_big (a0 : Option Addr) (n cap : Nat) (w : World) (hT : Tabs w) (h : 20000 < (n : Int)) :
    Calls Tryd.prog 8 #[.slice a0 n cap] w fun e w' => e = .returned (.bool true) ∧ Below w.heap.size w w' := by
  go_enter Tryd.func8, Tryd.ntmps8
  go_wp2_with fail
  refine (anchor_any w hT).mono ?_
  rintro e w1 ⟨rfl, hB⟩
  go_wp2
  go_ret
  exact ⟨rfl, hB⟩

set_option maxRecDepth 100000 in
set_option maxHeartbeats 2000000 in
theorem walk_yes (a0 : Option Addr) (cap : Nat) (zs : List Int) (w : World) (hT : Tabs w) (hs : (zs.length : Int) ≤ 20000) (hr : Reads w w.heap.size 1 a0 zs.length (zs.map i64)) (hall : AllS zs) :
    Calls Tryd.prog 8 #[.slice a0 zs.length cap] w fun e w' => e = .returned (.bool true) ∧ Below w.heap.size w w' := by
  obtain ⟨i0, hi, hz0, hz1, hz2⟩ := info_parts info_byte
  have HR := hide hr
  have HT := hide hT
  have HALL := hide hall
  clear hr hT hall
  go_enter Tryd.func8, Tryd.ntmps8
  go_wp2_with fail
  refine (anchor_any w (unhide HT)).mono ?_
  rintro e w1 ⟨rfl, hB⟩
  have HB := hide hB
  have HR1 := hide (((unhide HR).below (unhide HB)).lt)
  clear hB HR HT
  go_wp2_with fail
  refine (Put.bytes_any zs _ cap a0 w1 (by omega) (unhide HR1)).mono ?_
  rintro e w2 ⟨hp, -⟩
  obtain ⟨v, rfl, hv⟩ := hp (unhide HALL)
  have HB2 := hide ((unhide HB).trans (hv.2.mono (unhide HB).size))
  have HR2 := hide (((unhide HR1).below hv.2).lt)
  obtain ⟨A, c, rfl, -, -, hrv⟩ := own_slice hv.1
  have HV := hide hrv
  clear hv hrv hp HB HR1
  go_wp2
  go_loopw [5, 20] (fun u i wr => Rel zs w2 u i wr) (fun _ i _ => zs.length - (intOf i).toNat)
  case atStart => exact ⟨0, rfl, Nat.zero_le _, (fun x hx => by simp at hx), World.ownsRow_nil _ _ _ _, Below.refl _ _⟩
  case round =>
    obtain ⟨k, rfl, hk, ha, hrow⟩ := hrel
    by_cases hlt : k < zs.length
    · have hz := List.getElem?_eq_getElem hlt
      obtain ⟨z, hzz⟩ : ∃ z, zs[k] = z := ⟨_, rfl⟩
      rw [hzz] at hz
      have htk : zs.take (k + 1) = zs.take k ++ [z] := by rw [List.take_succ_eq_append_getElem hlt, hzz]
      have hsz : isS z = true := (unhide HALL) z (hzz ▸ List.getElem_mem hlt)
      obtain ⟨b, off, rfl, hb, hc⟩ := (unhide HR2).flat (by omega)
      have c1 : wr.cell? ⟨b, off + k, none⟩ = some (.int .i64 z) := (hrow.2.cell (p := ⟨b, off + k, none⟩) hb).trans (hc k (i64 z) (by simp [hz]))
      have hen : (encs (zs.take k)).length ≤ 1099511627776 := by have := Put.encs_len (zs.take k); have h2 : (zs.take k).length ≤ k := List.length_take_le _ _; omega
      have hlt' : (k : Int) < (zs.length : Int) := by omega
      have hl4 := encZ_len z
      have hmx : (encs (zs.take k)).length + (encZ z).length ≤ maxLen := by unfold maxLen; omega
      have HI := hide (Is.refis_any z wr)
      rw [hsz] at HI
      have HS := hide hsz
      have HROW := hide hrow
      have HA := hide ha
      have HTK := hide htk
      clear hrow ha htk hz hzz hsz hc hb
      go_wp2_with fail
      refine (unhide HI).mono ?_
      rintro e w3 ⟨rfl, rfl⟩
      clear HI
      go_wp2_with fail
      refine (Put.ref_any z (unhide HS) w3).mono ?_
      rintro e w4 ⟨y, rfl, hy⟩
      have HROW4 := hide (row_kept (unhide HROW) hy.2)
      obtain ⟨A4, c4, rfl, -, -, hr4⟩ := own_slice hy.1
      have hbz : w2.heap.size ≤ w4.heap.size := (unhide HROW4).2.size
      clear hy HROW c1
      go_wp2_with (at_builtin; refine wpList_append_any _ rfl (.tmp 34) (.tmp 36) 22 rfl w2.heap.size 5 i0 (.int .u8 0) 1 1 Tryd.underlying22 hi hz0 hz1 hz2 rfl (by decide) _ _ _ rfl (unhide HROW4).1 _ _ _ _ _ rfl hr4 (by simp [Value.oneCell']) hmx (by omega) hbz ?_; intro u' w5 hu' hg5 hn5)
      have HR5 := hide (row_app (unhide HROW4) hu' hg5)
      clear hu' hg5 hn5 hr4
      go_wp2
      go_roundw
      case rel =>
        refine ⟨k + 1, by go_num, by omega, ?_, ?_⟩
        · rw [unhide HTK]; intro y hy
          rcases List.mem_append.1 hy with h | h
          · exact (unhide HA) y h
          · rw [List.mem_singleton.1 h]; exact unhide HS
        · rw [unhide HTK, Put.encs_snoc]; exact unhide HR5
      case measure => simp [intOf]; omega
    · obtain rfl : k = zs.length := by omega
      rw [List.take_length] at hrow
      have HB5 := hide ((unhide HB2).trans (hrow.2.mono (unhide HB2).size))
      have HV5 := hide ((unhide HV).below hrow.2)
      obtain ⟨A4, c4, rfl, -, -, hr4⟩ := own_slice hrow.1
      have hcv := Str.conv_str (encB zs) _ _ c A wr (encB_len zs) (by rw [encB_u8 zs (unhide HALL)]; exact unhide HV5)
      have hcv2 := Str.conv_str (encB zs) _ _ c4 A4 wr (encB_len zs) (by rw [encB_u8 zs (unhide HALL)]; exact hr4)
      clear hr4 hrow ha
      go_wp2
      go_ret
      exact ⟨rfl, unhide HB5⟩
set_option maxRecDepth 100000 in
set_option maxHeartbeats 2000000 in
theorem walk_no (a0 : Option Addr) (cap : Nat) (zs : List Int) (w : World) (hT : Tabs w) (hs : (zs.length : Int) ≤ 20000) (hr : Reads w w.heap.size 1 a0 zs.length (zs.map i64)) (hall : ¬ AllS zs) :
    Calls Tryd.prog 8 #[.slice a0 zs.length cap] w fun e w' => e = .returned (.bool true) ∧ Below w.heap.size w w' := by
  obtain ⟨i0, hi, hz0, hz1, hz2⟩ := info_parts info_byte
  have HR := hide hr
  have HT := hide hT
  have HALL := hide hall
  clear hr hT hall
  go_enter Tryd.func8, Tryd.ntmps8
  go_wp2_with fail
  refine (anchor_any w (unhide HT)).mono ?_
  rintro e w1 ⟨rfl, hB⟩
  have HB := hide hB
  have HR1 := hide (((unhide HR).below (unhide HB)).lt)
  clear hB HR HT
  go_wp2_with fail
  refine (Put.bytes_any zs _ cap a0 w1 (by omega) (unhide HR1)).mono ?_
  rintro e w2 ⟨-, hp⟩
  obtain ⟨rfl, hB2⟩ := hp (unhide HALL)
  have HB2 := hide ((unhide HB).trans (hB2.mono (unhide HB).size))
  have HR2 := hide (((unhide HR1).below hB2).lt)
  clear hB2 hp HB HR1
  go_wp2
  go_loopw [5, 20] (fun u i wr => Rel zs w2 u i wr) (fun _ i _ => zs.length - (intOf i).toNat)
  case atStart => exact ⟨0, rfl, Nat.zero_le _, (fun x hx => by simp at hx), World.ownsRow_nil _ _ _ _, Below.refl _ _⟩
  case round =>
    obtain ⟨k, rfl, hk, ha, hrow⟩ := hrel
    by_cases hlt : k < zs.length
    · have hz := List.getElem?_eq_getElem hlt
      obtain ⟨z, hzz⟩ : ∃ z, zs[k] = z := ⟨_, rfl⟩
      rw [hzz] at hz
      have htk : zs.take (k + 1) = zs.take k ++ [z] := by rw [List.take_succ_eq_append_getElem hlt, hzz]
      have hmem : z ∈ zs := hzz ▸ List.getElem_mem hlt
      obtain ⟨b, off, rfl, hb, hc⟩ := (unhide HR2).flat (by omega)
      have c1 : wr.cell? ⟨b, off + k, none⟩ = some (.int .i64 z) := (hrow.2.cell (p := ⟨b, off + k, none⟩) hb).trans (hc k (i64 z) (by simp [hz]))
      have hen : (encs (zs.take k)).length ≤ 1099511627776 := by have := Put.encs_len (zs.take k); have h2 : (zs.take k).length ≤ k := List.length_take_le _ _; omega
      have hlt' : (k : Int) < (zs.length : Int) := by omega
      have hl4 := encZ_len z
      have hmx : (encs (zs.take k)).length + (encZ z).length ≤ maxLen := by unfold maxLen; omega
      have HI := hide (Is.refis_any z wr)
      have HROW := hide hrow
      have HA := hide ha
      have HTK := hide htk
      have HMEM := hide hmem
      clear hrow ha htk hz hzz hc hb hmem
      cases hsz : isS z with
      | true =>
        rw [hsz] at HI
        have HS := hide hsz
        clear hsz
        go_wp2_with fail
        refine (unhide HI).mono ?_
        rintro e w3 ⟨rfl, rfl⟩
        clear HI
        go_wp2_with fail
        refine (Put.ref_any z (unhide HS) w3).mono ?_
        rintro e w4 ⟨y, rfl, hy⟩
        have HROW4 := hide (row_kept (unhide HROW) hy.2)
        obtain ⟨A4, c4, rfl, -, -, hr4⟩ := own_slice hy.1
        have hbz : w2.heap.size ≤ w4.heap.size := (unhide HROW4).2.size
        clear hy HROW c1
        go_wp2_with (at_builtin; refine wpList_append_any _ rfl (.tmp 34) (.tmp 36) 22 rfl w2.heap.size 5 i0 (.int .u8 0) 1 1 Tryd.underlying22 hi hz0 hz1 hz2 rfl (by decide) _ _ _ rfl (unhide HROW4).1 _ _ _ _ _ rfl hr4 (by simp [Value.oneCell']) hmx (by omega) hbz ?_; intro u' w5 hu' hg5 hn5)
        have HR5 := hide (row_app (unhide HROW4) hu' hg5)
        clear hu' hg5 hn5 hr4
        go_wp2
        go_roundw
        case rel =>
          refine ⟨k + 1, by go_num, by omega, ?_, ?_⟩
          · rw [unhide HTK]; intro y hy
            rcases List.mem_append.1 hy with h | h
            · exact (unhide HA) y h
            · rw [List.mem_singleton.1 h]; exact unhide HS
          · rw [unhide HTK, Put.encs_snoc]; exact unhide HR5
        case measure => simp [intOf]; omega
      | false =>
        rw [hsz] at HI
        clear hsz
        go_wp2_with fail
        refine (unhide HI).mono ?_
        rintro e w3 ⟨rfl, rfl⟩
        clear HI
        go_wp2
        go_ret
        exact ⟨rfl, (unhide HB2).trans ((unhide HROW).2.mono (unhide HB2).size)⟩
    · obtain rfl : k = zs.length := by omega
      rw [List.take_length] at ha
      exact absurd ha (unhide HALL)

theorem walk (a0 : Option Addr) (cap0 : Nat) (ys0 : List Int) (w : World) (hT : Tabs w) (hl0 : ys0.length ≤ cap0) (hm0 : cap0 ≤ 9223372036854775807) (hb0 : ∀ y ∈ ys0, -9223372036854775808 ≤ y ∧ y ≤ 9223372036854775807) (h0 : Reads w w.heap.size 1 a0 ys0.length (ys0.map i64)) :
    Calls Tryd.prog 8 #[.slice a0 ys0.length cap0] w fun e w' => e = .returned (.bool true) ∧ Below w.heap.size w w' := by
  by_cases h : (20000 : Int) < (ys0.length : Int)
  · exact walk_big a0 ys0.length cap0 w hT h
  · by_cases ha : AllS ys0
    · exact walk_yes a0 cap0 ys0 w hT (by omega) h0 ha
    · exact walk_no a0 cap0 ys0 w hT (by omega) h0 ha
end Go.Proofs.YtbnjhopodhjdhaaDoor.LawBytes
