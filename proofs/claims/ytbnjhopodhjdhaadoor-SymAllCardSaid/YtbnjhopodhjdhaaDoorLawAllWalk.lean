/-
  The law SymAll, walked: true at any bytes. Conditions: the library's two tables hold what the program's text lays.
-/
import Derived.Test.YtbnjhopodhjdhaaDoorSymAnchor
import Derived.Test.YtbnjhopodhjdhaaDoorSymRefAll
import Derived.Test.YtbnjhopodhjdhaaDoorSymSame
set_option linter.unusedVariables false
set_option linter.unusedSimpArgs false
namespace Go.Proofs.YtbnjhopodhjdhaaDoor.LawAll
open Go.RowKit Go.Proofs.YtbnjhopodhjdhaaDoor.Sy Go.Proofs.YtbnjhopodhjdhaaDoor.Mem Go.Proofs.YtbnjhopodhjdhaaDoor.Utf Go.Proofs.YtbnjhopodhjdhaaDoor.Anchor

theorem tabs_drewN {w : World} (h : Tabs w) (m : Nat) : Tabs (w.drewN m) := h

set_option maxHeartbeats 1000000 in
theorem walk_big (a0 : Option Addr) (n cap : Nat) (w : World) (hT : Tabs w) (h : 100000 < (n : Int)) :
    Calls Tryd.prog 4 #[.slice a0 n cap] w fun e w' => e = .returned (.bool true) ∧ Below w.heap.size w w' := by
  go_enter Tryd.func4, Tryd.ntmps4
  go_wp2_with fail
  refine (anchor_any w hT).mono ?_
  rintro e w1 ⟨rfl, hB⟩
  go_wp2
  go_ret
  exact ⟨rfl, hB⟩

set_option maxHeartbeats 1000000 in
theorem walk_small (a0 : Option Addr) (cap : Nat) (bs : List UInt8) (w : World) (hT : Tabs w) (hl : bs.length ≤ cap) (hm : cap ≤ 9223372036854775807) (hs : (bs.length : Int) ≤ 100000) (hr : Reads w w.heap.size 1 a0 bs.length (bs.map u8)) :
    Calls Tryd.prog 4 #[.slice a0 bs.length cap] w fun e w' => e = .returned (.bool true) ∧ Below w.heap.size w w' := by
  have HR := hide hr
  have HT := hide hT
  have hlen : bs.length ≤ 1099511627776 := by omega
  have hsl : (syms bs).length ≤ 1099511627776 := by have := syms_len bs; omega
  have htl : (starts bs).length ≤ 1099511627776 := by have := len_le bs; simp [starts, begins]; omega
  clear hr hT
  go_enter Tryd.func4, Tryd.ntmps4
  go_wp2_with fail
  refine (anchor_any w (unhide HT)).mono ?_
  rintro e w1 ⟨rfl, hB⟩
  have HB := hide hB
  clear hB
  have HR1 := hide (((unhide HR).below (unhide HB)).lt)
  have HT1 := hide ((unhide HT).below (unhide HB) (Nat.le_refl _))
  go_wp2_with fail
  refine (RefAll.ref_all bs a0 cap w1 hlen hl hm (unhide HR1)).mono ?_
  rintro e w2 ⟨v, u, rfl, hv, hu, hB2⟩
  obtain ⟨A, c, rfl, -, -, hv⟩ := own_slice hv
  obtain ⟨A', c', rfl, -, -, hu⟩ := own_slice hu
  have HV := hide hv
  have HU := hide hu
  have HR2 := hide (((unhide HR1).below hB2).lt)
  have HT2 := hide ((unhide HT1).below hB2 (Nat.le_refl _))
  have HB2 := hide ((unhide HB).trans (hB2.mono (unhide HB).size))
  clear hv hu hB2 HB HR HT HR1 HT1
  go_wp2_with fail
  refine (All.all_any bs a0 cap w2 (unhide HT2) hlen hl hm (unhide HR2)).mono ?_
  rintro e w3 ⟨x, rfl, hx, hB3⟩
  obtain ⟨A2, c2, rfl, -, -, hx⟩ := own_slice hx
  have HX := hide hx
  have HV3 := hide ((unhide HV).below hB3)
  have HU3 := hide (((unhide HU).below hB3).lt)
  have HR3 := hide (((unhide HR2).below hB3).lt)
  have HT3 := hide ((unhide HT2).below hB3 (Nat.le_refl _))
  have HB3 := hide ((unhide HB2).trans (hB3.mono (unhide HB2).size))
  clear hx hB3 HV HU HR2 HT2 HB2
  go_wp2_with fail
  refine (Same.same_nat (syms bs) _ _ A2 A c2 c w3 hsl (unhide HX) (unhide HV3)).mono ?_
  rintro e w4 ⟨rfl, m, rfl⟩
  go_wp2_with fail
  refine (All.starts_any bs a0 cap (w3.drewN m) (tabs_drewN (unhide HT3) m) hlen hl hm ((unhide HR3).drewN m)).mono ?_
  rintro e w5 ⟨y, rfl, hy, hB5⟩
  obtain ⟨A3, c3, rfl, -, -, hy⟩ := own_slice hy
  have HY := hide hy
  have HU5 := hide (((unhide HU3).drewN m).below hB5)
  have HB5 := hide ((below_drewN (unhide HB3) m).trans (hB5.mono (unhide HB3).size))
  clear hy hB5 HX HV3 HU3 HR3 HT3 HB3
  go_wp2_with fail
  refine (Same.same_nat (starts bs) _ _ A3 A' c3 c' w5 htl (unhide HY) (unhide HU5)).mono ?_
  rintro e w6 ⟨rfl, m', rfl⟩
  go_wp2
  go_ret
  exact ⟨rfl, below_drewN (unhide HB5) m'⟩

theorem walk (a0 : Option Addr) (cap0 : Nat) (bs0 : List UInt8) (w : World) (hT : Tabs w) (hl0 : bs0.length ≤ cap0) (hm0 : cap0 ≤ 9223372036854775807) (h0 : Reads w w.heap.size 1 a0 bs0.length (bs0.map u8)) :
    Calls Tryd.prog 4 #[.slice a0 bs0.length cap0] w fun e w' => e = .returned (.bool true) ∧ Below w.heap.size w w' := by
  by_cases h : (100000 : Int) < (bs0.length : Int)
  · exact walk_big a0 bs0.length cap0 w hT h
  · exact walk_small a0 cap0 bs0 w hT hl0 hm0 (by omega) h0
end Go.Proofs.YtbnjhopodhjdhaaDoor.LawAll
