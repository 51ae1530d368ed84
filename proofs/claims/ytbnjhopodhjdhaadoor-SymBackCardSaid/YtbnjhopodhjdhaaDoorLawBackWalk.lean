/-
  The law SymBack, walked: true at any bytes. Conditions: the library's two tables hold what the program's text lays.
-/
import Derived.Test.YtbnjhopodhjdhaaDoorSymAnchor
import Derived.Test.YtbnjhopodhjdhaaDoorSymBytes
import Derived.Test.YtbnjhopodhjdhaaDoorSymStr
set_option linter.unusedVariables false
set_option linter.unusedSimpArgs false
namespace Go.Proofs.YtbnjhopodhjdhaaDoor.LawBack
open Go.RowKit Go.Proofs.YtbnjhopodhjdhaaDoor.Sy Go.Proofs.YtbnjhopodhjdhaaDoor.Mem Go.Proofs.YtbnjhopodhjdhaaDoor.Utf Go.Proofs.YtbnjhopodhjdhaaDoor.Anchor

theorem ints_of_row {w : World} {B n : Nat} {A : Option Addr} {bs : List UInt8} (h : Reads w B 1 A (syms bs).length ((syms bs).map n64)) : Reads w B 1 A (symsZ bs).length ((symsZ bs).map i64) := by
  have e : (symsZ bs).map i64 = (syms bs).map n64 := by simp [symsZ]
  rw [e, symsZ_len]
  exact h
theorem bytes_of_nums {w : World} {B : Nat} {A : Option Addr} {bs : List UInt8} (h : Reads w B 1 A (nums bs).length ((nums bs).map (Value.int .u8))) : Reads w B 1 A bs.length (bs.map u8) := by
  have e : (nums bs).map (Value.int .u8) = bs.map u8 := by simp [nums]
  have l : (nums bs).length = bs.length := by simp [nums]
  rw [e, l] at h
  exact h

set_option maxHeartbeats 1000000 in
theorem walk_big (a0 : Option Addr) (n cap : Nat) (w : World) (hT : Tabs w) (h : 100000 < (n : Int)) :
    Calls Tryd.prog 6 #[.slice a0 n cap] w fun e w' => e = .returned (.bool true) ∧ Below w.heap.size w w' := by
  go_enter Tryd.func6, Tryd.ntmps6
  go_wp2_with fail
  refine (anchor_any w hT).mono ?_
  rintro e w1 ⟨rfl, hB⟩
  go_wp2
  go_ret
  exact ⟨rfl, hB⟩

set_option maxHeartbeats 1000000 in
theorem walk_small (a0 : Option Addr) (cap : Nat) (bs : List UInt8) (w : World) (hT : Tabs w) (hl : bs.length ≤ cap) (hm : cap ≤ 9223372036854775807) (hs : (bs.length : Int) ≤ 100000) (hr : Reads w w.heap.size 1 a0 bs.length (bs.map u8)) :
    Calls Tryd.prog 6 #[.slice a0 bs.length cap] w fun e w' => e = .returned (.bool true) ∧ Below w.heap.size w w' := by
  have HR := hide hr
  have HT := hide hT
  have hlen : bs.length ≤ 1099511627776 := by omega
  have hsl : (symsZ bs).length ≤ 100000 := by have := syms_len bs; rw [symsZ_len]; omega
  clear hr hT
  go_enter Tryd.func6, Tryd.ntmps6
  go_wp2_with fail
  refine (anchor_any w (unhide HT)).mono ?_
  rintro e w1 ⟨rfl, hB⟩
  have HB := hide hB
  clear hB
  have HR1 := hide (((unhide HR).below (unhide HB)).lt)
  have HT1 := hide ((unhide HT).below (unhide HB) (Nat.le_refl _))
  go_wp2_with fail
  refine (All.all_any bs a0 cap w1 (unhide HT1) hlen hl hm (unhide HR1)).mono ?_
  rintro e w2 ⟨x, rfl, hx, hB2⟩
  obtain ⟨A2, c2, rfl, -, -, hx⟩ := own_slice hx
  have HX := hide (ints_of_row (n := 0) hx)
  have HR2 := hide (((unhide HR1).below hB2).lt)
  have HB2 := hide ((unhide HB).trans (hB2.mono (unhide HB).size))
  clear hx hB2 HB HR HT HR1 HT1
  rw [← symsZ_len bs]
  go_wp2_with fail
  refine (Put.bytes_any (symsZ bs) _ c2 A2 w2 hsl (unhide HX)).mono ?_
  rintro e w3 ⟨hp, -⟩
  obtain ⟨v, rfl, hv, hB3⟩ := hp (all_syms bs)
  rw [encs_syms] at hv
  obtain ⟨A3, c3, rfl, -, -, hv⟩ := own_slice hv
  rw [show (nums bs).length = bs.length by simp [nums]]
  have hcv := Str.conv_str bs _ _ c3 A3 w3 rfl (bytes_of_nums hv)
  have hcv2 := Str.conv_str bs _ _ cap a0 w3 rfl ((unhide HR2).below hB3)
  have HB3 := hide ((unhide HB2).trans (hB3.mono (unhide HB2).size))
  clear hv hB3 hp HX HR2 HB2
  go_wp2
  go_ret
  exact ⟨rfl, unhide HB3⟩

theorem walk (a0 : Option Addr) (cap0 : Nat) (bs0 : List UInt8) (w : World) (hT : Tabs w) (hl0 : bs0.length ≤ cap0) (hm0 : cap0 ≤ 9223372036854775807) (h0 : Reads w w.heap.size 1 a0 bs0.length (bs0.map u8)) :
    Calls Tryd.prog 6 #[.slice a0 bs0.length cap0] w fun e w' => e = .returned (.bool true) ∧ Below w.heap.size w w' := by
  by_cases h : (100000 : Int) < (bs0.length : Int)
  · exact walk_big a0 bs0.length cap0 w hT h
  · exact walk_small a0 cap0 bs0 w hT hl0 hm0 (by omega) h0
end Go.Proofs.YtbnjhopodhjdhaaDoor.LawBack
