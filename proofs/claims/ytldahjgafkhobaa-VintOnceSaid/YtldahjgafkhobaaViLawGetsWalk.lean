/-
  Get and its reference at any place of any bytes; the law VintGets, walked: true. Conditions: the bytes lie in memory; the place is an int.
-/
import Derived.Test.YtldahjgafkhobaaViGet
import Derived.Test.YtldahjgafkhobaaViRef
import Derived.Test.YtldahjgafkhobaaViAnchor
set_option linter.unusedVariables false
set_option linter.unusedSimpArgs false
namespace Go.Proofs.Ytldahjgafkhobaa.Vi
open Go.RowKit Go.Proofs.Ytldahjgafkhobaa.Mem

theorem flat_u8 {bs : List UInt8} {w : World} {B : Nat} {A : Option Addr} (hr : Reads w B 1 A bs.length (bs.map u8)) (hn : 0 < bs.length) :
    ∃ b off, A = some ⟨b, off, none⟩ ∧ ∀ j u, bs[j]? = some u → w.cell? ⟨b, off + j, none⟩ = some (u8 u) := by
  obtain ⟨b, off, e, _, hc⟩ := hr.flat hn
  exact ⟨b, off, e, fun j u hu => hc j (u8 u) (by simp [hu])⟩
theorem getP_end (bs : List UInt8) : getP bs (bs.length : Int) = (0, 0, 14) := g_short (getP_start (Nat.le_refl _)) (by omega) (by omega)
theorem getP_lt (bs : List UInt8) (p : Int) : (getP bs p).1 < 2 ^ 64 := by
  obtain ⟨⟨m, s, e⟩, h⟩ : ∃ x, getP bs p = x := ⟨_, rfl⟩
  rw [h]
  by_cases he : e = 0
  · subst he
    exact (get_once h).2.2.2.2.2
  · have h0 := (get_err h he).1
    show m < 2 ^ 64
    rw [h0]
    decide
theorem get_any (bs : List UInt8) (A : Option Addr) (cap B : Nat) (p : Int) (w : World) (hn : (bs.length : Int) ≤ 9223372036854775807) (hr : Reads w B 1 A bs.length (bs.map u8)) :
    Calls Try.prog 10 #[.slice A bs.length cap, .int .i64 p] w (G3 (getP bs p) w) := by
  by_cases h : p < 0 ∨ (bs.length : Int) < p
  · rw [getP_out h]
    exact get_out bs.length cap A p w h
  · obtain ⟨a, rfl⟩ := Int.eq_ofNat_of_zero_le (show 0 ≤ p by omega)
    by_cases ha : a = bs.length
    · subst ha
      rw [getP_end]
      exact get_end bs.length cap A w hn
    · obtain ⟨b, off, rfl, hc⟩ := flat_u8 hr (by omega)
      exact get_in bs a b off cap w (by omega) hn hc
theorem ref_any (bs : List UInt8) (A : Option Addr) (cap B : Nat) (p : Int) (w : World) (hn : (bs.length : Int) ≤ 9223372036854775807) (hr : Reads w B 1 A bs.length (bs.map u8)) :
    Calls Try.prog 12 #[.slice A bs.length cap, .int .i64 p] w (R3 (getP bs p) w) := by
  by_cases h : p < 0 ∨ (bs.length : Int) < p
  · rw [getP_out h]
    exact ref_out bs.length cap A p w h
  · obtain ⟨a, rfl⟩ := Int.eq_ofNat_of_zero_le (show 0 ≤ p by omega)
    by_cases ha : a = bs.length
    · subst ha
      rw [getP_end]
      exact ref_end bs.length cap A w hn
    · obtain ⟨b, off, rfl, hc⟩ := flat_u8 hr (by omega)
      exact ref_in bs a b off cap w (by omega) hn hc

set_option maxRecDepth 100000 in
set_option maxHeartbeats 1000000 in
theorem walkGets (bs : List UInt8) (A : Option Addr) (cap : Nat) (p : Int) (w : World) (hcap : bs.length ≤ cap) (hm : cap ≤ 9223372036854775807) (hr : Reads w w.heap.size 1 A bs.length (bs.map u8)) :
    Calls Try.prog 4 #[.slice A bs.length cap, .int .i64 p] w fun e w' => e = .returned (.bool true) ∧ Below w.heap.size w w' := by
  have HR := hide hr
  have hn : (bs.length : Int) ≤ 9223372036854775807 := by omega
  clear hr
  go_enter Try.func4, Try.ntmps4
  go_wp2_with fail
  refine (anchor_any w).mono ?_
  rintro e w1 ⟨rfl, hb1⟩
  have HB := hide hb1
  have HR1 := hide ((unhide HR).below hb1)
  clear hb1
  go_wp2_with fail
  refine (get_any bs A cap _ p w1 hn (unhide HR1)).mono ?_
  rintro e w2 ⟨rfl, rfl⟩
  have C := hide (ref_any bs A cap _ p w2 hn (unhide HR1))
  generalize getP bs p = g at *
  go_wp2_with fail
  refine (unhide C).mono ?_
  rintro e w3 ⟨rfl, rfl⟩
  clear C
  go_wp2
  go_ret
  exact ⟨rfl, unhide HB⟩
end Go.Proofs.Ytldahjgafkhobaa.Vi
