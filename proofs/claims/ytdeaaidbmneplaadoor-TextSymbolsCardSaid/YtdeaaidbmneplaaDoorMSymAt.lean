/-
  sym.At, walked: at any place of any bytes the symbol that stands there, and how many bytes it has; 0 and 0 out
-/
import Derived.Test.YtdeaaidbmneplaaDoorMSymRune
set_option linter.unusedSimpArgs false
set_option linter.unusedVariables false
namespace Go.Proofs.YtdeaaidbmneplaaDoor.At
open Go.RowKit Go.Lib Go.Proofs.YtdeaaidbmneplaaDoor.Sy Go.Proofs.YtdeaaidbmneplaaDoor.Mem Go.Proofs.YtdeaaidbmneplaaDoor.Utf
theorem rune_k (bs : List UInt8) (k b off cap : Nat) (w : World) (hT : Tabs w) (hk : k < bs.length) (hc : ∀ j u, bs[j]? = some u → w.cell? ⟨b, off + j, none⟩ = some (u8 u)) :
    Calls Tryd.prog 33 #[.slice (some ⟨b, off + k, none⟩) (bs.length - k) cap] w (Gives (dec (bs.length - k) (g bs k) (g bs (k + 1)) (g bs (k + 2)) (g bs (k + 3))) w) := by
  have h := rune_any (bs.drop k) b (off + k) cap w hT (by simp; omega) (fun j u hu => by rw [List.getElem?_drop] at hu; have := hc (k + j) u hu; rwa [← Nat.add_assoc] at this)
  simp only [g_drop, List.length_drop, Nat.add_zero] at h
  exact h
def Pair (x : Nat × Nat) (w : World) (e : Ending) (w' : World) : Prop := e = .returned (.tuple #[.int .i64 (x.1 : Int), .int .i64 (x.2 : Int)]) ∧ Below w.heap.size w w'
theorem at_raw (n k b off cap x : Nat) (w : World) (hk : k < n) (hcap : n ≤ cap) (hm : cap ≤ 9223372036854775807) (hx : x < 256)
    (hc : w.cell? ⟨b, off + k, none⟩ = some (.int .u8 (x : Int)))
    (C : Hid (Calls Tryd.prog 33 #[.slice (some ⟨b, off + k, none⟩) (n - k) (cap - k)] w (Gives (65533, 1) w))) :
    Calls Tryd.prog 22 #[.slice (some ⟨b, off, none⟩) n cap, .int .i64 (k : Int)] w (Pair (1114112 + x, 1) w) := by
  have hkc : k < cap := by omega
  have hb : b < w.heap.size := cell_lt hc
  go_enter Tryd.func22, Tryd.ntmps22
  go_wp2_with fail
  refine (unhide C).mono ?_
  rintro e w1 ⟨rfl, hB⟩
  have hc1 := (hB.cell (p := ⟨b, off + k, none⟩) hb).trans hc
  clear hc C
  go_wp2
  go_ret2
  exact ⟨rfl, hB⟩
theorem at_rune (n k b off cap r m : Nat) (w : World) (hk : k < n) (hcap : n ≤ cap) (hm : cap ≤ 9223372036854775807) (hr : r ≤ 1114111) (hd : ¬ (r = 65533 ∧ m = 1))
    (C : Hid (Calls Tryd.prog 33 #[.slice (some ⟨b, off + k, none⟩) (n - k) (cap - k)] w (Gives (r, m) w))) :
    Calls Tryd.prog 22 #[.slice (some ⟨b, off, none⟩) n cap, .int .i64 (k : Int)] w (Pair (r, m) w) := by
  have hkc : k < cap := by omega
  by_cases h0 : r = 65533
  · have h1 : ((r : Int) == 65533) = true := by simp [h0]
    have h2 : ((m : Int) == 1) = false := by rw [beq_eq_false_iff_ne]; omega
    clear h0 hd
    go_enter Tryd.func22, Tryd.ntmps22
    go_wp2_with fail
    refine (unhide C).mono ?_
    rintro e w1 ⟨rfl, hB⟩
    clear C
    go_wp2
    go_ret2
    exact ⟨rfl, hB⟩
  · have h1 : ((r : Int) == 65533) = false := by rw [beq_eq_false_iff_ne]; omega
    clear h0 hd
    go_enter Tryd.func22, Tryd.ntmps22
    go_wp2_with fail
    refine (unhide C).mono ?_
    rintro e w1 ⟨rfl, hB⟩
    clear C
    go_wp2
    go_ret2
    exact ⟨rfl, hB⟩
theorem at_flat (bs : List UInt8) (k b off cap : Nat) (w : World) (hT : Tabs w) (hk : k < bs.length) (hcap : bs.length ≤ cap) (hm : cap ≤ 9223372036854775807)
    (hc : ∀ j u, bs[j]? = some u → w.cell? ⟨b, off + j, none⟩ = some (u8 u)) :
    Calls Tryd.prog 22 #[.slice (some ⟨b, off, none⟩) bs.length cap, .int .i64 (k : Int)] w (Pair (at_ bs k) w) := by
  have C := rune_k bs k b off (cap - k) w hT hk hc
  have hr := dec_top (bs.length - k) (g bs k) (g bs (k + 1)) (g bs (k + 2)) (g bs (k + 3))
  have hck : w.cell? ⟨b, off + k, none⟩ = some (.int .u8 (g bs k : Int)) := by
    have h := List.getElem?_eq_getElem hk
    rw [g_of h]
    exact hc k _ h
  unfold at_ sy
  generalize dec (bs.length - k) (g bs k) (g bs (k + 1)) (g bs (k + 2)) (g bs (k + 3)) = d at *
  obtain ⟨r, m⟩ := d
  by_cases hd : r = 65533 ∧ m = 1
  · rw [if_pos hd]
    obtain ⟨rfl, rfl⟩ := hd
    exact at_raw bs.length k b off cap (g bs k) w hk hcap hm (g_lt _ _) hck (hide C)
  · rw [if_neg hd]
    exact at_rune bs.length k b off cap r m w hk hcap hm hr hd (hide C)
theorem at_in (bs : List UInt8) (B k cap : Nat) (A : Option Addr) (w : World) (hT : Tabs w) (hk : k < bs.length) (hcap : bs.length ≤ cap) (hm : cap ≤ 9223372036854775807)
    (h : Reads w B 1 A bs.length (bs.map u8)) :
    Calls Tryd.prog 22 #[.slice A bs.length cap, .int .i64 (k : Int)] w (Pair (at_ bs k) w) := by
  obtain ⟨b, off, rfl, _, hc⟩ := h.flat (by omega)
  exact at_flat bs k b off cap w hT hk hcap hm (fun j u hu => hc j _ (by simp [hu]))
end Go.Proofs.YtdeaaidbmneplaaDoor.At
