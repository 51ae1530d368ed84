/-
  The document's example (clewlaw01.anchor), walked: true. Conditions: the library's two tables hold what the program's text lays.
-/
import Derived.Test.YtbnjhopodhjdhaaDoorSymAll
import Derived.Lib.SlBytesConst
set_option linter.unusedVariables false
set_option linter.unusedSimpArgs false
namespace Go.Proofs.YtbnjhopodhjdhaaDoor.Anchor
open Go.RowKit Go.Proofs.YtbnjhopodhjdhaaDoor.Sy Go.Proofs.YtbnjhopodhjdhaaDoor.Mem Go.Proofs.YtbnjhopodhjdhaaDoor.Utf
open Go.Lib (decodeN)

theorem own_slice {w : World} {base e size n : Nat} {v : Value} {xs : List Value} (h : w.ownsRow base e size v n xs) :
    ∃ A c, v = .slice A n c ∧ n ≤ c ∧ c ≤ 9223372036854775807 ∧ Reads w w.heap.size size A n xs := by
  rcases h.2 with ⟨rfl, rfl⟩ | ⟨g, cap, cur, rfl, _, _, h1, h2, _⟩
  · exact ⟨none, 0, rfl, Nat.le_refl _, by omega, h.1, fun hn => by omega⟩
  · exact ⟨_, cap, rfl, h1, by unfold maxLen at h2; omega, Reads.of_own h⟩

def ex : List UInt8 := [65, 195, 169, 195, 255]
theorem ex_at0 : at_ ex 0 = (65, 1) := by decide
theorem ex_at1 : at_ ex 1 = (233, 2) := by decide
theorem ex_at3 : at_ ex 3 = (1114307, 1) := by decide
theorem ex_at4 : at_ ex 4 = (1114367, 1) := by decide
theorem ex_syms : syms ex = [65, 233, 1114307, 1114367] := by
  unfold syms
  rw [from_lt (by decide : 0 < ex.length), ex_at0, from_lt (by decide : 0 + 1 < ex.length), ex_at1, from_lt (by decide : 0 + 1 + 2 < ex.length), ex_at3, from_lt (by decide : 0 + 1 + 2 + 1 < ex.length), ex_at4, from_ge (by decide)]
  rfl

set_option maxHeartbeats 1000000 in
theorem anchor_any (w : World) (hT : Tabs w) : Calls Tryd.prog 10 #[] w fun e w' => e = .returned (.bool true) ∧ Below w.heap.size w w' := by
  obtain ⟨w0, hw0⟩ : ∃ w0, w.alloc (.cells #[.int .u8 65, .int .u8 195, .int .u8 169, .int .u8 195, .int .u8 255] 5 (5, 6)) = w0 := ⟨_, rfl⟩
  have hB0 : Below w.heap.size w w0 := by rw [← hw0]; exact (Below.refl _ _).alloc (Nat.le_refl _) _
  have hr : Reads w0 w0.heap.size 1 (some ⟨w.heap.size, 0, none⟩) ex.length (ex.map u8) := by
    refine ⟨by simp, fun _ => ⟨_, rfl, by rw [← hw0]; simp, fun j u hj => ?_⟩⟩
    rw [add_flat, ← hw0, Nat.zero_add, World.cell?_alloc_mark]
    match j, hj with
    | 0, hj => exact hj
    | 1, hj => exact hj
    | 2, hj => exact hj
    | 3, hj => exact hj
    | 4, hj => exact hj
    | (j + 5), hj => simp [ex] at hj
  have C := hide (All.all_any ex (some ⟨w.heap.size, 0, none⟩) 5 w0 (hT.below hB0 (Nat.le_refl _)) (by decide) (by decide) (by decide) hr)
  have HB := hide hB0
  have H0 := hide hw0
  clear hB0 hr hT hw0
  have kc := fun (W : World) (C : Array Value) (n c : Nat) => Lib.run_convert_bytes_const (P := Tryd.prog) W 22 5 C n c Tryd.underlying22 Tryd.underlying5
  go_enter Tryd.func10, Tryd.ntmps10
  go_wp2_with fail
  rw [unhide H0]
  refine (unhide C).mono ?_
  rintro e w1 ⟨v, rfl, hown, hB1⟩
  rw [ex_syms] at hown
  obtain ⟨A, c, rfl, -, -, hr⟩ := own_slice hown
  obtain ⟨b, off, rfl, -, hc⟩ := hr.flat (by decide)
  have c0 := hc 0 (n64 65) rfl
  have c1 := hc 1 (n64 233) rfl
  have c2 := hc 2 (n64 1114307) rfl
  have c3 := hc 3 (n64 1114367) rfl
  clear hc hr hown C
  have HB1 := hide hB1
  clear hB1
  simp only [Nat.add_zero] at c0
  go_wp2
  go_ret
  exact ⟨rfl, (unhide HB).trans ((unhide HB1).mono (unhide HB).size)⟩
end Go.Proofs.YtbnjhopodhjdhaaDoor.Anchor
