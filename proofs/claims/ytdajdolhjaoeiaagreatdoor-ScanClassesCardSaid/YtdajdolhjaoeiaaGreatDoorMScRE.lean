/-
  Words for the reference's Escape (clewref07). No conditions.
  The reference's Escape (clewref07), walked: most of its ways. Conditions: the bytes lie in memory.
  The reference's Escape (clewref07), walked: one more of its ways (resc_ctl). Conditions: the bytes lie in memory.
  The reference's Escape (clewref07), walked: one more of its ways (resc_hld). Conditions: the bytes lie in memory.
  The reference's Escape (clewref07), walked: one more of its ways (resc_key). Conditions: the bytes lie in memory.
  The reference's Escape (clewref07), walked: one more of its ways (resc_dig). Conditions: the bytes lie in memory.
  The reference's Escape (clewref07), walked. Conditions: the bytes lie in memory.
-/
import Derived.Test.YtdajdolhjaoeiaaGreatDoorMScRA
import Derived.Test.YtdajdolhjaoeiaaGreatDoorMScRName
import Derived.Test.YtdajdolhjaoeiaaGreatDoorMScD
import Derived.Test.YtdajdolhjaoeiaaGreatDoorMSymRf
set_option linter.unusedVariables false
set_option linter.unusedSimpArgs false
namespace Go.Proofs.YtdajdolhjaoeiaaGreatDoor.Sc
open Go.RowKit Go.Proofs.YtdajdolhjaoeiaaGreatDoor.Mem
open Go.Proofs.YtdajdolhjaoeiaaGreatDoor.Sy (g g_of g_lt isS at_)
open Go.Proofs.YtdajdolhjaoeiaaGreatDoor.Cl (isOf)
theorem build_r2 (a b c : Int) (w : World) : Sem.run Tryz.prog (Instr.build 31 #[(0, .int .i64 a), (4, .int .u8 c), (1, .int .i64 b)]) w = .ok (.agg #[.int .i64 a, .int .i64 b, .int .i64 0, .string ⟨#[]⟩, .int .u8 c, .bool false]) w := run_build w 31 _ _ (by kernel_rfl)
attribute [local go_sem] build_r0 build_r3 build_r2 Go.Proofs.YtdajdolhjaoeiaaGreatDoor.Rs.run_not_true Go.Proofs.YtdajdolhjaoeiaaGreatDoor.Rs.run_not_false

/-! ### six cells -/
theorem set6 {w : World} {g t : Nat} {a0 b0 c0 d0 e0 f0 : Value} (h : Blk w g t #[a0, b0, c0, d0, e0, f0]) (a b c d e f : Value) :
    Blk ((((((w.setCell ⟨g, 0, none⟩ a).setCell ⟨g, 1, none⟩ b).setCell ⟨g, 2, none⟩ c).setCell ⟨g, 3, none⟩ d).setCell ⟨g, 4, none⟩ e).setCell ⟨g, 5, none⟩ f) g t #[a, b, c, d, e, f] := (((((h.set_ 0 a).set_ 1 b).set_ 2 c).set_ 3 d).set_ 4 e).set_ 5 f
theorem bel6 {w0 w : World} {B g : Nat} (h : Below B w0 w) (hg : B ≤ g) (a b c d e f : Value) : Below B w0 ((((((w.setCell ⟨g, 0, none⟩ a).setCell ⟨g, 1, none⟩ b).setCell ⟨g, 2, none⟩ c).setCell ⟨g, 3, none⟩ d).setCell ⟨g, 4, none⟩ e).setCell ⟨g, 5, none⟩ f) :=
  (bel5 h hg a b c d e).setCell (p := ⟨g, 5, none⟩) hg f
theorem cells6 {w : World} {g t : Nat} {a b c d e f : Value} (h : Blk w g t #[a, b, c, d, e, f]) :
    (w.cell? ⟨g, 0, none⟩ = some a ∧ w.cell? ⟨g, 1, none⟩ = some b ∧ w.cell? ⟨g, 2, none⟩ = some c ∧ w.cell? ⟨g, 3, none⟩ = some d ∧ w.cell? ⟨g, 4, none⟩ = some e ∧ w.cell? ⟨g, 5, none⟩ = some f) ∧
    w.frozen? ⟨g, 0, none⟩ = false ∧ w.frozen? ⟨g, 1, none⟩ = false ∧ w.frozen? ⟨g, 2, none⟩ = false ∧ w.frozen? ⟨g, 3, none⟩ = false ∧ w.frozen? ⟨g, 4, none⟩ = false ∧ w.frozen? ⟨g, 5, none⟩ = false :=
  ⟨⟨h.cell 0, h.cell 1, h.cell 2, h.cell 3, h.cell 4, h.cell 5⟩, h.frozen 0, h.frozen 1, h.frozen 2, h.frozen 3, h.frozen 4, h.frozen 5⟩

def ntrL : List UInt8 := [110, 116, 114, 102, 118, 97, 101]
def dwsL : List UInt8 := [100, 119, 115, 68, 87, 83]
def azbL : List UInt8 := [65, 90, 122, 98, 66]
theorem ntr_is : ∀ c : Fin 256, decide (0 ≤ fz ntrL c.val) = (ctl c.val).isSome := by decide +kernel
theorem dws_is : ∀ c : Fin 256, decide (0 ≤ fz dwsL c.val) = isOf c.val := by decide +kernel
theorem azb_is : ∀ c : Fin 256, decide (0 ≤ fz azbL c.val) = (hldO c.val).isSome := by decide +kernel
theorem of_mem {c : Nat} (hc : c < 256) (h : isOf c = true) : c = 100 ∨ c = 119 ∨ c = 115 ∨ c = 68 ∨ c = 87 ∨ c = 83 := by
  have key : ∀ c : Fin 256, isOf c.val = true → c.val = 100 ∨ c.val = 119 ∨ c.val = 115 ∨ c.val = 68 ∨ c.val = 87 ∨ c.val = 83 := by decide +kernel
  exact key ⟨c, hc⟩ h
theorem azb_na : ∀ c : Fin 256, isA c.val = false → hldO c.val = none := by decide +kernel
theorem ntr_no : ∀ c : Fin 256, ctl c.val = none → (fz ntrL c.val) = -1 := by decide +kernel
theorem dws_no : ∀ c : Fin 256, isOf c.val = false → (fz dwsL c.val) = -1 := by decide +kernel
theorem azb_no : ∀ c : Fin 256, hldO c.val = none → (fz azbL c.val) = -1 := by decide +kernel

def ntrNs : List Nat := [10, 9, 13, 12, 11, 7, 27]
def azbNs : List Nat := [1, 2, 3, 6, 7]
theorem ntr_some {c n : Nat} (h : ctl c = some n) : hldO c = none ∧ c ≠ 98 ∧ c ≠ 107 ∧ ¬ (49 ≤ c ∧ c ≤ 57) ∧ ∃ z : Nat, fz ntrL c = (z : Int) ∧ z < 7 ∧ ntrNs[z]? = some n := by
  unfold ctl at h
  repeat' split at h
  all_goals first
    | (cases h; done)
    | (subst_vars; cases h; first | exact ⟨rfl, by omega, by omega, by omega, 0, by decide, by omega, rfl⟩ | exact ⟨rfl, by omega, by omega, by omega, 1, by decide, by omega, rfl⟩ | exact ⟨rfl, by omega, by omega, by omega, 2, by decide, by omega, rfl⟩ | exact ⟨rfl, by omega, by omega, by omega, 3, by decide, by omega, rfl⟩ | exact ⟨rfl, by omega, by omega, by omega, 4, by decide, by omega, rfl⟩ | exact ⟨rfl, by omega, by omega, by omega, 5, by decide, by omega, rfl⟩ | exact ⟨rfl, by omega, by omega, by omega, 6, by decide, by omega, rfl⟩)
theorem azb_some {c n : Nat} (h : hldO c = some n) : c ≠ 107 ∧ ¬ (49 ≤ c ∧ c ≤ 57) ∧ ∃ z : Nat, fz azbL c = (z : Int) ∧ z < 5 ∧ azbNs[z]? = some n := by
  unfold hldO at h
  repeat' split at h
  all_goals first
    | (cases h; done)
    | (subst_vars; cases h; first | exact ⟨by omega, by omega, 0, by decide, by omega, rfl⟩ | exact ⟨by omega, by omega, 1, by decide, by omega, rfl⟩ | exact ⟨by omega, by omega, 2, by decide, by omega, rfl⟩ | exact ⟨by omega, by omega, 3, by decide, by omega, rfl⟩ | exact ⟨by omega, by omega, 4, by decide, by omega, rfl⟩)
theorem ntr_cell {n z : Nat} (h : ntrNs[z]? = some n) : (#[.int .i64 10, .int .i64 9, .int .i64 13, .int .i64 12, .int .i64 11, .int .i64 7, .int .i64 27] : Array Value)[z]? = some (.int .i64 (n : Int)) := by
  show ((ntrNs.map fun m : Nat => Value.int .i64 (m : Int)).toArray)[z]? = _
  rw [List.getElem?_toArray, List.getElem?_map, h]; rfl
theorem azb_cell {n z : Nat} (h : azbNs[z]? = some n) : (#[.int .i64 1, .int .i64 2, .int .i64 3, .int .i64 6, .int .i64 7] : Array Value)[z]? = some (.int .i64 (n : Int)) := by
  show ((azbNs.map fun m : Nat => Value.int .i64 (m : Int)).toArray)[z]? = _
  rw [List.getElem?_toArray, List.getElem?_map, h]; rfl
theorem namez_at (bs : List UInt8) (k : Nat) : namez bs ((k : Int) + 3) = nameP bs (k + 3) := by
  unfold namez
  rw [if_pos (by omega), show ((k : Int) + 3).toNat = k + 3 by omega]
theorem build_rk (a b : Int) (s : ByteArray) (w : World) : Sem.run Tryz.prog (Instr.build 31 #[(0, .int .i64 a), (3, .string s), (1, .int .i64 b)]) w = .ok (.agg #[.int .i64 a, .int .i64 b, .int .i64 0, .string s, .int .u8 0, .bool false]) w := run_build w 31 _ _ (by kernel_rfl)
theorem build_ntr (w : World) : Sem.run Tryz.prog (Instr.build 74 #[(0, .int .i64 10), (1, .int .i64 9), (2, .int .i64 13), (3, .int .i64 12), (4, .int .i64 11), (5, .int .i64 7), (6, .int .i64 27)]) w = .ok (.agg #[.int .i64 10, .int .i64 9, .int .i64 13, .int .i64 12, .int .i64 11, .int .i64 7, .int .i64 27]) w := run_build w 74 _ _ (by kernel_rfl)
theorem build_azb (w : World) : Sem.run Tryz.prog (Instr.build 76 #[(0, .int .i64 1), (1, .int .i64 2), (2, .int .i64 3), (3, .int .i64 6), (4, .int .i64 7)]) w = .ok (.agg #[.int .i64 1, .int .i64 2, .int .i64 3, .int .i64 6, .int .i64 7]) w := run_build w 76 _ _ (by kernel_rfl)
attribute [local go_sem] build_rk build_ntr build_azb

theorem hld_ctl : ∀ c : Fin 256, hldO c.val ≠ none → ctl c.val = none := by decide +kernel
theorem hld_of : ∀ c : Fin 256, hldO c.val ≠ none → isOf c.val = false := by decide +kernel
theorem dig_na : ∀ c : Fin 256, isD c.val = true → isA c.val = false := by decide +kernel
theorem dig_ctl : ∀ c : Fin 256, isD c.val = true → ctl c.val = none := by decide +kernel
theorem dig_of : ∀ c : Fin 256, isD c.val = true → isOf c.val = false := by decide +kernel
end Go.Proofs.YtdajdolhjaoeiaaGreatDoor.Sc
set_option linter.unusedVariables false
set_option linter.unusedSimpArgs false
namespace Go.Proofs.YtdajdolhjaoeiaaGreatDoor.Sc
open Go.RowKit Go.Proofs.YtdajdolhjaoeiaaGreatDoor.Mem
open Go.Proofs.YtdajdolhjaoeiaaGreatDoor.Sy (g g_of g_lt isS at_)
open Go.Proofs.YtdajdolhjaoeiaaGreatDoor.Cl (isOf)
attribute [local go_sem] build_r0 build_r3 build_r2 build_rk build_ntr build_azb Go.Proofs.YtdajdolhjaoeiaaGreatDoor.Rs.run_not_true Go.Proofs.YtdajdolhjaoeiaaGreatDoor.Rs.run_not_false
set_option maxRecDepth 100000 in
set_option maxHeartbeats 4000000 in
/-- No backslash, or nothing behind it. -/
theorem resc_no (bs : List UInt8) (A : Option Addr) (cap : Nat) (b : Bool) (i : Int) (w : World) (hP : PV bs A cap w) (h : ¬ gz bs i = 92) :
    Calls Tryz.prog 11 #[.slice A bs.length cap, .int .i64 i, .bool b] w (GivesRef (escz bs b i) w) := by
  have hb0 : Below w.heap.size w (w.alloc (.cells #[.int .i64 0, .int .i64 0, .int .i64 0, .string ⟨#[]⟩, .int .u8 0, .bool false] 31)) := (Below.refl w.heap.size w).alloc (Nat.le_refl _) _
  have HP := hide (hP.below hb0)
  have HE := hide (escz_no b h)
  have C0 := hide (rat_any bs A cap i _ (unhide HP))
  have e1 : ¬ ((gz bs i : Int) = 92) := by omega
  clear hP hb0
  generalize gz bs i = y at *
  go_enter Tryz.func11, Tryz.ntmps11
  go_wp2_with fail
  refine (unhide C0).mono ?_
  rintro e w1 ⟨rfl, hw1⟩
  obtain rfl : _ = w1 := hw1.symm
  go_wp2_with fail
  (try simp only [Exit.inBlock, Exit.then])
  exact bodyPost_ret (results_cell2 rfl _ _ w.heap.size _ _ _ rfl rfl (Blk.new _ _ _) Tryz.underlying31 rfl (by kernel_rfl)) rfl ⟨by rw [unhide HE]; rfl, (Below.refl _ _).alloc (Nat.le_refl _) _⟩
set_option maxRecDepth 100000 in
set_option maxHeartbeats 4000000 in
/-- A backslash. -/
theorem resc_in (bs : List UInt8) (A : Option Addr) (cap : Nat) (b : Bool) (k : Nat) (w : World) (hP : PV bs A cap w) (h92 : g bs k = 92) (hk : k < bs.length) (hX1 : ctl (g bs (k + 1)) = none) (hX2 : b = false → hldO (g bs (k + 1)) = none) (hX3 : b = false → g bs (k + 1) ≠ 107) (hX4 : b = false → isD (g bs (k + 1)) = false) :
    Calls Tryz.prog 11 #[.slice A bs.length cap, .int .i64 (k : Int), .bool b] w (GivesRef (escz bs b (k : Int)) w) := by
  have hb0 : Below w.heap.size w (w.alloc (.cells #[.int .i64 0, .int .i64 0, .int .i64 0, .string ⟨#[]⟩, .int .u8 0, .bool false] 31)) := (Below.refl w.heap.size w).alloc (Nat.le_refl _) _
  have HP := hide (hP.below hb0)
  have hroom := hP.room
  have htop := hP.top
  have hki : (k : Int) < (bs.length : Int) := by omega
  have HB0 := hide hb0
  have HK := hide (Blk.new w 31 #[.int .i64 0, .int .i64 0, .int .i64 0, .string ⟨#[]⟩, .int .u8 0, .bool false])
  have HE0 := hide (escz_yes (bs := bs) b h92)
  have C0 := hide (rat_e (unhide HP) (i := (k : Int)) (k := k) (c := 92) rfl h92)
  have HX1 := hide hX1
  have HX2 := hide hX2
  have HX3 := hide hX3
  have HX4 := hide hX4
  clear hP hb0 h92 hX1 hX2 hX3 hX4
  by_cases hl : bs.length ≤ k + 1
  · have HE := hide ((unhide HE0).trans (show escP bs b (k + 1) = .err 32 by
      have hg : g bs (k + 1) = 0 := g_out hl
      cases b <;> simp [escP, comP, hg, hldO, hl]))
    have hli : (bs.length : Int) ≤ (k : Int) + 1 := by omega
    clear HE0 hl
    go_enter Tryz.func11, Tryz.ntmps11
    go_wp2_with fail
    refine (unhide C0).mono ?_
    rintro e w1 ⟨rfl, hw1⟩
    obtain rfl : _ = w1 := hw1.symm
    go_wp2_with fail
    (try simp only [Exit.inBlock, Exit.then])
    exact bodyPost_ret (results_cell2 rfl _ _ w.heap.size _ _ _ rfl rfl (Blk.new _ _ _) Tryz.underlying31 rfl (by kernel_rfl)) rfl ⟨by rw [unhide HE]; rfl, (Below.refl _ _).alloc (Nat.le_refl _) _⟩
  · have hin : k + 1 < bs.length := by omega
    have hini : (k : Int) + 1 < (bs.length : Int) := by omega
    obtain ⟨ab, off, rfl, hb, hc⟩ := (unhide HP).cell hin
    have c1 := hc (k + 1) hin
    have hy := g_lt bs (k + 1)
    have FN := hide (fun W => rfind_any ntrL (g bs (k + 1)) W (by decide))
    have FD := hide (fun W => rfind_any dwsL (g bs (k + 1)) W (by decide))
    have FA := hide (fun W => rfind_any azbL (g bs (k + 1)) W (by decide))
    clear hc hl
    by_cases h120 : g bs (k + 1) = 120
    · have HE := hide ((unhide HE0).trans (show escP bs b (k + 1) = codeP bs (k + 2) by cases b <;> simp [escP, comP, h120, hldO] <;> omega))
      have CC := hide (rcode_any bs (some ⟨ab, off, none⟩) cap (k + 2) _ (unhide HP) (by omega))
      rw [h120] at c1
      clear HE0 FN FD FA h120 hy
      go_enter Tryz.func11, Tryz.ntmps11
      go_wp2_with fail
      refine (unhide C0).mono ?_
      rintro e w1 ⟨rfl, hw1⟩
      obtain rfl : _ = w1 := hw1.symm
      go_wp2_with fail
      refine (unhide CC).mono ?_
      rintro e w1 ⟨rfl, hB⟩
      have HB1 := hide ((unhide HB0).trans (hB.mono (unhide HB0).size))
      have HK1 := hide ((unhide HK).below hB (unhide HK).lt)
      have HEE := hide (unhide HE)
      clear hB CC HB0 HK HP C0
      obtain ⟨⟨x0, x1, x2, x3, x4, x5⟩, y0, y1, y2, y3, y4, y5⟩ := cells6 (unhide HK1)
      unfold rItV
      go_wp2_with fail
      (try simp only [Exit.inBlock, Exit.then])
      exact bodyPost_ret (results_cell2 rfl _ _ w.heap.size _ _ _ rfl rfl (set6 (unhide HK1) _ _ _ _ _ _) Tryz.underlying31 rfl (by kernel_rfl)) rfl ⟨by rw [unhide HE]; rfl, bel6 (unhide HB1) (Nat.le_refl _) _ _ _ _ _ _⟩
    · have e120 : ¬ ((g bs (k + 1) : Int) = 120) := by omega
      have e120' : ((g bs (k + 1) : Int) == 120) = false := by rw [beq_eq_false_iff_ne]; omega
      have hki2 : (k : Int) + 2 ≤ (bs.length : Int) := by omega
      have LT := hide (fun W => rletter_any (g bs (k + 1)) W)
      have DG := hide (fun W => rdigit_any (g bs (k + 1)) W)
      cases hct : ctl (g bs (k + 1)) with
      | some n => exact absurd ((unhide HX1).symm.trans hct) (by simp)
      | none =>
        rw [ntr_no ⟨_, hy⟩ hct] at FN
        cases hof : isOf (g bs (k + 1)) with
        | true =>
          have HE := hide ((unhide HE0).trans (show escP bs b (k + 1) = .cls (g bs (k + 1)) (k + 2) by
            have h1 : comP bs (k + 1) = .cls (g bs (k + 1)) (k + 2) := by unfold comP; rw [if_neg (by omega), if_neg h120, hct]; simp only []; rw [if_pos hof]
            have hm := of_mem hy hof
            unfold escP
            rcases hm with e | e | e | e | e | e <;> cases b <;> simp [e, hldO] <;> (rw [h1, e])))
          have dd : decide (0 ≤ fz dwsL (g bs (k + 1))) = true := by rw [dws_is ⟨_, hy⟩]; exact hof
          clear HE0 h120 hct hof FA LT DG
          generalize fz dwsL (g bs (k + 1)) = z at *
          generalize g bs (k + 1) = y at *
          go_enter Tryz.func11, Tryz.ntmps11
          go_wp2_with fail
          refine (unhide C0).mono ?_
          rintro e w1 ⟨rfl, hw1⟩
          obtain rfl : _ = w1 := hw1.symm
          go_wp2_with fail
          refine ((unhide FN) _).mono ?_
          rintro e w1 ⟨rfl, hw1⟩
          obtain rfl : _ = w1 := hw1.symm
          go_wp2_with fail
          refine ((unhide FD) _).mono ?_
          rintro e w1 ⟨rfl, hw1⟩
          obtain rfl : _ = w1 := hw1.symm
          go_wp2_with fail
          (try simp only [Exit.inBlock, Exit.then])
          exact bodyPost_ret (results_cell2 rfl _ _ w.heap.size _ _ _ rfl rfl (Blk.new _ _ _) Tryz.underlying31 rfl (by kernel_rfl)) rfl ⟨by rw [unhide HE]; rfl, (Below.refl _ _).alloc (Nat.le_refl _) _⟩
        | false =>
          rw [dws_no ⟨_, hy⟩ hof] at FD
          have hcom : comP bs (k + 1) = if isA (g bs (k + 1)) || isD (g bs (k + 1)) then .err 32 else .lit (sym bs (k + 1)).1 (k + 1 + (sym bs (k + 1)).2) := by
            unfold comP
            rw [if_neg (by omega), if_neg h120, hct]
            simp only []
            rw [if_neg (by rw [hof]; simp)]
          cases b with
          | true =>
            by_cases h98 : g bs (k + 1) = 98
            · have HE := hide ((unhide HE0).trans (show escP bs true (k + 1) = .lit 8 (k + 2) by simp [escP, h98]))
              have e98 : ((g bs (k + 1) : Int) == 98) = true := by rw [beq_iff_eq]; omega
              clear HE0 h120 hct hof FA LT DG hcom h98
              generalize g bs (k + 1) = y at *
              go_enter Tryz.func11, Tryz.ntmps11
              go_wp2_with fail
              refine (unhide C0).mono ?_
              rintro e w1 ⟨rfl, hw1⟩
              obtain rfl : _ = w1 := hw1.symm
              go_wp2_with fail
              refine ((unhide FN) _).mono ?_
              rintro e w1 ⟨rfl, hw1⟩
              obtain rfl : _ = w1 := hw1.symm
              go_wp2_with fail
              refine ((unhide FD) _).mono ?_
              rintro e w1 ⟨rfl, hw1⟩
              obtain rfl : _ = w1 := hw1.symm
              go_wp2_with fail
              (try simp only [Exit.inBlock, Exit.then])
              exact bodyPost_ret (results_cell2 rfl _ _ w.heap.size _ _ _ rfl rfl (Blk.new _ _ _) Tryz.underlying31 rfl (by kernel_rfl)) rfl ⟨by rw [unhide HE]; rfl, (Below.refl _ _).alloc (Nat.le_refl _) _⟩
            · have e98 : ((g bs (k + 1) : Int) == 98) = false := by rw [beq_eq_false_iff_ne]; omega
              have hesc : escP bs true (k + 1) = comP bs (k + 1) := by simp [escP, h98]
              cases ha : isA (g bs (k + 1)) with
              | true =>
                rw [ha] at LT hcom
                have HE := hide ((unhide HE0).trans (hesc.trans (hcom.trans (if_pos rfl))))
                clear HE0 h120 hct hof FA DG hcom h98 hesc ha
                generalize g bs (k + 1) = y at *
                go_enter Tryz.func11, Tryz.ntmps11
                go_wp2_with fail
                refine (unhide C0).mono ?_
                rintro e w1 ⟨rfl, hw1⟩
                obtain rfl : _ = w1 := hw1.symm
                go_wp2_with fail
                refine ((unhide FN) _).mono ?_
                rintro e w1 ⟨rfl, hw1⟩
                obtain rfl : _ = w1 := hw1.symm
                go_wp2_with fail
                refine ((unhide FD) _).mono ?_
                rintro e w1 ⟨rfl, hw1⟩
                obtain rfl : _ = w1 := hw1.symm
                go_wp2_with fail
                refine ((unhide LT) _).mono ?_
                rintro e w1 ⟨rfl, hw1⟩
                obtain rfl : _ = w1 := hw1.symm
                go_wp2_with fail
                (try simp only [Exit.inBlock, Exit.then])
                exact bodyPost_ret (results_cell2 rfl _ _ w.heap.size _ _ _ rfl rfl (Blk.new _ _ _) Tryz.underlying31 rfl (by kernel_rfl)) rfl ⟨by rw [unhide HE]; rfl, (Below.refl _ _).alloc (Nat.le_refl _) _⟩
              | false =>
                rw [ha] at LT hcom
                cases hd : isD (g bs (k + 1)) with
                | true =>
                  rw [hd] at DG hcom
                  have HE := hide ((unhide HE0).trans (hesc.trans (hcom.trans (if_pos rfl))))
                  clear HE0 h120 hct hof FA hcom h98 hesc ha hd
                  generalize g bs (k + 1) = y at *
                  go_enter Tryz.func11, Tryz.ntmps11
                  go_wp2_with fail
                  refine (unhide C0).mono ?_
                  rintro e w1 ⟨rfl, hw1⟩
                  obtain rfl : _ = w1 := hw1.symm
                  go_wp2_with fail
                  refine ((unhide FN) _).mono ?_
                  rintro e w1 ⟨rfl, hw1⟩
                  obtain rfl : _ = w1 := hw1.symm
                  go_wp2_with fail
                  refine ((unhide FD) _).mono ?_
                  rintro e w1 ⟨rfl, hw1⟩
                  obtain rfl : _ = w1 := hw1.symm
                  go_wp2_with fail
                  refine ((unhide LT) _).mono ?_
                  rintro e w1 ⟨rfl, hw1⟩
                  obtain rfl : _ = w1 := hw1.symm
                  go_wp2_with fail
                  refine ((unhide DG) _).mono ?_
                  rintro e w1 ⟨rfl, hw1⟩
                  obtain rfl : _ = w1 := hw1.symm
                  go_wp2_with fail
                  (try simp only [Exit.inBlock, Exit.then])
                  exact bodyPost_ret (results_cell2 rfl _ _ w.heap.size _ _ _ rfl rfl (Blk.new _ _ _) Tryz.underlying31 rfl (by kernel_rfl)) rfl ⟨by rw [unhide HE]; rfl, (Below.refl _ _).alloc (Nat.le_refl _) _⟩
                | false =>
                  rw [hd] at DG hcom
                  have HE := hide ((unhide HE0).trans (hesc.trans (hcom.trans (if_neg (by simp)))))
                  have CA := hide (Ref.ref_at bs _ (k + 1) cap (some ⟨ab, off, none⟩) _ hin (by omega) (unhide HP).reads)
                  rw [show at_ bs (k + 1) = sym bs (k + 1) by unfold sym; rw [if_pos hin]] at CA
                  obtain ⟨l1, l2, l3, l4, l5, l6⟩ := sym_like2 bs (k + 1)
                  have l7 := sym_snd hin
                  have l8 : (k : Int) + 1 + ((sym bs (k + 1)).2 : Int) ≤ (bs.length : Int) := by omega
                  clear HE0 h120 hct hof FA hcom h98 hesc ha hd l1 l2 l3 l4 l5 l7
                  generalize g bs (k + 1) = y at *
                  generalize sym bs (k + 1) = q at *
                  go_enter Tryz.func11, Tryz.ntmps11
                  go_wp2_with fail
                  refine (unhide C0).mono ?_
                  rintro e w1 ⟨rfl, hw1⟩
                  obtain rfl : _ = w1 := hw1.symm
                  go_wp2_with fail
                  refine ((unhide FN) _).mono ?_
                  rintro e w1 ⟨rfl, hw1⟩
                  obtain rfl : _ = w1 := hw1.symm
                  go_wp2_with fail
                  refine ((unhide FD) _).mono ?_
                  rintro e w1 ⟨rfl, hw1⟩
                  obtain rfl : _ = w1 := hw1.symm
                  go_wp2_with fail
                  refine ((unhide LT) _).mono ?_
                  rintro e w1 ⟨rfl, hw1⟩
                  obtain rfl : _ = w1 := hw1.symm
                  go_wp2_with fail
                  refine ((unhide DG) _).mono ?_
                  rintro e w1 ⟨rfl, hw1⟩
                  obtain rfl : _ = w1 := hw1.symm
                  go_wp2_with fail
                  refine (unhide CA).mono ?_
                  rintro e w1 ⟨rfl, hw1⟩
                  obtain rfl : _ = w1 := hw1.symm
                  go_wp2_with fail
                  (try simp only [Exit.inBlock, Exit.then])
                  exact bodyPost_ret (results_cell2 rfl _ _ w.heap.size _ _ _ rfl rfl (Blk.new _ _ _) Tryz.underlying31 rfl (by kernel_rfl)) rfl ⟨by rw [unhide HE]; rfl, (Below.refl _ _).alloc (Nat.le_refl _) _⟩
          | false =>
            cases ha : isA (g bs (k + 1)) with
            | true =>
              rw [ha] at LT hcom
              cases hh : hldO (g bs (k + 1)) with
              | some n => exact absurd (((unhide HX2) rfl).symm.trans hh) (by simp)
              | none =>
                rw [azb_no ⟨_, hy⟩ hh] at FA
                have hl9 : 65 ≤ g bs (k + 1) := by rw [isA_iff] at ha; omega
                have g1 : decide (49 ≤ g bs (k + 1)) = true := decide_eq_true (by omega)
                have g2 : decide (g bs (k + 1) ≤ 57) = false := decide_eq_false (by omega)
                have g3 : decide (49 ≤ (g bs (k + 1) : Int)) = true := decide_eq_true (by omega)
                have g4 : decide ((g bs (k + 1) : Int) ≤ 57) = false := decide_eq_false (by omega)
                by_cases h107 : g bs (k + 1) = 107
                · exact absurd h107 ((unhide HX3) rfl)
                · have HE := hide ((unhide HE0).trans (show escP bs false (k + 1) = .err 32 by
                    unfold escP
                    rw [if_neg (by simp), if_neg h107, if_neg (by omega), hh]
                    exact hcom.trans (if_pos rfl)))
                  have n107 : ¬ ((g bs (k + 1) : Int) = 107) := by omega
                  have n107' : ((g bs (k + 1) : Int) == 107) = false := by rw [beq_eq_false_iff_ne]; omega
                  clear HE0 h120 hct hof hcom ha hh DG h107
                  generalize g bs (k + 1) = y at *
                  go_enter Tryz.func11, Tryz.ntmps11
                  go_wp2_with fail
                  refine (unhide C0).mono ?_
                  rintro e w1 ⟨rfl, hw1⟩
                  obtain rfl : _ = w1 := hw1.symm
                  go_wp2_with fail
                  refine ((unhide FN) _).mono ?_
                  rintro e w1 ⟨rfl, hw1⟩
                  obtain rfl : _ = w1 := hw1.symm
                  go_wp2_with fail
                  refine ((unhide FD) _).mono ?_
                  rintro e w1 ⟨rfl, hw1⟩
                  obtain rfl : _ = w1 := hw1.symm
                  go_wp2_with fail
                  refine ((unhide LT) _).mono ?_
                  rintro e w1 ⟨rfl, hw1⟩
                  obtain rfl : _ = w1 := hw1.symm
                  go_wp2_with fail
                  refine ((unhide FA) _).mono ?_
                  rintro e w1 ⟨rfl, hw1⟩
                  obtain rfl : _ = w1 := hw1.symm
                  go_wp2_with fail
                  (try simp only [Exit.inBlock, Exit.then])
                  exact bodyPost_ret (results_cell2 rfl _ _ w.heap.size _ _ _ rfl rfl (Blk.new _ _ _) Tryz.underlying31 rfl (by kernel_rfl)) rfl ⟨by rw [unhide HE]; rfl, (Below.refl _ _).alloc (Nat.le_refl _) _⟩
            | false =>
              rw [ha] at LT hcom
              have hh : hldO (g bs (k + 1)) = none := azb_na ⟨_, hy⟩ ha
              cases hd : isD (g bs (k + 1)) with
              | true => exact absurd (((unhide HX4) rfl).symm.trans hd) (by simp)
              | false =>
                rw [hd] at DG hcom
                have hesc : escP bs false (k + 1) = comP bs (k + 1) := by
                  unfold escP
                  rw [if_neg (by simp), if_neg (fun h => by rw [h] at ha; cases ha), if_neg (fun h => by rw [(isD_iff (c := g bs (k + 1))).2 ⟨by omega, h.2⟩] at hd; cases hd), hh]
                have HE := hide ((unhide HE0).trans (hesc.trans (hcom.trans (if_neg (by simp)))))
                have CA := hide (Ref.ref_at bs _ (k + 1) cap (some ⟨ab, off, none⟩) _ hin (by omega) (unhide HP).reads)
                rw [show at_ bs (k + 1) = sym bs (k + 1) by unfold sym; rw [if_pos hin]] at CA
                obtain ⟨l1, l2, l3, l4, l5, l6⟩ := sym_like2 bs (k + 1)
                have l7 := sym_snd hin
                have l8 : (k : Int) + 1 + ((sym bs (k + 1)).2 : Int) ≤ (bs.length : Int) := by omega
                clear HE0 h120 hct hof FA hcom ha hd hh hesc l1 l2 l3 l4 l5 l7
                generalize g bs (k + 1) = y at *
                generalize sym bs (k + 1) = q at *
                go_enter Tryz.func11, Tryz.ntmps11
                go_wp2_with fail
                refine (unhide C0).mono ?_
                rintro e w1 ⟨rfl, hw1⟩
                obtain rfl : _ = w1 := hw1.symm
                go_wp2_with fail
                refine ((unhide FN) _).mono ?_
                rintro e w1 ⟨rfl, hw1⟩
                obtain rfl : _ = w1 := hw1.symm
                go_wp2_with fail
                refine ((unhide FD) _).mono ?_
                rintro e w1 ⟨rfl, hw1⟩
                obtain rfl : _ = w1 := hw1.symm
                go_wp2_with fail
                refine ((unhide LT) _).mono ?_
                rintro e w1 ⟨rfl, hw1⟩
                obtain rfl : _ = w1 := hw1.symm
                go_wp2_with fail
                refine ((unhide DG) _).mono ?_
                rintro e w1 ⟨rfl, hw1⟩
                obtain rfl : _ = w1 := hw1.symm
                go_wp2_with fail
                refine (unhide CA).mono ?_
                rintro e w1 ⟨rfl, hw1⟩
                obtain rfl : _ = w1 := hw1.symm
                go_wp2_with fail
                (try simp only [Exit.inBlock, Exit.then])
                exact bodyPost_ret (results_cell2 rfl _ _ w.heap.size _ _ _ rfl rfl (Blk.new _ _ _) Tryz.underlying31 rfl (by kernel_rfl)) rfl ⟨by rw [unhide HE]; rfl, (Below.refl _ _).alloc (Nat.le_refl _) _⟩
end Go.Proofs.YtdajdolhjaoeiaaGreatDoor.Sc
set_option linter.unusedVariables false
set_option linter.unusedSimpArgs false
namespace Go.Proofs.YtdajdolhjaoeiaaGreatDoor.Sc
open Go.RowKit Go.Proofs.YtdajdolhjaoeiaaGreatDoor.Mem
open Go.Proofs.YtdajdolhjaoeiaaGreatDoor.Sy (g g_of g_lt isS at_)
open Go.Proofs.YtdajdolhjaoeiaaGreatDoor.Cl (isOf)
attribute [local go_sem] build_r0 build_r3 build_r2 build_rk build_ntr build_azb Go.Proofs.YtdajdolhjaoeiaaGreatDoor.Rs.run_not_true Go.Proofs.YtdajdolhjaoeiaaGreatDoor.Rs.run_not_false
set_option maxRecDepth 100000 in
set_option maxHeartbeats 4000000 in
theorem resc_ctl (bs : List UInt8) (A : Option Addr) (cap : Nat) (bb : Bool) (k : Nat) (w : World) (hP : PV bs A cap w) (h92 : g bs k = 92) (hk : k < bs.length) (hin : k + 1 < bs.length) (n : Nat) (hct : ctl (g bs (k + 1)) = some n) :
    Calls Tryz.prog 11 #[.slice A bs.length cap, .int .i64 (k : Int), .bool bb] w (GivesRef (escz bs bb (k : Int)) w) := by
  have hb0 : Below w.heap.size w (w.alloc (.cells #[.int .i64 0, .int .i64 0, .int .i64 0, .string ⟨#[]⟩, .int .u8 0, .bool false] 31)) := (Below.refl w.heap.size w).alloc (Nat.le_refl _) _
  have HP := hide (hP.below hb0)
  have hroom := hP.room
  have htop := hP.top
  have hki : (k : Int) < (bs.length : Int) := by omega
  have HB0 := hide hb0
  have HK := hide (Blk.new w 31 #[.int .i64 0, .int .i64 0, .int .i64 0, .string ⟨#[]⟩, .int .u8 0, .bool false])
  have HE0 := hide (escz_yes (bs := bs) bb h92)
  have C0 := hide (rat_e (unhide HP) (i := (k : Int)) (k := k) (c := 92) rfl h92)
  clear hP hb0 h92
  have hini : (k : Int) + 1 < (bs.length : Int) := by omega
  obtain ⟨ab, off, rfl, hb, hc⟩ := (unhide HP).cell hin
  have c1 := hc (k + 1) hin
  have HCZ := hide hc
  have hy := g_lt bs (k + 1)
  have FN := hide (fun W => rfind_any ntrL (g bs (k + 1)) W (by decide))
  have FD := hide (fun W => rfind_any dwsL (g bs (k + 1)) W (by decide))
  have FA := hide (fun W => rfind_any azbL (g bs (k + 1)) W (by decide))
  clear hc
  have hki2 : (k : Int) + 2 ≤ (bs.length : Int) := by omega
  have LT := hide (fun W => rletter_any (g bs (k + 1)) W)
  have DG := hide (fun W => rdigit_any (g bs (k + 1)) W)
  have h120 : g bs (k + 1) ≠ 120 := by intro h; rw [h] at hct; cases hct
  have e120 : ¬ ((g bs (k + 1) : Int) = 120) := by omega
  have e120' : ((g bs (k + 1) : Int) == 120) = false := by rw [beq_eq_false_iff_ne]; omega
  obtain ⟨q1, q2, q3, q4, z, hz, hz7, hzn⟩ := ntr_some hct
  have HE := hide ((unhide HE0).trans (show escP bs bb (k + 1) = .lit n (k + 2) by
    have hcom : comP bs (k + 1) = .lit n (k + 2) := by unfold comP; rw [if_neg (by omega), if_neg h120, hct]
    unfold escP
    cases bb
    · rw [if_neg (by simp), if_neg q3, if_neg q4, q1]; exact hcom
    · rw [if_pos rfl, if_neg q2]; exact hcom))
  rw [hz] at FN
  have hzi : (z : Int) < 7 := by omega
  have cz : ((w.alloc (.cells #[.int .i64 0, .int .i64 0, .int .i64 0, .string ⟨#[]⟩, .int .u8 0, .bool false] 31)).alloc (.cells #[.int .i64 10, .int .i64 9, .int .i64 13, .int .i64 12, .int .i64 11, .int .i64 7, .int .i64 27] 74)).cell? ⟨w.heap.size + 1, z, none⟩ = some (.int .i64 (n : Int)) := by
    have h := (Blk.new (w.alloc (.cells #[.int .i64 0, .int .i64 0, .int .i64 0, .string ⟨#[]⟩, .int .u8 0, .bool false] 31)) 74 #[.int .i64 10, .int .i64 9, .int .i64 13, .int .i64 12, .int .i64 11, .int .i64 7, .int .i64 27]).cell z
    rw [World.size_alloc] at h
    exact h.trans (ntr_cell hzn)
  clear HE0 FD FA LT DG h120 hct q1 q2 q3 q4 hz hzn
  generalize g bs (k + 1) = y at *
  go_enter Tryz.func11, Tryz.ntmps11
  go_wp2_with fail
  refine (unhide C0).mono ?_
  rintro e w1 ⟨rfl, hw1⟩
  obtain rfl : _ = w1 := hw1.symm
  go_wp2_with fail
  refine ((unhide FN) _).mono ?_
  rintro e w1 ⟨rfl, hw1⟩
  obtain rfl : _ = w1 := hw1.symm
  go_wp2_with fail
  (try simp only [Exit.inBlock, Exit.then])
  exact bodyPost_ret (results_cell2 rfl _ _ w.heap.size _ _ _ rfl rfl ((Blk.new w _ _).alloc _) Tryz.underlying31 rfl (by kernel_rfl)) rfl ⟨by rw [unhide HE]; rfl, ((Below.refl _ w).alloc (Nat.le_refl _) _).alloc (by simp) _⟩
end Go.Proofs.YtdajdolhjaoeiaaGreatDoor.Sc
set_option linter.unusedVariables false
set_option linter.unusedSimpArgs false
namespace Go.Proofs.YtdajdolhjaoeiaaGreatDoor.Sc
open Go.RowKit Go.Proofs.YtdajdolhjaoeiaaGreatDoor.Mem
open Go.Proofs.YtdajdolhjaoeiaaGreatDoor.Sy (g g_of g_lt isS at_)
open Go.Proofs.YtdajdolhjaoeiaaGreatDoor.Cl (isOf)
attribute [local go_sem] build_r0 build_r3 build_r2 build_rk build_ntr build_azb Go.Proofs.YtdajdolhjaoeiaaGreatDoor.Rs.run_not_true Go.Proofs.YtdajdolhjaoeiaaGreatDoor.Rs.run_not_false
set_option maxRecDepth 100000 in
set_option maxHeartbeats 4000000 in
theorem resc_hld (bs : List UInt8) (A : Option Addr) (cap : Nat) (k : Nat) (w : World) (hP : PV bs A cap w) (h92 : g bs k = 92) (hk : k < bs.length) (hin : k + 1 < bs.length) (n : Nat) (hh : hldO (g bs (k + 1)) = some n) :
    Calls Tryz.prog 11 #[.slice A bs.length cap, .int .i64 (k : Int), .bool false] w (GivesRef (escz bs false (k : Int)) w) := by
  have hb0 : Below w.heap.size w (w.alloc (.cells #[.int .i64 0, .int .i64 0, .int .i64 0, .string ⟨#[]⟩, .int .u8 0, .bool false] 31)) := (Below.refl w.heap.size w).alloc (Nat.le_refl _) _
  have HP := hide (hP.below hb0)
  have hroom := hP.room
  have htop := hP.top
  have hki : (k : Int) < (bs.length : Int) := by omega
  have HB0 := hide hb0
  have HK := hide (Blk.new w 31 #[.int .i64 0, .int .i64 0, .int .i64 0, .string ⟨#[]⟩, .int .u8 0, .bool false])
  have HE0 := hide (escz_yes (bs := bs) false h92)
  have C0 := hide (rat_e (unhide HP) (i := (k : Int)) (k := k) (c := 92) rfl h92)
  clear hP hb0 h92
  have hini : (k : Int) + 1 < (bs.length : Int) := by omega
  obtain ⟨ab, off, rfl, hb, hc⟩ := (unhide HP).cell hin
  have c1 := hc (k + 1) hin
  have HCZ := hide hc
  have hy := g_lt bs (k + 1)
  have FN := hide (fun W => rfind_any ntrL (g bs (k + 1)) W (by decide))
  have FD := hide (fun W => rfind_any dwsL (g bs (k + 1)) W (by decide))
  have FA := hide (fun W => rfind_any azbL (g bs (k + 1)) W (by decide))
  clear hc
  have hki2 : (k : Int) + 2 ≤ (bs.length : Int) := by omega
  have LT := hide (fun W => rletter_any (g bs (k + 1)) W)
  have DG := hide (fun W => rdigit_any (g bs (k + 1)) W)
  have h120 : g bs (k + 1) ≠ 120 := by intro h; rw [h] at hh; cases hh
  have e120 : ¬ ((g bs (k + 1) : Int) = 120) := by omega
  have e120' : ((g bs (k + 1) : Int) == 120) = false := by rw [beq_eq_false_iff_ne]; omega
  have hct : ctl (g bs (k + 1)) = none := hld_ctl ⟨_, hy⟩ (by rw [hh]; simp)
  have hof : isOf (g bs (k + 1)) = false := hld_of ⟨_, hy⟩ (by rw [hh]; simp)
  have ha : isA (g bs (k + 1)) = true := by
    cases h : isA (g bs (k + 1)) with
    | true => rfl
    | false => rw [azb_na ⟨_, hy⟩ h] at hh; cases hh
  rw [ha] at LT
  rw [ntr_no ⟨_, hy⟩ hct] at FN
  rw [dws_no ⟨_, hy⟩ hof] at FD
  obtain ⟨q3, q4, z, hz, hz5, hzn⟩ := azb_some hh
  have HE := hide ((unhide HE0).trans (show escP bs false (k + 1) = .hld n (k + 2) by
    unfold escP
    rw [if_neg (by simp), if_neg q3, if_neg q4, hh]))
  rw [hz] at FA
  have hzi : (z : Int) < 5 := by omega
  have cz : ((w.alloc (.cells #[.int .i64 0, .int .i64 0, .int .i64 0, .string ⟨#[]⟩, .int .u8 0, .bool false] 31)).alloc (.cells #[.int .i64 1, .int .i64 2, .int .i64 3, .int .i64 6, .int .i64 7] 76)).cell? ⟨w.heap.size + 1, z, none⟩ = some (.int .i64 (n : Int)) := by
    have h := (Blk.new (w.alloc (.cells #[.int .i64 0, .int .i64 0, .int .i64 0, .string ⟨#[]⟩, .int .u8 0, .bool false] 31)) 76 #[.int .i64 1, .int .i64 2, .int .i64 3, .int .i64 6, .int .i64 7]).cell z
    rw [World.size_alloc] at h
    exact h.trans (azb_cell hzn)
  clear HE0 DG h120 hct hof ha hh q3 q4 hz hzn
  generalize g bs (k + 1) = y at *
  go_enter Tryz.func11, Tryz.ntmps11
  go_wp2_with fail
  refine (unhide C0).mono ?_
  rintro e w1 ⟨rfl, hw1⟩
  obtain rfl : _ = w1 := hw1.symm
  go_wp2_with fail
  refine ((unhide FN) _).mono ?_
  rintro e w1 ⟨rfl, hw1⟩
  obtain rfl : _ = w1 := hw1.symm
  go_wp2_with fail
  refine ((unhide FD) _).mono ?_
  rintro e w1 ⟨rfl, hw1⟩
  obtain rfl : _ = w1 := hw1.symm
  go_wp2_with fail
  refine ((unhide LT) _).mono ?_
  rintro e w1 ⟨rfl, hw1⟩
  obtain rfl : _ = w1 := hw1.symm
  go_wp2_with fail
  refine ((unhide FA) _).mono ?_
  rintro e w1 ⟨rfl, hw1⟩
  obtain rfl : _ = w1 := hw1.symm
  go_wp2_with fail
  (try simp only [Exit.inBlock, Exit.then])
  exact bodyPost_ret (results_cell2 rfl _ _ w.heap.size _ _ _ rfl rfl ((Blk.new w _ _).alloc _) Tryz.underlying31 rfl (by kernel_rfl)) rfl ⟨by rw [unhide HE]; rfl, ((Below.refl _ w).alloc (Nat.le_refl _) _).alloc (by simp) _⟩
end Go.Proofs.YtdajdolhjaoeiaaGreatDoor.Sc
set_option linter.unusedVariables false
set_option linter.unusedSimpArgs false
namespace Go.Proofs.YtdajdolhjaoeiaaGreatDoor.Sc
open Go.RowKit Go.Proofs.YtdajdolhjaoeiaaGreatDoor.Mem
open Go.Proofs.YtdajdolhjaoeiaaGreatDoor.Sy (g g_of g_lt isS at_)
open Go.Proofs.YtdajdolhjaoeiaaGreatDoor.Cl (isOf)
attribute [local go_sem] build_r0 build_r3 build_r2 build_rk build_ntr build_azb Go.Proofs.YtdajdolhjaoeiaaGreatDoor.Rs.run_not_true Go.Proofs.YtdajdolhjaoeiaaGreatDoor.Rs.run_not_false
set_option maxRecDepth 100000 in
set_option maxHeartbeats 4000000 in
theorem resc_key (bs : List UInt8) (A : Option Addr) (cap : Nat) (k : Nat) (w : World) (hP : PV bs A cap w) (h92 : g bs k = 92) (hk : k < bs.length) (hin : k + 1 < bs.length) (h107 : g bs (k + 1) = 107) :
    Calls Tryz.prog 11 #[.slice A bs.length cap, .int .i64 (k : Int), .bool false] w (GivesRef (escz bs false (k : Int)) w) := by
  have hb0 : Below w.heap.size w (w.alloc (.cells #[.int .i64 0, .int .i64 0, .int .i64 0, .string ⟨#[]⟩, .int .u8 0, .bool false] 31)) := (Below.refl w.heap.size w).alloc (Nat.le_refl _) _
  have HP := hide (hP.below hb0)
  have hroom := hP.room
  have htop := hP.top
  have hki : (k : Int) < (bs.length : Int) := by omega
  have HB0 := hide hb0
  have HK := hide (Blk.new w 31 #[.int .i64 0, .int .i64 0, .int .i64 0, .string ⟨#[]⟩, .int .u8 0, .bool false])
  have HE0 := hide (escz_yes (bs := bs) false h92)
  have C0 := hide (rat_e (unhide HP) (i := (k : Int)) (k := k) (c := 92) rfl h92)
  clear hP hb0 h92
  have hini : (k : Int) + 1 < (bs.length : Int) := by omega
  obtain ⟨ab, off, rfl, hb, hc⟩ := (unhide HP).cell hin
  have c1 := hc (k + 1) hin
  have HCZ := hide hc
  have hy := g_lt bs (k + 1)
  have FN := hide (fun W => rfind_any ntrL (g bs (k + 1)) W (by decide))
  have FD := hide (fun W => rfind_any dwsL (g bs (k + 1)) W (by decide))
  have FA := hide (fun W => rfind_any azbL (g bs (k + 1)) W (by decide))
  clear hc
  have hki2 : (k : Int) + 2 ≤ (bs.length : Int) := by omega
  have LT := hide (fun W => rletter_any (g bs (k + 1)) W)
  have DG := hide (fun W => rdigit_any (g bs (k + 1)) W)
  have h120 : g bs (k + 1) ≠ 120 := by omega
  have e120 : ¬ ((g bs (k + 1) : Int) = 120) := by omega
  have e120' : ((g bs (k + 1) : Int) == 120) = false := by rw [beq_eq_false_iff_ne]; omega
  have hct : ctl (g bs (k + 1)) = none := by rw [h107]; rfl
  have hof : isOf (g bs (k + 1)) = false := by rw [h107]; rfl
  have ha : isA (g bs (k + 1)) = true := by rw [h107]; rfl
  have hh : hldO (g bs (k + 1)) = none := by rw [h107]; rfl
  rw [ha] at LT
  rw [azb_no ⟨_, hy⟩ hh] at FA
  rw [ntr_no ⟨_, hy⟩ hct] at FN
  rw [dws_no ⟨_, hy⟩ hof] at FD
  have hk60 := hide ((unhide HE0).trans (show escP bs false (k + 1) = keyP bs (k + 2) by unfold escP; rw [if_neg (by simp), if_pos h107]))
  rw [h107] at c1 LT FN FD FA
  clear HE0 h120 hct hof ha hh DG hy e120 e120' h107
  by_cases h60 : g bs (k + 2) = 60
  · have hk3 := g_in (bs := bs) (k := k + 2) (by omega)
    have hki3 : (k : Int) + 3 ≤ (bs.length : Int) := by omega
    have C2 := hide (rat_e (unhide HP) (i := (k : Int) + 2) (k := k + 2) (c := 60) (by push_cast; rfl) h60)
    have CN := hide (rname_any bs (some ⟨ab, off, none⟩) cap ((k : Int) + 3) _ (unhide HP))
    rw [namez_at] at CN
    cases hN : nameP bs (k + 3) with
    | none =>
      rw [hN] at CN
      have HE := hide ((unhide hk60).trans (show keyP bs (k + 2) = .err 36 by unfold keyP; rw [if_pos h60, hN]))
      clear hk60 hN h60 hk3
      unfold GivesN namV at CN
      go_enter Tryz.func11, Tryz.ntmps11
      go_wp2_with fail
      refine (unhide C0).mono ?_
      rintro e w1 ⟨rfl, hw1⟩
      obtain rfl : _ = w1 := hw1.symm
      go_wp2_with fail
      refine ((unhide FN) _).mono ?_
      rintro e w1 ⟨rfl, hw1⟩
      obtain rfl : _ = w1 := hw1.symm
      go_wp2_with fail
      refine ((unhide FD) _).mono ?_
      rintro e w1 ⟨rfl, hw1⟩
      obtain rfl : _ = w1 := hw1.symm
      go_wp2_with fail
      refine ((unhide LT) _).mono ?_
      rintro e w1 ⟨rfl, hw1⟩
      obtain rfl : _ = w1 := hw1.symm
      go_wp2_with fail
      refine ((unhide FA) _).mono ?_
      rintro e w1 ⟨rfl, hw1⟩
      obtain rfl : _ = w1 := hw1.symm
      go_wp2_with fail
      refine (unhide C2).mono ?_
      rintro e w1 ⟨rfl, hw1⟩
      obtain rfl : _ = w1 := hw1.symm
      go_wp2_with fail
      refine (unhide CN).mono ?_
      rintro e w1 ⟨rfl, hB⟩
      have HB1 := hide ((unhide HB0).trans (hB.mono (unhide HB0).size))
      have HK1 := hide ((unhide HK).below hB (unhide HK).lt)
      have HEE := hide (unhide HE)
      clear hB CN HB0 HK HP C0 C2
      obtain ⟨⟨x0, x1, x2, x3, x4, x5⟩, y0, y1, y2, y3, y4, y5⟩ := cells6 (unhide HK1)
      go_wp2_with fail
      (try simp only [Exit.inBlock, Exit.then])
      exact bodyPost_ret (results_cell2 rfl _ _ w.heap.size _ _ _ rfl rfl (set6 (unhide HK1) _ _ _ _ _ _) Tryz.underlying31 rfl (by kernel_rfl)) rfl ⟨by rw [unhide HE]; rfl, bel6 (unhide HB1) (Nat.le_refl _) _ _ _ _ _ _⟩
    | some q =>
      obtain ⟨s, q⟩ := q
      rw [hN] at CN
      have HE := hide ((unhide hk60).trans (show keyP bs (k + 2) = .key s q by unfold keyP; rw [if_pos h60, hN]))
      clear hk60 hN h60 hk3
      unfold GivesN namV at CN
      go_enter Tryz.func11, Tryz.ntmps11
      go_wp2_with fail
      refine (unhide C0).mono ?_
      rintro e w1 ⟨rfl, hw1⟩
      obtain rfl : _ = w1 := hw1.symm
      go_wp2_with fail
      refine ((unhide FN) _).mono ?_
      rintro e w1 ⟨rfl, hw1⟩
      obtain rfl : _ = w1 := hw1.symm
      go_wp2_with fail
      refine ((unhide FD) _).mono ?_
      rintro e w1 ⟨rfl, hw1⟩
      obtain rfl : _ = w1 := hw1.symm
      go_wp2_with fail
      refine ((unhide LT) _).mono ?_
      rintro e w1 ⟨rfl, hw1⟩
      obtain rfl : _ = w1 := hw1.symm
      go_wp2_with fail
      refine ((unhide FA) _).mono ?_
      rintro e w1 ⟨rfl, hw1⟩
      obtain rfl : _ = w1 := hw1.symm
      go_wp2_with fail
      refine (unhide C2).mono ?_
      rintro e w1 ⟨rfl, hw1⟩
      obtain rfl : _ = w1 := hw1.symm
      go_wp2_with fail
      refine (unhide CN).mono ?_
      rintro e w1 ⟨rfl, hB⟩
      have HB1 := hide ((unhide HB0).trans (hB.mono (unhide HB0).size))
      have HK1 := hide ((unhide HK).below hB (unhide HK).lt)
      have HEE := hide (unhide HE)
      clear hB CN HB0 HK HP C0 C2
      obtain ⟨⟨x0, x1, x2, x3, x4, x5⟩, y0, y1, y2, y3, y4, y5⟩ := cells6 (unhide HK1)
      go_wp2_with fail
      (try simp only [Exit.inBlock, Exit.then])
      exact bodyPost_ret (results_cell2 rfl _ _ w.heap.size _ _ _ rfl rfl (set6 (unhide HK1) _ _ _ _ _ _) Tryz.underlying31 rfl (by kernel_rfl)) rfl ⟨by rw [unhide HE]; rfl, bel6 (unhide HB1) (Nat.le_refl _) _ _ _ _ _ _⟩
  · have HE := hide ((unhide hk60).trans (show keyP bs (k + 2) = .err 36 by unfold keyP; rw [if_neg h60]))
    have C2 := hide (rat_e (unhide HP) (i := (k : Int) + 2) (k := k + 2) (c := g bs (k + 2)) (by push_cast; rfl) rfl)
    have e60 : ((g bs (k + 2) : Int) == 60) = false := by rw [beq_eq_false_iff_ne]; omega
    have e60' : ¬ ((g bs (k + 2) : Int) = 60) := by omega
    clear hk60 h60
    generalize g bs (k + 2) = y2 at *
    go_enter Tryz.func11, Tryz.ntmps11
    go_wp2_with fail
    refine (unhide C0).mono ?_
    rintro e w1 ⟨rfl, hw1⟩
    obtain rfl : _ = w1 := hw1.symm
    go_wp2_with fail
    refine ((unhide FN) _).mono ?_
    rintro e w1 ⟨rfl, hw1⟩
    obtain rfl : _ = w1 := hw1.symm
    go_wp2_with fail
    refine ((unhide FD) _).mono ?_
    rintro e w1 ⟨rfl, hw1⟩
    obtain rfl : _ = w1 := hw1.symm
    go_wp2_with fail
    refine ((unhide LT) _).mono ?_
    rintro e w1 ⟨rfl, hw1⟩
    obtain rfl : _ = w1 := hw1.symm
    go_wp2_with fail
    refine ((unhide FA) _).mono ?_
    rintro e w1 ⟨rfl, hw1⟩
    obtain rfl : _ = w1 := hw1.symm
    go_wp2_with fail
    refine (unhide C2).mono ?_
    rintro e w1 ⟨rfl, hw1⟩
    obtain rfl : _ = w1 := hw1.symm
    go_wp2_with fail
    (try simp only [Exit.inBlock, Exit.then])
    exact bodyPost_ret (results_cell2 rfl _ _ w.heap.size _ _ _ rfl rfl (Blk.new _ _ _) Tryz.underlying31 rfl (by kernel_rfl)) rfl ⟨by rw [unhide HE]; rfl, (Below.refl _ _).alloc (Nat.le_refl _) _⟩
end Go.Proofs.YtdajdolhjaoeiaaGreatDoor.Sc
set_option linter.unusedVariables false
set_option linter.unusedSimpArgs false
namespace Go.Proofs.YtdajdolhjaoeiaaGreatDoor.Sc
open Go.RowKit Go.Proofs.YtdajdolhjaoeiaaGreatDoor.Mem
open Go.Proofs.YtdajdolhjaoeiaaGreatDoor.Sy (g g_of g_lt isS at_)
open Go.Proofs.YtdajdolhjaoeiaaGreatDoor.Cl (isOf)
attribute [local go_sem] build_r0 build_r3 build_r2 build_rk build_ntr build_azb Go.Proofs.YtdajdolhjaoeiaaGreatDoor.Rs.run_not_true Go.Proofs.YtdajdolhjaoeiaaGreatDoor.Rs.run_not_false
set_option maxRecDepth 100000 in
set_option maxHeartbeats 4000000 in
theorem resc_dig (bs : List UInt8) (A : Option Addr) (cap : Nat) (k : Nat) (w : World) (hP : PV bs A cap w) (h92 : g bs k = 92) (hk : k < bs.length) (hin : k + 1 < bs.length) (hd : isD (g bs (k + 1)) = true) :
    Calls Tryz.prog 11 #[.slice A bs.length cap, .int .i64 (k : Int), .bool false] w (GivesRef (escz bs false (k : Int)) w) := by
  have hb0 : Below w.heap.size w (w.alloc (.cells #[.int .i64 0, .int .i64 0, .int .i64 0, .string ⟨#[]⟩, .int .u8 0, .bool false] 31)) := (Below.refl w.heap.size w).alloc (Nat.le_refl _) _
  have HP := hide (hP.below hb0)
  have hroom := hP.room
  have htop := hP.top
  have hki : (k : Int) < (bs.length : Int) := by omega
  have HB0 := hide hb0
  have HK := hide (Blk.new w 31 #[.int .i64 0, .int .i64 0, .int .i64 0, .string ⟨#[]⟩, .int .u8 0, .bool false])
  have HE0 := hide (escz_yes (bs := bs) false h92)
  have C0 := hide (rat_e (unhide HP) (i := (k : Int)) (k := k) (c := 92) rfl h92)
  clear hP hb0 h92
  have hini : (k : Int) + 1 < (bs.length : Int) := by omega
  obtain ⟨ab, off, rfl, hb, hc⟩ := (unhide HP).cell hin
  have c1 := hc (k + 1) hin
  have HCZ := hide hc
  have hy := g_lt bs (k + 1)
  have FN := hide (fun W => rfind_any ntrL (g bs (k + 1)) W (by decide))
  have FD := hide (fun W => rfind_any dwsL (g bs (k + 1)) W (by decide))
  have FA := hide (fun W => rfind_any azbL (g bs (k + 1)) W (by decide))
  clear hc
  have hki2 : (k : Int) + 2 ≤ (bs.length : Int) := by omega
  have LT := hide (fun W => rletter_any (g bs (k + 1)) W)
  have DG := hide (fun W => rdigit_any (g bs (k + 1)) W)
  have h120 : g bs (k + 1) ≠ 120 := by rw [isD_iff] at hd; omega
  have e120 : ¬ ((g bs (k + 1) : Int) = 120) := by omega
  have e120' : ((g bs (k + 1) : Int) == 120) = false := by rw [beq_eq_false_iff_ne]; omega
  have ha : isA (g bs (k + 1)) = false := dig_na ⟨_, hy⟩ hd
  have hct : ctl (g bs (k + 1)) = none := dig_ctl ⟨_, hy⟩ hd
  have hof : isOf (g bs (k + 1)) = false := dig_of ⟨_, hy⟩ hd
  have hh : hldO (g bs (k + 1)) = none := azb_na ⟨_, hy⟩ ha
  rw [ha] at LT
  rw [ntr_no ⟨_, hy⟩ hct] at FN
  rw [dws_no ⟨_, hy⟩ hof] at FD
  have hcom : comP bs (k + 1) = if isA (g bs (k + 1)) || isD (g bs (k + 1)) then .err 32 else .lit (sym bs (k + 1)).1 (k + 1 + (sym bs (k + 1)).2) := by
    unfold comP
    rw [if_neg (by omega), if_neg h120, hct]
    simp only []
    rw [if_neg (by rw [hof]; simp)]
  have hh0 := hh
  rw [azb_no ⟨_, hy⟩ hh] at FA
  rw [hd] at DG hcom
  have hdd := isD_iff.1 hd
  by_cases h49 : 49 ≤ g bs (k + 1)
  · have hy57 : g bs (k + 1) ≤ 57 := hdd.2
    have g1 : decide (49 ≤ g bs (k + 1)) = true := decide_eq_true (by omega)
    have g2 : decide (g bs (k + 1) ≤ 57) = true := decide_eq_true (by omega)
    have g3 : decide (49 ≤ (g bs (k + 1) : Int)) = true := decide_eq_true (by omega)
    have g4 : decide ((g bs (k + 1) : Int) ≤ 57) = true := decide_eq_true (by omega)
    have i1 : 49 ≤ (g bs (k + 1) : Int) := by omega
    have i2 : (g bs (k + 1) : Int) ≤ 57 := by omega
    have hrf := (unhide HE0).trans (show escP bs false (k + 1) = refP bs (k + 1) by unfold escP; rw [if_neg (by simp), if_neg (by omega), if_pos ⟨h49, hy57⟩])
    have DG2 := hide (fun W => rdigit_any (g bs (k + 2)) W)
    have C2 := hide (rat_e (unhide HP) (i := (k : Int) + 2) (k := k + 2) (c := g bs (k + 2)) (by push_cast; rfl) rfl)
    clear hcom h49 hy57 hdd
    cases hd2 : isD (g bs (k + 2)) with
    | true =>
      rw [hd2] at DG2
      have hdd2 := isD_iff.1 hd2
      have hk3 := g_in (bs := bs) (k := k + 2) (by omega)
      have hki3 : (k : Int) + 3 ≤ (bs.length : Int) := by omega
      have c2 := (unhide HCZ) (k + 2) hk3
      have j1 : 48 ≤ (g bs (k + 2) : Int) := by omega
      have j2 : (g bs (k + 2) : Int) ≤ 57 := by omega
      obtain ⟨n, hn⟩ : ∃ n, 10 * (g bs (k + 1) - 48) + (g bs (k + 2) - 48) = n := ⟨_, rfl⟩
      have hn2 : 10 * ((g bs (k + 1) : Int) - 48) + ((g bs (k + 2) : Int) - 48) = (n : Int) := by omega
      have HE := hide (hrf.trans (show refP bs (k + 1) = .ref n (k + 3) by unfold refP; rw [if_pos hd2, hn]))
      clear HE0 h120 hct hof ha hh hh0 hd hd2 hdd2 hk3 hrf hn
      generalize g bs (k + 1) = y at *
      generalize g bs (k + 2) = y2 at *
      go_enter Tryz.func11, Tryz.ntmps11
      go_wp2_with fail
      refine (unhide C0).mono ?_
      rintro e w1 ⟨rfl, hw1⟩
      obtain rfl : _ = w1 := hw1.symm
      go_wp2_with fail
      refine ((unhide FN) _).mono ?_
      rintro e w1 ⟨rfl, hw1⟩
      obtain rfl : _ = w1 := hw1.symm
      go_wp2_with fail
      refine ((unhide FD) _).mono ?_
      rintro e w1 ⟨rfl, hw1⟩
      obtain rfl : _ = w1 := hw1.symm
      go_wp2_with fail
      refine ((unhide LT) _).mono ?_
      rintro e w1 ⟨rfl, hw1⟩
      obtain rfl : _ = w1 := hw1.symm
      go_wp2_with fail
      refine ((unhide DG) _).mono ?_
      rintro e w1 ⟨rfl, hw1⟩
      obtain rfl : _ = w1 := hw1.symm
      go_wp2_with fail
      refine ((unhide FA) _).mono ?_
      rintro e w1 ⟨rfl, hw1⟩
      obtain rfl : _ = w1 := hw1.symm
      go_wp2_with fail
      refine (unhide C2).mono ?_
      rintro e w1 ⟨rfl, hw1⟩
      obtain rfl : _ = w1 := hw1.symm
      go_wp2_with fail
      refine ((unhide DG2) _).mono ?_
      rintro e w1 ⟨rfl, hw1⟩
      obtain rfl : _ = w1 := hw1.symm
      go_wp2_with fail
      (try simp only [Exit.inBlock, Exit.then])
      exact bodyPost_ret (results_cell2 rfl _ _ w.heap.size _ _ _ rfl rfl (Blk.new _ _ _) Tryz.underlying31 rfl (by kernel_rfl)) rfl ⟨by rw [unhide HE]; rfl, (Below.refl _ _).alloc (Nat.le_refl _) _⟩
    | false =>
      rw [hd2] at DG2
      obtain ⟨n, hn⟩ : ∃ n, g bs (k + 1) - 48 = n := ⟨_, rfl⟩
      have hn2 : (g bs (k + 1) : Int) - 48 = (n : Int) := by omega
      have HE := hide (hrf.trans (show refP bs (k + 1) = .ref n (k + 2) by unfold refP; rw [if_neg (by rw [hd2]; simp), hn]))
      clear HE0 h120 hct hof ha hh hh0 hd hd2 hrf hn
      generalize g bs (k + 1) = y at *
      generalize g bs (k + 2) = y2 at *
      go_enter Tryz.func11, Tryz.ntmps11
      go_wp2_with fail
      refine (unhide C0).mono ?_
      rintro e w1 ⟨rfl, hw1⟩
      obtain rfl : _ = w1 := hw1.symm
      go_wp2_with fail
      refine ((unhide FN) _).mono ?_
      rintro e w1 ⟨rfl, hw1⟩
      obtain rfl : _ = w1 := hw1.symm
      go_wp2_with fail
      refine ((unhide FD) _).mono ?_
      rintro e w1 ⟨rfl, hw1⟩
      obtain rfl : _ = w1 := hw1.symm
      go_wp2_with fail
      refine ((unhide LT) _).mono ?_
      rintro e w1 ⟨rfl, hw1⟩
      obtain rfl : _ = w1 := hw1.symm
      go_wp2_with fail
      refine ((unhide DG) _).mono ?_
      rintro e w1 ⟨rfl, hw1⟩
      obtain rfl : _ = w1 := hw1.symm
      go_wp2_with fail
      refine ((unhide FA) _).mono ?_
      rintro e w1 ⟨rfl, hw1⟩
      obtain rfl : _ = w1 := hw1.symm
      go_wp2_with fail
      refine (unhide C2).mono ?_
      rintro e w1 ⟨rfl, hw1⟩
      obtain rfl : _ = w1 := hw1.symm
      go_wp2_with fail
      refine ((unhide DG2) _).mono ?_
      rintro e w1 ⟨rfl, hw1⟩
      obtain rfl : _ = w1 := hw1.symm
      go_wp2_with fail
      (try simp only [Exit.inBlock, Exit.then])
      exact bodyPost_ret (results_cell2 rfl _ _ w.heap.size _ _ _ rfl rfl (Blk.new _ _ _) Tryz.underlying31 rfl (by kernel_rfl)) rfl ⟨by rw [unhide HE]; rfl, (Below.refl _ _).alloc (Nat.le_refl _) _⟩
  · have e48 : g bs (k + 1) = 48 := by omega
    have HE := hide ((unhide HE0).trans (show escP bs false (k + 1) = .err 32 by unfold escP; rw [if_neg (by simp), if_neg (by omega), if_neg (by omega), hh]; exact hcom.trans (if_pos (by simp))))
    rw [e48] at c1 LT DG FN FD FA
    clear HE0 h120 hct hof ha hh hh0 hd hdd h49 hcom hy e120 e120'
    go_enter Tryz.func11, Tryz.ntmps11
    go_wp2_with fail
    refine (unhide C0).mono ?_
    rintro e w1 ⟨rfl, hw1⟩
    obtain rfl : _ = w1 := hw1.symm
    go_wp2_with fail
    refine ((unhide FN) _).mono ?_
    rintro e w1 ⟨rfl, hw1⟩
    obtain rfl : _ = w1 := hw1.symm
    go_wp2_with fail
    refine ((unhide FD) _).mono ?_
    rintro e w1 ⟨rfl, hw1⟩
    obtain rfl : _ = w1 := hw1.symm
    go_wp2_with fail
    refine ((unhide LT) _).mono ?_
    rintro e w1 ⟨rfl, hw1⟩
    obtain rfl : _ = w1 := hw1.symm
    go_wp2_with fail
    refine ((unhide DG) _).mono ?_
    rintro e w1 ⟨rfl, hw1⟩
    obtain rfl : _ = w1 := hw1.symm
    go_wp2_with fail
    refine ((unhide FA) _).mono ?_
    rintro e w1 ⟨rfl, hw1⟩
    obtain rfl : _ = w1 := hw1.symm
    go_wp2_with fail
    (try simp only [Exit.inBlock, Exit.then])
    exact bodyPost_ret (results_cell2 rfl _ _ w.heap.size _ _ _ rfl rfl (Blk.new _ _ _) Tryz.underlying31 rfl (by kernel_rfl)) rfl ⟨by rw [unhide HE]; rfl, (Below.refl _ _).alloc (Nat.le_refl _) _⟩
end Go.Proofs.YtdajdolhjaoeiaaGreatDoor.Sc
set_option linter.unusedVariables false
set_option linter.unusedSimpArgs false
namespace Go.Proofs.YtdajdolhjaoeiaaGreatDoor.Sc
open Go.RowKit Go.Proofs.YtdajdolhjaoeiaaGreatDoor.Mem
open Go.Proofs.YtdajdolhjaoeiaaGreatDoor.Sy (g g_of g_lt isS at_)
open Go.Proofs.YtdajdolhjaoeiaaGreatDoor.Cl (isOf)
attribute [local go_sem] build_r0 build_r3 build_r2 build_rk build_ntr build_azb Go.Proofs.YtdajdolhjaoeiaaGreatDoor.Rs.run_not_true Go.Proofs.YtdajdolhjaoeiaaGreatDoor.Rs.run_not_false

/-- A backslash, whatever is behind it. -/
theorem resc_yes (bs : List UInt8) (A : Option Addr) (cap : Nat) (b : Bool) (k : Nat) (w : World) (hP : PV bs A cap w) (h92 : g bs k = 92) (hk : k < bs.length) :
    Calls Tryz.prog 11 #[.slice A bs.length cap, .int .i64 (k : Int), .bool b] w (GivesRef (escz bs b (k : Int)) w) := by
  by_cases hin : k + 1 < bs.length
  · cases hct : ctl (g bs (k + 1)) with
    | some n => exact resc_ctl bs A cap b k w hP h92 hk hin n hct
    | none =>
      cases b with
      | true => exact resc_in bs A cap true k w hP h92 hk hct (fun h => by cases h) (fun h => by cases h) (fun h => by cases h)
      | false =>
        cases hh : hldO (g bs (k + 1)) with
        | some n => exact resc_hld bs A cap k w hP h92 hk hin n hh
        | none =>
          by_cases h107 : g bs (k + 1) = 107
          · exact resc_key bs A cap k w hP h92 hk hin h107
          · cases hd : isD (g bs (k + 1)) with
            | true => exact resc_dig bs A cap k w hP h92 hk hin hd
            | false => exact resc_in bs A cap false k w hP h92 hk hct (fun _ => hh) (fun _ => h107) (fun _ => hd)
  · have h0 : g bs (k + 1) = 0 := g_out (by omega)
    exact resc_in bs A cap b k w hP h92 hk (by rw [h0]; rfl) (fun _ => by rw [h0]; rfl) (fun _ => by rw [h0]; omega) (fun _ => by rw [h0]; rfl)
/-- **the reference's Escape** -/
theorem resc_any (bs : List UInt8) (A : Option Addr) (cap : Nat) (b : Bool) (i : Int) (w : World) (hP : PV bs A cap w) :
    Calls Tryz.prog 11 #[.slice A bs.length cap, .int .i64 i, .bool b] w (GivesRef (escz bs b i) w) := by
  by_cases h : gz bs i = 92
  · obtain ⟨k, rfl, hk, h2⟩ := gz_in (bs := bs) (i := i) (by omega)
    exact resc_yes bs A cap b k w hP (h2.symm.trans h) hk
  · exact resc_no bs A cap b i w hP h

end Go.Proofs.YtdajdolhjaoeiaaGreatDoor.Sc
