/-
  The law's anchor (clewlaw05), walked: true. Conditions: those of the program's contracts.
-/
import Derived.Test.YthhgbanhoogmfaaDoorClProg
import Derived.RegionTactic
import Derived.Deep.QuietTactic
import Derived.BigQuiet
set_option linter.unusedVariables false
set_option linter.unusedSimpArgs false
namespace Go.Proofs.YthhgbanhoogmfaaDoor.Cl
open Go.RowKit Go.Proofs.YthhgbanhoogmfaaDoor.Mem Go.Proofs.YthhgbanhoogmfaaDoor.Rs

/-- the reference's Has, by the name's list -/
theorem has_any' (s : List UInt8) (x : Int) (w : World) : Calls Tryd.prog 9 #[str s, .int .i64 x] w (H2 (hasL (nameL s) x, isName s) w) := hasP_eq s x ▸ Cl.has_any s x w
theorem of_any' (c : Nat) (x : Int) (w : World) : Calls Tryd.prog 15 #[.int .u8 (c : Int), .int .i64 x] w (H2 (hasL (listOf c) x, isOf c) w) := ofP_eq c x ▸ of_any c x w
theorem blank_l : nameL [98, 108, 97, 110, 107] = [(9, 9), (32, 32)] := by decide
theorem notdigit_l : listOf 68 = [(0, 47), (58, 1114367)] := by
  refine least_unique (p := -2) (by omega) (listOf_least _) (by decide) fun x => ?_
  show hasL (notL (nameL [100, 105, 103, 105, 116])) x = _
  rw [notL_has, show nameL [100, 105, 103, 105, 116] = [(48, 57)] by decide, Bool.eq_iff_iff]
  simp [inR]
  omega
theorem build_range (a b : Int) (w : World) : Sem.run Tryd.prog (Instr.build 42 #[(0, .int .i64 a), (1, .int .i64 b)]) w = .ok (.agg #[.int .i64 a, .int .i64 b]) w := run_build w 42 _ _ (by kernel_rfl)
theorem eql_range (a b c d : Int) (w : World) : Sem.run Tryd.prog (binOp .eql 42 (.agg #[.int .i64 a, .int .i64 b]) (.agg #[.int .i64 c, .int .i64 d])) w = .ok (.bool (a == c && b == d)) w := by
  have u3 := Tryd.underlying3
  have a3 := Tryd.isAgg3
  have z3 := Tryd.sizeOf3
  have hS : Tryd.prog.underlying 42 = some (.struct (Tryd.prog.fieldsOf 42)) := by kernel_rfl
  have hp : Tryd.prog.stoodInHeld 42 = false := by kernel_rfl
  rw [run_eql_struct, show (10000 : Nat) = 9999 + 1 from rfl, run_equalIn_agg w 9999 42 _ _ hS hp]
  simp only [Program.fieldsOf, Tryd.underlying42]
  go_simp
  by_cases h1 : a = c <;> by_cases h2 : b = d <;> simp [h1, h2]
attribute [local go_sem] build_range eql_range

set_option maxRecDepth 100000 in
set_option maxHeartbeats 2000000 in
theorem anchor_any (w : World) (hT : Tb w) : Calls Tryd.prog 7 #[] w fun e w' => e = .returned (.bool true) ∧ Below w.heap.size w w' := by
  have C := hide (named_any [98, 108, 97, 110, 107] w hT)
  have D := hide (fun W h => pof_any 68 (by omega) W h)
  rw [blank_l] at C
  rw [notdigit_l] at D
  have HT := hide hT
  clear hT
  go_enter Tryd.func7, Tryd.ntmps7
  go_wp2_with fail
  refine (unhide C).mono ?_
  rintro e w1 ⟨v1, rfl, A1, cap1, rfl, hc1, hm1, hl1, hb1⟩
  obtain ⟨b1, o1, rfl, hlt1, hcs1⟩ := hl1 (by simp)
  have hx := hcs1 0 (9, 9) rfl
  have HX := hide hx
  have HLT := hide hlt1
  have HB1 := hide hb1
  have HT1 := hide ((unhide HT).below hb1)
  clear C hl1 hcs1 hx hlt1 hb1
  go_wp2_with fail
  refine (unhide D w1 (unhide HT1)).mono ?_
  rintro e w2 ⟨v2, rfl, A2, cap2, rfl, hc2, hm2, hl2, hb2⟩
  obtain ⟨b2, o2, rfl, hlt2, hcs2⟩ := hl2 (by simp)
  have hx2 := hcs2 1 (58, 1114367) rfl
  have c1 : w2.cell? ⟨b1, o1, none⟩ = some (.int .i64 9) := (hb2.cell (p := ⟨b1, o1, none⟩) (unhide HLT)).trans (by simpa using (unhide HX).1)
  have c2 : w2.cell? ⟨b1, o1 + 1, none⟩ = some (.int .i64 9) := (hb2.cell (p := ⟨b1, o1 + 1, none⟩) (unhide HLT)).trans (by simpa using (unhide HX).2)
  have c3 : w2.cell? ⟨b2, o2 + 2, none⟩ = some (.int .i64 58) := by simpa using hx2.1
  have HB2 := hide ((unhide HB1).trans (hb2.mono (unhide HB1).size))
  clear D hl2 hcs2 hx2 hlt2 hb2
  go_wp2
  go_ret
  exact ⟨rfl, unhide HB2⟩
end Go.Proofs.YthhgbanhoogmfaaDoor.Cl
