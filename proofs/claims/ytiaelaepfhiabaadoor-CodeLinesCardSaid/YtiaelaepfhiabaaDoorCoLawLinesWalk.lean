/-
  CodeLines, walked. Conditions: the two tables; the instruction's numbers are ints.
-/
import Derived.Test.YtiaelaepfhiabaaDoorCoDigits2
import Derived.Test.YtiaelaepfhiabaaDoorCoAnchor
import Derived.Deep.WholeRow
set_option linter.unusedVariables false
set_option linter.unusedSimpArgs false
namespace Go.Proofs.YtiaelaepfhiabaaDoor.Co
open Go.RowKit Go.Proofs.YtiaelaepfhiabaaDoor.Mem Go.Proofs.YtiaelaepfhiabaaDoor.Rs
attribute [local go_sem] run_not_true run_not_false build5 index5_0 index5_1 index5_2 index5_3 index5_4
attribute [local go_sem high] s_add

/-- the names, as the law has them -/
def namesA : Array Value := #[.string ⟨#[]⟩, .string ⟨#[115, 101, 116]⟩, .string ⟨#[104, 111, 108, 100]⟩, .string ⟨#[98, 97, 99, 107]⟩, .string ⟨#[102, 111, 114, 107]⟩, .string ⟨#[119, 97, 121]⟩, .string ⟨#[106, 117, 109, 112]⟩, .string ⟨#[105, 110, 105, 116]⟩, .string ⟨#[108, 111, 111, 112]⟩, .string ⟨#[109, 97, 114, 107]⟩, .string ⟨#[110, 101, 120, 116]⟩, .string ⟨#[111, 112, 101, 110]⟩, .string ⟨#[99, 108, 111, 115, 101]⟩, .string ⟨#[105, 110, 116, 111]⟩, .string ⟨#[114, 101, 116, 114, 101, 97, 116]⟩, .string ⟨#[109, 101, 101, 116]⟩, .string ⟨#[99, 117, 116]⟩, .string ⟨#[112, 101, 101, 107]⟩, .string ⟨#[114, 101, 102, 117, 116, 101]⟩, .string ⟨#[109, 97, 116, 99, 104]⟩]
theorem names_at (k : Nat) (hk : k < 20) : namesA[k]? = some (wordV k) := by
  have h2 : k = 0 ∨ k = 1 ∨ k = 2 ∨ k = 3 ∨ k = 4 ∨ k = 5 ∨ k = 6 ∨ k = 7 ∨ k = 8 ∨ k = 9 ∨ k = 10 ∨ k = 11 ∨ k = 12 ∨ k = 13 ∨ k = 14 ∨ k = 15 ∨ k = 16 ∨ k = 17 ∨ k = 18 ∨ k = 19 := by omega
  rcases h2 with rfl | rfl | rfl | rfl | rfl | rfl | rfl | rfl | rfl | rfl | rfl | rfl | rfl | rfl | rfl | rfl | rfl | rfl | rfl | rfl
  all_goals rfl
def zeroA : Array Value := Array.replicate 20 (.string ⟨#[]⟩)
theorem zero_names : (∀ w, (zeroValue 38).run Tryd.prog w = .ok (.agg zeroA) w) ∧ (Tryd.prog.info? 38).map (·.size) = some 20 := zero_of_info (by kernel_rfl)
theorem store_names (w : World) : (storeCells ⟨w.heap.size, 0, none⟩ namesA.toList 0).run Tryd.prog (w.alloc (.cells zeroA 38)) = .ok () (w.alloc (.cells namesA 38)) :=
  run_storeCells_new w 38 zeroA namesA zero_names.2 rfl (by decide +kernel)
theorem store_names' (w : World) : (Instr.storeAt 38 (.pointer (some ⟨w.heap.size, 0, none⟩)) (.agg namesA)).run Tryd.prog (w.alloc (.cells zeroA 38)) = .ok () (w.alloc (.cells namesA 38)) :=
  run_storeAt_new w 38 zeroA namesA zero_names.2 rfl (by decide +kernel)
theorem fold_names : ((((((((((((((((((((zeroA.setIfInBounds 0 (.string ⟨#[]⟩)).setIfInBounds 1 (.string ⟨#[115, 101, 116]⟩)).setIfInBounds 2 (.string ⟨#[104, 111, 108, 100]⟩)).setIfInBounds 3 (.string ⟨#[98, 97, 99, 107]⟩)).setIfInBounds 4 (.string ⟨#[102, 111, 114, 107]⟩)).setIfInBounds 5 (.string ⟨#[119, 97, 121]⟩)).setIfInBounds 6 (.string ⟨#[106, 117, 109, 112]⟩)).setIfInBounds 7 (.string ⟨#[105, 110, 105, 116]⟩)).setIfInBounds 8 (.string ⟨#[108, 111, 111, 112]⟩)).setIfInBounds 9 (.string ⟨#[109, 97, 114, 107]⟩)).setIfInBounds 10 (.string ⟨#[110, 101, 120, 116]⟩)).setIfInBounds 11 (.string ⟨#[111, 112, 101, 110]⟩)).setIfInBounds 12 (.string ⟨#[99, 108, 111, 115, 101]⟩)).setIfInBounds 13 (.string ⟨#[105, 110, 116, 111]⟩)).setIfInBounds 14 (.string ⟨#[114, 101, 116, 114, 101, 97, 116]⟩)).setIfInBounds 15 (.string ⟨#[109, 101, 101, 116]⟩)).setIfInBounds 16 (.string ⟨#[99, 117, 116]⟩)).setIfInBounds 17 (.string ⟨#[112, 101, 101, 107]⟩)).setIfInBounds 18 (.string ⟨#[114, 101, 102, 117, 116, 101]⟩)).setIfInBounds 19 (.string ⟨#[109, 97, 116, 99, 104]⟩)) = namesA := by rfl
attribute [local go_sem high] fold_names
theorem name_yes {k : Nat} (h : withinB (k : Int) 1 19 = true) : nameL (k : Int) = wordL k := by unfold nameL; rw [if_pos h]; rfl
theorem name_no {op : Int} (h : withinB op 1 19 = false) : nameL op = [] := by unfold nameL; rw [if_neg (by rw [h]; simp)]
set_option maxRecDepth 100000 in
set_option maxHeartbeats 8000000 in
theorem walkLines (i : In) (w : World) (hok : Okn i) (hT : Tb w) : Calls Tryd.prog 5 #[.agg #[.int .i64 i.op, .int .i64 i.x, .int .i64 i.y, .int .i64 i.z, .int .i64 i.nd, .int .i64 i.ph]] w fun e w' => e = .returned (.bool true) ∧ Below w.heap.size w w' := by
  have b0 : Below w.heap.size w (w.alloc (.cells #[.int .i64 i.op, .int .i64 i.x, .int .i64 i.y, .int .i64 i.z, .int .i64 i.nd, .int .i64 i.ph] 37)) := below_al (Below.refl _ _) (Nat.le_refl _) _
  have HA := hide (anchor_any _ (hT.below b0))
  have HT := hide hT
  have HO := hide hok
  have HB0 := hide b0
  clear b0 hT hok
  go_enter Tryd.func5, Tryd.ntmps5
  go_wp2_with fail
  refine (unhide HA).mono ?_
  rintro e w1 ⟨rfl, hb1⟩
  have HB1 := hide hb1
  have K1 := hide ((Blk.new w 37 #[.int .i64 i.op, .int .i64 i.x, .int .i64 i.y, .int .i64 i.z, .int .i64 i.nd, .int .i64 i.ph]).below hb1 (by simp))
  clear hb1
  have HB2 := hide (((unhide HB0).trans ((unhide HB1).mono (unhide HB0).size)).trans ((below_al (Below.refl w1.heap.size w1) (Nat.le_refl _) (.cells namesA 38)).mono (by have h1 := (unhide HB0).size; have h2 := (unhide HB1).size; omega)))
  have K2 := hide ((unhide K1).alloc (.cells namesA 38))
  have hnm := names_at
  have HNM := hide hnm
  clear hnm
  have hs : (∃ k : Nat, i.op = (k : Int) ∧ 1 ≤ k ∧ k < 20) ∨ (withinB i.op 1 19 = false) := by
    cases h : withinB i.op 1 19
    · exact .inr rfl
    · simp [withinB] at h
      exact .inl ⟨i.op.toNat, by omega, by omega, by omega⟩
  rcases hs with ⟨k, hk, hk1, hk2⟩ | hno
  · have HW := hide (show nameL i.op = wordL k by rw [hk]; exact name_yes (by simp [withinB]; omega))
    have hy1 := (unhide K2).cell 1
    have z0 := (unhide K2).cell 0
    have z1 := (unhide K2).cell 1
    have z2 := (unhide K2).cell 2
    have z3 := (unhide K2).cell 3
    have z4 := (unhide K2).cell 4
    have z5 := (unhide K2).cell 5
    clear hy1

    have q2 := zero_names.1
    have q3 := store_names w1
    have q4 := store_names' w1
    have zn := ((Blk.new w1 38 namesA).cell k).trans (unhide HNM k hk2)
    rw [hk] at z0
    unfold wordV at zn
    have g1 : (1 : Int) ≤ (k : Int) := by omega
    have g2 : (k : Int) ≤ 19 := by omega
    have g3 : (k : Int) < 20 := by omega
    have HKO := hide hk
    clear hk hk1 hk2
    generalize wordL k = t at *
    go_wp2_with fail
    go_loopw [5, 35] (fun v c wr => ∃ k : Nat, c = .int .i64 (k : Int) ∧ k ≤ 5 ∧ v = .string ⟨(lineL i k).toArray⟩ ∧ wr = w1.alloc (.cells namesA 38)) (fun _ c _ => 5 - (intOf c).toNat)
    case atStart => exact ⟨0, rfl, by omega, by rw [show lineL i 0 = nameL i.op from rfl, unhide HW], rfl⟩
    case round =>
      obtain ⟨k', rfl, hk', rfl, rfl⟩ := hrel
      have L1 := (line_round i k' (unhide HO)).1
      have L2 := (line_round i k' (unhide HO)).2 hk'
      have HIT := hide (digits_any (fld i k') (w1.alloc (.cells namesA 38)) (unhide HO k').1 (unhide HO k').2)
      by_cases h5 : k' = 5
      · subst h5
        clear L1 L2 HIT
        go_wp2_with fail
        refine (name_any _ _ ((unhide HT).below (unhide HB2))).mono ?_
        rintro e w3 ⟨rfl, hb3⟩
        rw [show nameL (k : Int) = t by rw [← unhide HKO]; exact unhide HW]
        have y0 := ((unhide K2).below hb3 (by simp; have := (unhide K1).lt; omega)).cell 0
        have y1 := ((unhide K2).below hb3 (by simp; have := (unhide K1).lt; omega)).cell 1
        have y2 := ((unhide K2).below hb3 (by simp; have := (unhide K1).lt; omega)).cell 2
        have y3 := ((unhide K2).below hb3 (by simp; have := (unhide K1).lt; omega)).cell 3
        have y4 := ((unhide K2).below hb3 (by simp; have := (unhide K1).lt; omega)).cell 4
        have y5 := ((unhide K2).below hb3 (by simp; have := (unhide K1).lt; omega)).cell 5
        have HB3 := hide ((unhide HB2).trans (hb3.mono (unhide HB2).size))
        clear hb3
        go_wp2_with fail
        refine (line_any i w3 (unhide HO) ((unhide HT).below (unhide HB3))).mono ?_
        rintro e w4 ⟨rfl, hb4⟩
        have HB4 := hide ((unhide HB3).trans (hb4.mono (unhide HB3).size))
        clear hb4 y0 y1 y2 y3 y4 y5
        go_wp2_with fail
        go_ret
        exact ⟨rfl, unhide HB4⟩
      · have hs : lineL i (k' + 1) = cat (lineL i k') (cat [32] (Lib.itoa (fld i k'))) := rfl
        have HS := hide hs
        clear hs
        have hc : k' = 0 ∨ k' = 1 ∨ k' = 2 ∨ k' = 3 ∨ k' = 4 := by omega
        clear hk' h5
        generalize lineL i k' = ll at *
        rcases hc with rfl | rfl | rfl | rfl | rfl
        all_goals
          simp only [fld] at L1 L2 HIT HS
          go_wp2_with fail
          refine (unhide HIT).mono ?_
          rintro e w2 ⟨rfl, rfl⟩
          go_wp2_with fail
          first
            | exact ⟨⟨1, rfl, by omega, congrArg (fun t : List UInt8 => Value.string ⟨t.toArray⟩) (unhide HS).symm, trivial⟩, by simp [intOf]⟩
            | exact ⟨⟨2, rfl, by omega, congrArg (fun t : List UInt8 => Value.string ⟨t.toArray⟩) (unhide HS).symm, trivial⟩, by simp [intOf]⟩
            | exact ⟨⟨3, rfl, by omega, congrArg (fun t : List UInt8 => Value.string ⟨t.toArray⟩) (unhide HS).symm, trivial⟩, by simp [intOf]⟩
            | exact ⟨⟨4, rfl, by omega, congrArg (fun t : List UInt8 => Value.string ⟨t.toArray⟩) (unhide HS).symm, trivial⟩, by simp [intOf]⟩
            | exact ⟨⟨5, rfl, by omega, congrArg (fun t : List UInt8 => Value.string ⟨t.toArray⟩) (unhide HS).symm, trivial⟩, by simp [intOf]⟩
  · have HW := hide (name_no hno)
    have hy1 := (unhide K2).cell 1
    have z0 := (unhide K2).cell 0
    have z1 := (unhide K2).cell 1
    have z2 := (unhide K2).cell 2
    have z3 := (unhide K2).cell 3
    have z4 := (unhide K2).cell 4
    have z5 := (unhide K2).cell 5
    clear hy1

    have q2 := zero_names.1
    have q3 := store_names w1
    have q4 := store_names' w1
    have hno2 : i.op < 1 ∨ 19 < i.op := by
      simp [withinB] at hno
      omega
    rcases hno2 with g1 | g1
    · clear hno
      go_wp2_with fail
      go_loopw [5, 35] (fun v c wr => ∃ k : Nat, c = .int .i64 (k : Int) ∧ k ≤ 5 ∧ v = .string ⟨(lineL i k).toArray⟩ ∧ wr = w1.alloc (.cells namesA 38)) (fun _ c _ => 5 - (intOf c).toNat)
      case atStart => exact ⟨0, rfl, by omega, by rw [show lineL i 0 = nameL i.op from rfl, unhide HW], rfl⟩
      case round =>
        obtain ⟨k', rfl, hk', rfl, rfl⟩ := hrel
        have L1 := (line_round i k' (unhide HO)).1
        have L2 := (line_round i k' (unhide HO)).2 hk'
        have HIT := hide (digits_any (fld i k') (w1.alloc (.cells namesA 38)) (unhide HO k').1 (unhide HO k').2)
        by_cases h5 : k' = 5
        · subst h5
          clear L1 L2 HIT
          go_wp2_with fail
          refine (name_any _ _ ((unhide HT).below (unhide HB2))).mono ?_
          rintro e w3 ⟨rfl, hb3⟩
          rw [unhide HW]
          have y0 := ((unhide K2).below hb3 (by simp; have := (unhide K1).lt; omega)).cell 0
          have y1 := ((unhide K2).below hb3 (by simp; have := (unhide K1).lt; omega)).cell 1
          have y2 := ((unhide K2).below hb3 (by simp; have := (unhide K1).lt; omega)).cell 2
          have y3 := ((unhide K2).below hb3 (by simp; have := (unhide K1).lt; omega)).cell 3
          have y4 := ((unhide K2).below hb3 (by simp; have := (unhide K1).lt; omega)).cell 4
          have y5 := ((unhide K2).below hb3 (by simp; have := (unhide K1).lt; omega)).cell 5
          have HB3 := hide ((unhide HB2).trans (hb3.mono (unhide HB2).size))
          clear hb3
          go_wp2_with fail
          refine (line_any i w3 (unhide HO) ((unhide HT).below (unhide HB3))).mono ?_
          rintro e w4 ⟨rfl, hb4⟩
          have HB4 := hide ((unhide HB3).trans (hb4.mono (unhide HB3).size))
          clear hb4 y0 y1 y2 y3 y4 y5
          go_wp2_with fail
          go_ret
          exact ⟨rfl, unhide HB4⟩
        · have hs : lineL i (k' + 1) = cat (lineL i k') (cat [32] (Lib.itoa (fld i k'))) := rfl
          have HS := hide hs
          clear hs
          have hc : k' = 0 ∨ k' = 1 ∨ k' = 2 ∨ k' = 3 ∨ k' = 4 := by omega
          clear hk' h5
          generalize lineL i k' = ll at *
          rcases hc with rfl | rfl | rfl | rfl | rfl
          all_goals
            simp only [fld] at L1 L2 HIT HS
            go_wp2_with fail
            refine (unhide HIT).mono ?_
            rintro e w2 ⟨rfl, rfl⟩
            go_wp2_with fail
            first
              | exact ⟨⟨1, rfl, by omega, congrArg (fun t : List UInt8 => Value.string ⟨t.toArray⟩) (unhide HS).symm, trivial⟩, by simp [intOf]⟩
              | exact ⟨⟨2, rfl, by omega, congrArg (fun t : List UInt8 => Value.string ⟨t.toArray⟩) (unhide HS).symm, trivial⟩, by simp [intOf]⟩
              | exact ⟨⟨3, rfl, by omega, congrArg (fun t : List UInt8 => Value.string ⟨t.toArray⟩) (unhide HS).symm, trivial⟩, by simp [intOf]⟩
              | exact ⟨⟨4, rfl, by omega, congrArg (fun t : List UInt8 => Value.string ⟨t.toArray⟩) (unhide HS).symm, trivial⟩, by simp [intOf]⟩
              | exact ⟨⟨5, rfl, by omega, congrArg (fun t : List UInt8 => Value.string ⟨t.toArray⟩) (unhide HS).symm, trivial⟩, by simp [intOf]⟩
    · have g2 : 1 ≤ i.op := by omega
      clear hno
      go_wp2_with fail
      go_loopw [5, 35] (fun v c wr => ∃ k : Nat, c = .int .i64 (k : Int) ∧ k ≤ 5 ∧ v = .string ⟨(lineL i k).toArray⟩ ∧ wr = w1.alloc (.cells namesA 38)) (fun _ c _ => 5 - (intOf c).toNat)
      case atStart => exact ⟨0, rfl, by omega, by rw [show lineL i 0 = nameL i.op from rfl, unhide HW], rfl⟩
      case round =>
        obtain ⟨k', rfl, hk', rfl, rfl⟩ := hrel
        have L1 := (line_round i k' (unhide HO)).1
        have L2 := (line_round i k' (unhide HO)).2 hk'
        have HIT := hide (digits_any (fld i k') (w1.alloc (.cells namesA 38)) (unhide HO k').1 (unhide HO k').2)
        by_cases h5 : k' = 5
        · subst h5
          clear L1 L2 HIT
          go_wp2_with fail
          refine (name_any _ _ ((unhide HT).below (unhide HB2))).mono ?_
          rintro e w3 ⟨rfl, hb3⟩
          rw [unhide HW]
          have y0 := ((unhide K2).below hb3 (by simp; have := (unhide K1).lt; omega)).cell 0
          have y1 := ((unhide K2).below hb3 (by simp; have := (unhide K1).lt; omega)).cell 1
          have y2 := ((unhide K2).below hb3 (by simp; have := (unhide K1).lt; omega)).cell 2
          have y3 := ((unhide K2).below hb3 (by simp; have := (unhide K1).lt; omega)).cell 3
          have y4 := ((unhide K2).below hb3 (by simp; have := (unhide K1).lt; omega)).cell 4
          have y5 := ((unhide K2).below hb3 (by simp; have := (unhide K1).lt; omega)).cell 5
          have HB3 := hide ((unhide HB2).trans (hb3.mono (unhide HB2).size))
          clear hb3
          go_wp2_with fail
          refine (line_any i w3 (unhide HO) ((unhide HT).below (unhide HB3))).mono ?_
          rintro e w4 ⟨rfl, hb4⟩
          have HB4 := hide ((unhide HB3).trans (hb4.mono (unhide HB3).size))
          clear hb4 y0 y1 y2 y3 y4 y5
          go_wp2_with fail
          go_ret
          exact ⟨rfl, unhide HB4⟩
        · have hs : lineL i (k' + 1) = cat (lineL i k') (cat [32] (Lib.itoa (fld i k'))) := rfl
          have HS := hide hs
          clear hs
          have hc : k' = 0 ∨ k' = 1 ∨ k' = 2 ∨ k' = 3 ∨ k' = 4 := by omega
          clear hk' h5
          generalize lineL i k' = ll at *
          rcases hc with rfl | rfl | rfl | rfl | rfl
          all_goals
            simp only [fld] at L1 L2 HIT HS
            go_wp2_with fail
            refine (unhide HIT).mono ?_
            rintro e w2 ⟨rfl, rfl⟩
            go_wp2_with fail
            first
              | exact ⟨⟨1, rfl, by omega, congrArg (fun t : List UInt8 => Value.string ⟨t.toArray⟩) (unhide HS).symm, trivial⟩, by simp [intOf]⟩
              | exact ⟨⟨2, rfl, by omega, congrArg (fun t : List UInt8 => Value.string ⟨t.toArray⟩) (unhide HS).symm, trivial⟩, by simp [intOf]⟩
              | exact ⟨⟨3, rfl, by omega, congrArg (fun t : List UInt8 => Value.string ⟨t.toArray⟩) (unhide HS).symm, trivial⟩, by simp [intOf]⟩
              | exact ⟨⟨4, rfl, by omega, congrArg (fun t : List UInt8 => Value.string ⟨t.toArray⟩) (unhide HS).symm, trivial⟩, by simp [intOf]⟩
              | exact ⟨⟨5, rfl, by omega, congrArg (fun t : List UInt8 => Value.string ⟨t.toArray⟩) (unhide HS).symm, trivial⟩, by simp [intOf]⟩
end Go.Proofs.YtiaelaepfhiabaaDoor.Co
