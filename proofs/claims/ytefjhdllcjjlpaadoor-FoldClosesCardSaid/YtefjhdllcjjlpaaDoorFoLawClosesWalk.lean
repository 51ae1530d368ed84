/-
  The law FoldCloses, walked: true at any list and number. Conditions: the table's variable holds the rows that the program's text lays.
-/
import Derived.Test.YtefjhdllcjjlpaaDoorFoClose
import Derived.Test.YtefjhdllcjjlpaaDoorFoLawOrbitsWalk
import Derived.Test.YtefjhdllcjjlpaaDoorRsHas
import Derived.Test.YtefjhdllcjjlpaaDoorRsRefHas
set_option linter.unusedVariables false
set_option linter.unusedSimpArgs false
namespace Go.Proofs.YtefjhdllcjjlpaaDoor.FoLawCloses
open Go.RowKit Go.Shelf Go.Proofs.YtefjhdllcjjlpaaDoor.Mem Go.Proofs.YtefjhdllcjjlpaaDoor.Fo
open Go.Proofs.YtefjhdllcjjlpaaDoor.Rs (R flat Cut Lst info_ref below_al flat_append Least hasL)

theorem neq_bool_c (a b : Bool) (w : World) : Sem.run Tryd.prog (binOp .neq 4 (.bool a) (.bool b)) w = .ok (.bool (!(a == b))) w := by
  have h := run_equal_bool (P := Tryd.prog) w 4 a b Tryd.underlying4
  simp [binOp, h]
theorem run_not_tt {P : Program} (w : World) : Sem.run P (Op.unary UnOp.not (.bool true)) w = .ok (.bool false) w := rfl
theorem run_not_ff {P : Program} (w : World) : Sem.run P (Op.unary UnOp.not (.bool false)) w = .ok (.bool true) w := rfl
theorem neq_range (a b c d : Int) (w : World) : Sem.run Tryd.prog (binOp .neq 32 (.agg #[.int .i64 a, .int .i64 b]) (.agg #[.int .i64 c, .int .i64 d])) w = .ok (.bool (!(a == c && b == d))) w := Rs.neq_at.1 (a, b) (c, d) w
theorem neq_guard (op : BinOp) (x y : Operand) (a b c d : Int) (w : World) : Sem.run Tryd.prog (eqGuard op 32 x y (.agg #[.int .i64 a, .int .i64 b]) (.agg #[.int .i64 c, .int .i64 d])) w = .ok () w := Rs.neq_at.2 op x y (a, b) (c, d) w
attribute [local go_sem] run_not_tt run_not_ff neq_bool_c neq_range neq_guard

theorem close_len (l : List R) : (closeL l).length ≤ l.length + 6000 := by
  unfold closeL Rs.orL
  refine Nat.le_trans (Rs.mk_len _) ?_
  have h1 := same_len (Rs.andL_least l spansL).ok
  have h2 := and_sum l
  rw [List.length_append]
  omega
/-- what the law's own list has become -/
def CutR (w : World) (l : List R) (v : Value) (w' : World) : Prop := w'.ownsRow w.heap.size 33 2 v l.length (flat l) ∧ Below w.heap.size w w'

set_option maxHeartbeats 1000000 in
theorem walk_big (l : List R) (A : Option Addr) (ca : Nat) (x : Int) (w : World) {b off cap : Nat} (hT : Tab b off cap w) (hbig : 40 < (l.length : Int)) :
    Calls Tryd.prog 6 #[.slice A l.length ca, .int .i64 x] w fun e w' => e = .returned (.bool true) ∧ Below w.heap.size w w' := by
  have HT := hide hT
  clear hT
  go_enter Tryd.func6, Tryd.ntmps6
  go_wp2_with fail
  refine (anchor_any w (unhide HT)).mono ?_
  rintro e w1 ⟨rfl, hb1⟩
  go_wp2
  go_ret
  exact ⟨rfl, hb1⟩

set_option maxHeartbeats 8000000 in
set_option maxRecDepth 100000 in
theorem walk_small (l : List R) (A : Option Addr) (ca : Nat) (x : Int) (w : World) {b off cap : Nat} (hT : Tab b off cap w) (hca : l.length ≤ ca) (hlen : l.length ≤ 40) (hl : Lst w w.heap.size A l) :
    Calls Tryd.prog 6 #[.slice A l.length ca, .int .i64 x] w fun e w' => e = .returned (.bool true) ∧ Below w.heap.size w w' := by
  have HT := hide hT
  have HL := hide hl
  clear hT hl
  have hd40 : (l.length : Int) ≤ 40 := by omega
  obtain ⟨i0, hi, hz0, hz1, hz2⟩ := info_parts info_ref
  go_enter Tryd.func6, Tryd.ntmps6
  go_wp2_with fail
  refine (anchor_any w (unhide HT)).mono ?_
  rintro e w1 ⟨rfl, hb1⟩
  have HB1 := hide hb1
  have HL1 := hide ((unhide HL).below hb1 |>.more hb1.size)
  have HT1 := hide ((unhide HT).below hb1 (Nat.le_refl _))
  clear hb1
  go_wp2
  go_loopw [5, 21] (fun v i wr => ∃ k : Nat, i = .int .i64 k ∧ k ≤ l.length ∧ CutR w1 (l.take k) v wr) (fun _ i _ => l.length - (intOf i).toNat)
  case atStart => exact ⟨0, rfl, Nat.zero_le _, World.ownsRow_nil _ _ _ _, Below.refl _ _⟩
  case round =>
    obtain ⟨k, rfl, hk, hrow⟩ := hrel
    by_cases hlt : k < l.length
    · obtain ⟨b3, off3, rfl, hb, hc⟩ := (unhide HL1) (by omega)
      obtain ⟨r, hr⟩ : ∃ r, l[k]? = some r := ⟨_, List.getElem?_eq_getElem hlt⟩
      have c1 : wr.cell? ⟨b3, off3 + k * 2, none⟩ = some (.int .i64 r.1) := (hrow.2.cell (p := ⟨b3, off3 + k * 2, none⟩) hb).trans (hc k r hr).1
      have c2 : wr.cell? ⟨b3, off3 + k * 2 + 1, none⟩ = some (.int .i64 r.2) := (hrow.2.cell (p := ⟨b3, off3 + k * 2 + 1, none⟩) hb).trans (hc k r hr).2
      have hlt' : (k : Int) < (l.length : Int) := by omega
      have htk : l.take (k + 1) = l.take k ++ [r] := by
        have e : l[k] = r := by simpa [List.getElem?_eq_getElem hlt] using hr
        rw [List.take_succ_eq_append_getElem hlt, e]
      have hcut : CutR w1 (l.take k) u5 (wr.alloc (.cells #[.int .i64 r.1, .int .i64 r.2] 32)) := ⟨hrow.1.alloc _, below_al hrow.2 hrow.2.size _⟩
      have hl2 : (l.take k).length ≤ k := List.length_take_le _ _
      have hmx : (l.take k).length + 1 ≤ maxLen := by unfold maxLen; omega
      have hone : ∀ u ∈ (#[.int .i64 r.1, .int .i64 r.2] : Array Value).toList, u.oneCell' = true := by simp [Value.oneCell']
      have hwz := hrow.2.size
      clear hrow hr hc hb
      generalize l.take k = pre at *
      have HTK := hide htk
      have HCUT := hide hcut
      clear htk hcut
      go_wp2_with (at_builtin; refine wpList_append_any _ rfl (.tmp 25) (.tmp 27) 30 rfl w1.heap.size 33 i0 (.agg #[.int .i64 0, .int .i64 0]) 2 16 Tryd.underlying30 hi hz0 hz1 hz2 rfl (by decide) _ pre.length _ rfl ((unhide HCUT).1.alloc _) _ _ 1 1 _ rfl (Rs.reads_at (by rw [World.size_alloc]) #[.int .i64 r.1, .int .i64 r.2] 33 1 2 rfl) hone hmx (by omega) (by rw [World.size_alloc, World.size_alloc]; omega) ?_; intro v5 w5 ho5 hg5 hn5; have HO5 := hide ho5; have HG5 := hide hg5; clear ho5 hg5 hn5)
      first | go_roundw | refine ⟨⟨_, _, _, ?rel, rfl, rfl, rfl⟩, ?measure⟩ | refine ⟨?rel, ?measure⟩
      case rel =>
        refine ⟨k + 1, by go_num, by omega, ?_⟩
        rw [unhide HTK]
        exact ⟨by rw [flat_append, List.length_append]; exact unhide HO5, Rs.below_app (unhide HCUT).2 (unhide HCUT).1 (unhide HG5)⟩
      case measure => simp [intOf]; omega
    · obtain rfl : k = l.length := by omega
      rw [List.take_length] at hrow
      obtain ⟨A2, ca2, rfl, hm2, hcm2, _⟩ := Rs.own_lst2 hrow.1
      have HB2 := hide hrow.2
      have HM2 := hide hm2
      have HL2 := hide ((unhide HL1).below hrow.2 |>.more hrow.2.size)
      have HT2 := hide ((unhide HT1).below hrow.2 (Nat.le_refl _))
      clear hrow hm2
      go_wp2_with fail
      refine (pclose_any l A ca wr (unhide HT2) (by omega) hca (unhide HL2)).mono ?_
      rintro e w3 ⟨v3, rfl, hcut3⟩
      have hcl := close_len l
      have HHAS := hide (close_any l x)
      have HLEAST := hide (close_least l)
      have HCC := hide (close_close l)
      obtain ⟨A3, c3, rfl, hl3, hc3, hcm3⟩ := Rs.own_lst hcut3.1
      have HB3 := hide ((unhide HB2).trans (hcut3.2.mono (unhide HB2).size))
      have HC3 := hide hl3
      have HM3 := hide ((unhide HM2).below hcut3.2 |>.more hcut3.2.size)
      have HT3 := hide ((unhide HT2).below hcut3.2 (Nat.le_refl _))
      clear hcut3 hl3 HL2 HM2
      generalize closeL l = c at *
      go_wp2_with fail
      refine (FoLawOrbits.refOrbit x w3).mono ?_
      rintro e w4 ⟨u4, rfl, hcut4⟩
      have h3 := orb_three x
      obtain ⟨A4, c4, rfl, hr4, hc4⟩ := own_reads hcut4.1
      have HB4 := hide ((unhide HB3).trans (hcut4.2.mono (unhide HB3).size))
      have HR4 := hide hr4
      have HC4 := hide ((unhide HC3).below hcut4.2 |>.more hcut4.2.size)
      have HM4 := hide ((unhide HM3).below hcut4.2 |>.more hcut4.2.size)
      have HT4 := hide ((unhide HT3).below hcut4.2 (Nat.le_refl _))
      clear hcut4 hr4 HC3 HM3
      generalize orb x = os at *
      go_wp2
      go_loopw [9, 35] (fun o i wx => ∃ k : Nat, i = .int .i64 k ∧ k ≤ os.length ∧ o = .bool ((os.take k).any (hasL l)) ∧ wx = w4) (fun _ i _ => os.length - (intOf i).toNat)
      case atStart => exact ⟨0, rfl, Nat.zero_le _, by simp, rfl⟩
      case round =>
        obtain ⟨k, rfl, hk, rfl, rfl⟩ := hrel
        by_cases hlt : k < os.length
        · obtain ⟨g6, o6, rfl, _, hc6⟩ := (unhide HR4).flat (by omega)
          obtain ⟨y, hy⟩ : ∃ y, os[k]? = some y := ⟨_, List.getElem?_eq_getElem hlt⟩
          have c6 : wr.cell? ⟨g6, o6 + k, none⟩ = some (.int .i64 y) := hc6 k _ (by simp [hy, Fo.i64])
          have hlt' : (k : Int) < (os.length : Int) := by omega
          have htk : (os.take (k + 1)).any (hasL l) = ((os.take k).any (hasL l) || hasL l y) := by
            have e : os[k] = y := by simpa [List.getElem?_eq_getElem hlt] using hy
            rw [List.take_succ_eq_append_getElem hlt, e, List.any_append]; simp
          have HTK := hide htk
          clear hc6 hy htk
          generalize (os.take k).any (hasL l) = q at *
          cases q with
          | true =>
            go_wp2
            first | go_roundw | refine ⟨⟨_, _, ?rel, rfl, rfl⟩, ?measure⟩ | refine ⟨?rel, ?measure⟩
            case rel => exact ⟨k + 1, by go_num, by omega, by rw [unhide HTK]; simp, by first | trivial | rfl⟩
            case measure => simp [intOf]; omega
          | false =>
            go_wp2_with fail
            refine (Rs.refHas_any l y A2 ca2 wr (by omega) (unhide HM4)).mono ?_
            rintro e w5 ⟨rfl, rfl⟩
            have HTK2 := hide (show (os.take (k + 1)).any (hasL l) = hasL l y by rw [unhide HTK]; simp)
            generalize hasL l y = q2 at *
            go_wp2
            first | go_roundw | refine ⟨⟨_, _, ?rel, rfl, rfl⟩, ?measure⟩ | refine ⟨?rel, ?measure⟩
            case rel => exact ⟨k + 1, by go_num, by omega, by rw [unhide HTK2], by first | trivial | rfl⟩
            case measure => simp [intOf]; omega
        · obtain rfl : k = os.length := by omega
          rw [List.take_length, ← unhide HHAS]
          go_wp2_with fail
          refine (pclose_any c A3 c3 wr (unhide HT4) (by omega) hc3 (unhide HC4)).mono ?_
          rintro e w7 ⟨v7, rfl, hcut7⟩
          rw [unhide HCC] at hcut7
          obtain ⟨A7, c7, rfl, hl7, hc7, hcm7⟩ := Rs.own_lst hcut7.1
          have HB7 := hide ((unhide HB4).trans (hcut7.2.mono (unhide HB4).size))
          have HC7 := hide ((unhide HC4).below hcut7.2 |>.more hcut7.2.size)
          have HD7 := hide hl7
          clear hcut7 hl7
          go_wp2_with fail
          refine (Rs.has_any c x A3 c3 w7 (by omega) (unhide HC7)).mono ?_
          rintro e w8 ⟨rfl, hb8⟩
          have HB8 := hide ((unhide HB7).trans (hb8.mono (unhide HB7).size))
          have HC8 := hide ((unhide HC7).below hb8 |>.more hb8.size)
          have HD8 := hide ((unhide HD7).below hb8 |>.more hb8.size)
          clear hb8
          generalize hasL c x = q at *
          have hqq : (q == q) = true := by simp
          go_wp2_with fail
          refine (Rs.right_any c A3 c3 w8 (by omega) hc3 (unhide HC8)).mono ?_
          rintro e w9 ⟨rfl, hb9⟩
          rw [decide_eq_true (unhide HLEAST)]
          have HB9 := hide ((unhide HB1).trans (((unhide HB8).trans (hb9.mono (unhide HB8).size)).mono (unhide HB1).size))
          have HC9 := hide ((unhide HC8).below hb9 |>.more hb9.size)
          have HD9 := hide ((unhide HD8).below hb9 |>.more hb9.size)
          clear hb9 HC8 HD8 HC7 HD7
          go_wp2
          go_loopw [67] (fun i wx => ∃ (m p : Nat), i = .int .i64 m ∧ m ≤ c.length ∧ wx = w9.drewN p) (fun i _ => c.length - (intOf i).toNat)
          case atStart => exact ⟨0, 0, rfl, Nat.zero_le _, rfl⟩
          case round =>
            obtain ⟨m, p, rfl, hm, rfl⟩ := hrel
            by_cases hml : m < c.length
            · obtain ⟨b8, o8, rfl, _, hc8⟩ := (unhide HC9) (by omega)
              obtain ⟨b9, o9, rfl, _, hc9⟩ := (unhide HD9) (by omega)
              obtain ⟨r, hr⟩ : ∃ r, c[m]? = some r := ⟨_, List.getElem?_eq_getElem hml⟩
              obtain ⟨e1, e2⟩ := hc8 m r hr
              obtain ⟨e3, e4⟩ := hc9 m r hr
              have hml' : (m : Int) < (c.length : Int) := by omega
              clear hc8 hc9 hr
              go_wp2_with fail
              go_quiet (fail)
              go_wp2
              first | go_roundw | refine ⟨?rel, ?measure⟩
              case rel => exact ⟨m + 1, _, by go_num, by omega, rfl⟩
              case measure => simp [intOf]; omega
            · obtain rfl : m = c.length := by omega
              go_wp2
              go_ret
              exact ⟨rfl, below_drewN (unhide HB9) _⟩

theorem walk (l : List R) (A : Option Addr) (ca : Nat) (x : Int) (w : World) {b off cap : Nat} (hT : Tab b off cap w) (hca : l.length ≤ ca) (_ : ca ≤ 9223372036854775807) (hl : Lst w w.heap.size A l) (_ : -9223372036854775808 ≤ x ∧ x ≤ 9223372036854775807) :
    Calls Tryd.prog 6 #[.slice A l.length ca, .int .i64 x] w fun e w' => e = .returned (.bool true) ∧ Below w.heap.size w w' := by
  by_cases h : 40 < (l.length : Int)
  · exact walk_big l A ca x w hT h
  · exact walk_small l A ca x w hT hca (by omega) hl
end Go.Proofs.YtefjhdllcjjlpaaDoor.FoLawCloses
