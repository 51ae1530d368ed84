/-
  Right, walked: may a state be, with so many groups? Conditions: the tables of ends hold what the text lays; th
-/
import Derived.Test.YtcajhkcopfabpaaDoorMEvCaps
set_option linter.unusedSimpArgs false
set_option linter.unusedVariables false
namespace Go.Proofs.YtcajhkcopfabpaaDoor.Ev
open Go.RowKit Go.Proofs.YtcajhkcopfabpaaDoor.Mem
structure Tb (w : World) : Prop where
  lo : ∀ k : Nat, k < 7 → w.cell? ⟨0, k, none⟩ = some (.int .i64 (loF k))
  hi : ∀ k : Nat, k < 7 → w.cell? ⟨1, k, none⟩ = some (.int .i64 (hiF k))
theorem Tb.below {w w' : World} {B : Nat} (h : Tb w) (hb : Below B w w') (hB : w.heap.size ≤ B) : Tb w' :=
  ⟨fun k hk => (hb.cell (p := ⟨0, k, none⟩) (Nat.lt_of_lt_of_le (cell_lt (h.lo k hk)) hB)).trans (h.lo k hk), fun k hk => (hb.cell (p := ⟨1, k, none⟩) (Nat.lt_of_lt_of_le (cell_lt (h.hi k hk)) hB)).trans (h.hi k hk)⟩
def numF (s : St) (i : Nat) : Int := match i with
  | 0 => s.kind
  | 1 => s.node
  | 2 => s.phase
  | 3 => s.pos
  | 4 => s.start
  | 5 => s.depth
  | _ => s.origin
def numsOk (s : St) : Bool := (List.range 7).all fun i => decide (loF i ≤ numF s i) && decide (numF s i ≤ hiF i)
def rightB (s : St) (g : Int) : Bool := numsOk s && (decide (0 ≤ g) && decide (g ≤ 99) && decide ((s.caps.length : Int) = 2 * (g + 1)) && !(s.caps.any wrongB))
theorem nums_fail {s : St} {i : Nat} (hi : i < 7) (h : numF s i < loF i ∨ hiF i < numF s i) (g : Int) : rightB s g = false := by
  unfold rightB
  rw [show numsOk s = false from by
    rw [Bool.eq_false_iff, ne_eq]
    intro ha
    have := List.all_eq_true.1 ha i (List.mem_range.2 hi)
    simp at this
    omega]
  simp
theorem nums_all {s : St} (h : ∀ t : Nat, t < 7 → loF t ≤ numF s t ∧ numF s t ≤ hiF t) : numsOk s = true := by
  unfold numsOk
  rw [List.all_eq_true]
  intro i hi
  have := h i (List.mem_range.1 hi)
  simp [this.1, this.2]
set_option maxRecDepth 100000 in
theorem idx_num (s : St) (i : Nat) (hi : i < 7) (W : World) : Sem.run Tryd.prog (Instr.index 39 (.agg (seven s.kind s.node s.phase s.pos s.start s.depth s.origin)) (.int .i64 (i : Int))) W = .ok (.int .i64 (numF s i)) W := by
  have u := Tryd.underlying39
  have u3 := Tryd.underlying3
  have a3 := Tryd.isAgg3
  have z3 := Tryd.sizeOf3
  match i, hi with
  | 0, _ => go_simp; try rfl
  | 1, _ => go_simp; try rfl
  | 2, _ => go_simp; try rfl
  | 3, _ => go_simp; try rfl
  | 4, _ => go_simp; try rfl
  | 5, _ => go_simp; try rfl
  | 6, _ => go_simp; try rfl
def FRel (s : St) (W : World) (i : Value) (wr : World) : Prop := ∃ j : Nat, i = .int .i64 j ∧ j ≤ 7 ∧ (∀ t : Nat, t < j → loF t ≤ numF s t ∧ numF s t ≤ hiF t) ∧ wr = W
theorem cv_drewN {l : List Int} {A : Option Addr} {cap : Nat} {w : World} (h : CV l A cap w) (k : Nat) : CV l A cap (w.drewN k) := ⟨h.room, h.top, h.reads⟩
attribute [local go_sem] run_not_true run_not_false
set_option maxRecDepth 100000 in
set_option maxHeartbeats 4000000 in
theorem right_any (s : St) (A : Option Addr) (c : Nat) (g : Int) (w : World) (hT : Tb w) (hC : CV s.caps A c w) :
    Calls Tryd.prog 9 #[.agg #[.int .i64 s.kind, .int .i64 s.node, .int .i64 s.phase, .int .i64 s.pos, .int .i64 s.start, .int .i64 s.depth, .int .i64 s.origin, .slice A s.caps.length c], .int .i64 g] w fun e w' => e = .returned (.bool (rightB s g)) ∧ Below w.heap.size w w' := by
  have hb0 := below_box w (.cells #[.int .i64 s.kind, .int .i64 s.node, .int .i64 s.phase, .int .i64 s.pos, .int .i64 s.start, .int .i64 s.depth, .int .i64 s.origin, .slice A s.caps.length c] 24)
  have HT := hide (hT.below hb0 (Nat.le_refl _))
  have HC := hide (hC.below hb0)
  have HN := hide (Blk.new w 24 #[.int .i64 s.kind, .int .i64 s.node, .int .i64 s.phase, .int .i64 s.pos, .int .i64 s.start, .int .i64 s.depth, .int .i64 s.origin, .slice A s.caps.length c])
  have HB := hide hb0
  have hroom := hC.room
  have htop := hC.top
  have C := hide (nums_any s A s.caps.length c (w.alloc (.cells #[.int .i64 s.kind, .int .i64 s.node, .int .i64 s.phase, .int .i64 s.pos, .int .i64 s.start, .int .i64 s.depth, .int .i64 s.origin, .slice A s.caps.length c] 24)))
  have HIX := hide (fun i hi => idx_num s i hi)
  clear hT hC hb0
  go_enter Tryd.func9, Tryd.ntmps9
  go_wp2_with fail
  refine (unhide C).mono ?_
  rintro e w3 ⟨rfl, hb3⟩
  have HT3 := hide ((unhide HT).below hb3 (Nat.le_refl _))
  have HC3 := hide ((unhide HC).below hb3)
  have hbx := (unhide HN).below hb3 (unhide HN).lt
  have k7 := hbx.cell 7
  have HB3 := hide ((unhide HB).trans (hb3.mono (unhide HB).size))
  clear C HT HC HN HB hb3 hbx
  go_wp2_with fail
  go_loopw [10] (fun i wr => FRel s w3 i wr) (fun i _ => 7 - (intOf i).toNat)
  case atStart => exact ⟨0, rfl, by omega, fun t ht => absurd ht (by omega), rfl⟩
  case round =>
    obtain ⟨j, rfl, hj, hok, rfl⟩ := hrel
    go_hideQ
    have HOK := hide hok
    clear hok
    by_cases hlt : j < 7
    · have hji : (j : Int) < 7 := by omega
      have ix := (unhide HIX) j hlt
      have c0 := (unhide HT3).lo j hlt
      have c1 := (unhide HT3).hi j hlt
      obtain ⟨x, hx⟩ : ∃ x, numF s j = x := ⟨_, rfl⟩
      obtain ⟨lo, hlo⟩ : ∃ x, loF j = x := ⟨_, rfl⟩
      obtain ⟨hi, hhi⟩ : ∃ x, hiF j = x := ⟨_, rfl⟩
      rw [hx] at ix
      rw [hlo] at c0
      rw [hhi] at c1
      have HX := hide (And.intro hx (And.intro hlo hhi))
      clear hx hlo hhi
      by_cases h1 : x < lo
      · have e1 : decide (x < lo) = true := by simpa using h1
        have HR := hide (nums_fail (s := s) hlt (.inl (by rw [(unhide HX).1, (unhide HX).2.1]; exact h1)) g)
        clear h1
        go_wp2
        go_ret
        exact ⟨ret_b (unhide HR).symm, unhide HB3⟩
      · by_cases h2 : hi < x
        · have e1 : decide (x < lo) = false := by simpa using h1
          have e2 : decide (hi < x) = true := by simpa using h2
          have HR := hide (nums_fail (s := s) hlt (.inr (by rw [(unhide HX).1, (unhide HX).2.2]; exact h2)) g)
          clear h1 h2
          go_wp2
          go_ret
          exact ⟨ret_b (unhide HR).symm, unhide HB3⟩
        · have e1 : decide (x < lo) = false := by simpa using h1
          have e2 : decide (hi < x) = false := by simpa using h2
          have HX2 := hide (show lo ≤ x ∧ x ≤ hi by omega)
          clear h1 h2
          go_wp2_with fail
          have hR : FRel s wr (.int .i64 ((j : Int) + 1)) wr := ⟨j + 1, by go_num, by omega, fun t ht => by
            rcases Nat.lt_or_ge t j with h | h
            · exact (unhide HOK) t h
            · obtain rfl : t = j := by omega
              have hX := unhide HX
              rw [hX.1, hX.2.1, hX.2.2]
              exact unhide HX2, rfl⟩
          have hme : 7 - (intOf (.int .i64 ((j : Int) + 1))).toNat < 7 - j := by simp [intOf]; omega
          first | exact ⟨hR, hme⟩ | exact ⟨⟨_, _, _, hR, rfl, rfl, rfl⟩, hme⟩ | (go_roundw; exact hR; exact hme)
    · obtain rfl : j = 7 := by omega
      have CO := hide (fun (h : 0 ≤ g ∧ g ≤ 99) W => capsOf_any g h.1 h.2 W)
      have CF := hide (fun n => contains_any s.caps A c (wr.drewN n) (cv_drewN (unhide HC3) n))
      clear hlt hj
      by_cases h1 : 0 ≤ g
      · by_cases h2 : g ≤ 99
        · have CO := hide (fun n => (unhide CO) ⟨h1, h2⟩ (wr.drewN n))
          by_cases h3 : (s.caps.length : Int) = 2 * (g + 1)
          · have HR := hide (show rightB s g = !(s.caps.any wrongB) by unfold rightB; rw [nums_all (unhide HOK)]; simp [h1, h2, h3])
            have e3 : ((s.caps.length : Int) == 2 * (g + 1)) = true := by simp [h3]
            have HNB := hide (fun b : Bool => (rfl : (!b) = !b))
            clear h3
            cases hq : s.caps.any wrongB with
            | true =>
              rw [hq] at CF HR
              clear hq
              generalize s.caps.length = n at *
              go_wp2_with fail
              go_quiet (first | (go_at_call 17; exact Calls.quiet_of_same ((unhide CO) _)) | (go_at_call 18; exact Calls.quiet_of_same ((unhide CF) _)))
              go_wp2
              go_ret
              exact ⟨ret_b (unhide HR).symm, below_drewN (unhide HB3) _⟩
            | false =>
              rw [hq] at CF HR
              clear hq
              generalize s.caps.length = n at *
              go_wp2_with fail
              go_quiet (first | (go_at_call 17; exact Calls.quiet_of_same ((unhide CO) _)) | (go_at_call 18; exact Calls.quiet_of_same ((unhide CF) _)))
              go_wp2
              go_ret
              exact ⟨ret_b (unhide HR).symm, below_drewN (unhide HB3) _⟩
          · have HR := hide (show rightB s g = false by unfold rightB; simp [h3])
            have e3 : ((s.caps.length : Int) == 2 * (g + 1)) = false := by simp [h3]
            clear h3
            generalize s.caps.length = n at *
            go_wp2_with fail
            go_quiet (first | (go_at_call 17; exact Calls.quiet_of_same ((unhide CO) _)))
            go_wp2
            go_ret
            exact ⟨ret_b (unhide HR).symm, below_drewN (unhide HB3) _⟩
        · have HR := hide (show rightB s g = false by unfold rightB; simp [h2])
          have d2 : decide (g ≤ 99) = false := by simp [h2]
          go_wp2_with fail
          go_quiet (fail)
          go_wp2
          go_ret
          exact ⟨ret_b (unhide HR).symm, below_drewN (unhide HB3) _⟩
      · have HR := hide (show rightB s g = false by unfold rightB; simp [h1])
        have d1 : decide (0 ≤ g) = false := by simp [h1]
        have h1' : g < 0 := by omega
        clear h1
        go_wp2_with fail
        go_quiet (fail)
        go_wp2
        go_ret
        exact ⟨ret_b (unhide HR).symm, below_drewN (unhide HB3) _⟩
end Go.Proofs.YtcajhkcopfabpaaDoor.Ev
