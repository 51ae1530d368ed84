/-
  Node.formed, counted, right, walked over the program's table of forms as it lies. Conditions: the table's variable holds what the program's text lays; the node's ranges lie in memory.
-/
import Derived.Test.YtckgbalmpddblaaDoorAsNums
import Derived.Test.YtckgbalmpddblaaDoorRsRight
set_option linter.unusedVariables false
set_option linter.unusedSimpArgs false
namespace Go.Proofs.YtckgbalmpddblaaDoor.As
open Go.RowKit Go.Proofs.YtckgbalmpddblaaDoor.Mem Go.Proofs.YtckgbalmpddblaaDoor.Rs

attribute [local go_sem] run_not_true run_not_false
def loT : List (List Int) := [[0,0,0,0,0],[0,0,0,0,0],[0,0,0,0,0],[1,0,0,0,0],[0,0,0,0,0],[0,0,0,0,2],[0,0,0,0,2],[1,0,0,0,1],[0,0,-1,0,1],[0,0,0,0,1],[1,0,0,0,1]]
def hiT : List (List Int) := [[0,0,0,0,0],[0,0,0,0,0],[0,0,0,0,0],[7,0,0,0,0],[99,0,0,1,0],[0,0,0,0,4096],[0,0,0,0,4097],[9223372036854775807,0,0,0,1],[0,1000,1000,1,1],[0,0,0,0,1],[4,0,0,0,1]]
def loF (k i : Nat) : Int := (loT.getD k []).getD i 0
def hiF (k i : Nat) : Int := (hiT.getD k []).getD i 0
def setF (k : Nat) : Bool := k == 2
def nameF (k : Nat) : Bool := k == 4 || k == 7
/-- THE TABLE LIES. -/
structure Fm (w : World) : Prop where
  lo : ∀ k i : Nat, k < 11 → i < 5 → w.cell? ⟨0, k * 12 + i, none⟩ = some (.int .i64 (loF k i))
  hi : ∀ k i : Nat, k < 11 → i < 5 → w.cell? ⟨0, k * 12 + 5 + i, none⟩ = some (.int .i64 (hiF k i))
  set : ∀ k : Nat, k < 11 → w.cell? ⟨0, k * 12 + 10, none⟩ = some (.bool (setF k))
  name : ∀ k : Nat, k < 11 → w.cell? ⟨0, k * 12 + 11, none⟩ = some (.bool (nameF k))
theorem Fm.lt {w : World} (h : Fm w) : 0 < w.heap.size := cell_lt (h.set 0 (by omega))
theorem Fm.below {w w' : World} {B : Nat} (h : Fm w) (hb : Below B w w') (hB : w.heap.size ≤ B) : Fm w' :=
  ⟨fun k i hk hi => (hb.cell (p := ⟨0, _, none⟩) (by have := h.lt; show 0 < B; omega)).trans (h.lo k i hk hi), fun k i hk hi => (hb.cell (p := ⟨0, _, none⟩) (by have := h.lt; show 0 < B; omega)).trans (h.hi k i hk hi),
   fun k hk => (hb.cell (p := ⟨0, _, none⟩) (by have := h.lt; show 0 < B; omega)).trans (h.set k hk), fun k hk => (hb.cell (p := ⟨0, _, none⟩) (by have := h.lt; show 0 < B; omega)).trans (h.name k hk)⟩

def numF (nd : Nd) (i : Nat) : Int := match i with
  | 0 => nd.num
  | 1 => nd.mn
  | 2 => nd.mx
  | 3 => nd.mode
  | _ => nd.kids.length
def numsOk (k : Nat) (nd : Nd) : Bool := (List.range 5).all fun i => decide (loF k i ≤ numF nd i) && decide (numF nd i ≤ hiF k i)
def formedB (k : Nat) (nd : Nd) : Bool := numsOk k nd && (!(decide (0 < nd.set.length) && !setF k) && !(!(nd.name == []) && !nameF k)) && (decide (nd.name.length ≤ 32) && decide (Least nd.set))
theorem nums_fail {k : Nat} {nd : Nd} {i : Nat} (hi : i < 5) (h : numF nd i < loF k i ∨ hiF k i < numF nd i) : formedB k nd = false := by
  unfold formedB
  rw [show numsOk k nd = false from by
    rw [Bool.eq_false_iff, ne_eq]
    intro ha
    have := List.all_eq_true.1 ha i (List.mem_range.2 hi)
    simp at this
    omega]
  simp
set_option maxRecDepth 100000 in
theorem idx_num (nd : Nd) (i : Nat) (hi : i < 5) (W : World) : Sem.run Tryd.prog (Instr.index 65 (.agg (five nd.num nd.mn nd.mx nd.mode nd.kids.length)) (.int .i64 (i : Int))) W = .ok (.int .i64 (numF nd i)) W := by
  have u := Tryd.underlying65
  have u3 := Tryd.underlying3
  have a3 := Tryd.isAgg3
  have z3 := Tryd.sizeOf3
  match i, hi with
  | 0, _ => go_simp; try rfl
  | 1, _ => go_simp; try rfl
  | 2, _ => go_simp; try rfl
  | 3, _ => go_simp; try rfl
  | 4, _ => go_simp; try rfl
def FRel (k : Nat) (nd : Nd) (W : World) (i : Value) (wr : World) : Prop := ∃ j : Nat, i = .int .i64 j ∧ j ≤ 5 ∧ (∀ t : Nat, t < j → loF k t ≤ numF nd t ∧ numF nd t ≤ hiF k t) ∧ wr = W

set_option maxRecDepth 100000 in
set_option maxHeartbeats 4000000 in
/-- **formed** -/
theorem formed_any (nd : Nd) (k : Nat) (hkd : nd.kind = k) (hk1 : 1 ≤ k) (hk2 : k ≤ 10) (S K : Option Addr) (cs ck : Nat) (w : World) (hT : Fm w) (hs : nd.set.length ≤ 8796093021952) (hcs : nd.set.length ≤ cs) (hS : Lst w w.heap.size S nd.set) :
    Calls Tryd.prog 30 #[.agg #[.int .i64 nd.kind, .int .i64 nd.from_, .int .i64 nd.to_, .int .i64 nd.num, .int .i64 nd.mn, .int .i64 nd.mx, .int .i64 nd.mode, str nd.name, .slice S nd.set.length cs, .slice K nd.kids.length ck]] w fun e w' => e = .returned (.bool (formedB k nd)) ∧ Below w.heap.size w w' := by
  have hb0 : Below w.heap.size w (w.alloc (.cells #[.int .i64 nd.kind, .int .i64 nd.from_, .int .i64 nd.to_, .int .i64 nd.num, .int .i64 nd.mn, .int .i64 nd.mx, .int .i64 nd.mode, str nd.name, .slice S nd.set.length cs, .slice K nd.kids.length ck] 42)) := (Below.refl _ _).alloc (Nat.le_refl _) _
  have hT1 := hT.below hb0 (Nat.le_refl _)
  have t0 := hT1.lo k 0 (by omega) (by omega)
  have t1 := hT1.lo k 1 (by omega) (by omega)
  have t2 := hT1.lo k 2 (by omega) (by omega)
  have t3 := hT1.lo k 3 (by omega) (by omega)
  have t4 := hT1.lo k 4 (by omega) (by omega)
  have t5 := hT1.hi k 0 (by omega) (by omega)
  have t6 := hT1.hi k 1 (by omega) (by omega)
  have t7 := hT1.hi k 2 (by omega) (by omega)
  have t8 := hT1.hi k 3 (by omega) (by omega)
  have t9 := hT1.hi k 4 (by omega) (by omega)
  have t10 := hT1.set k (by omega)
  have t11 := hT1.name k (by omega)
  simp only [Nat.add_zero, Nat.add_assoc, Nat.reduceAdd] at t0 t1 t2 t3 t4 t5 t6 t7 t8 t9 t10 t11
  have hb1 : Below w.heap.size w ((w.alloc (.cells #[.int .i64 nd.kind, .int .i64 nd.from_, .int .i64 nd.to_, .int .i64 nd.num, .int .i64 nd.mn, .int .i64 nd.mx, .int .i64 nd.mode, str nd.name, .slice S nd.set.length cs, .slice K nd.kids.length ck] 42)).alloc (.cells #[.int .i64 (loF k 0), .int .i64 (loF k 1), .int .i64 (loF k 2), .int .i64 (loF k 3), .int .i64 (loF k 4), .int .i64 (hiF k 0), .int .i64 (hiF k 1), .int .i64 (hiF k 2), .int .i64 (hiF k 3), .int .i64 (hiF k 4), .bool (setF k), .bool (nameF k)] 70)) := hb0.alloc hb0.size _
  have HB1 := hide hb1
  have HSL := hide (hS.below hb1)
  have bN := (Blk.new w 42 #[.int .i64 nd.kind, .int .i64 nd.from_, .int .i64 nd.to_, .int .i64 nd.num, .int .i64 nd.mn, .int .i64 nd.mx, .int .i64 nd.mode, str nd.name, .slice S nd.set.length cs, .slice K nd.kids.length ck]).alloc (.cells #[.int .i64 (loF k 0), .int .i64 (loF k 1), .int .i64 (loF k 2), .int .i64 (loF k 3), .int .i64 (loF k 4), .int .i64 (hiF k 0), .int .i64 (hiF k 1), .int .i64 (hiF k 2), .int .i64 (hiF k 3), .int .i64 (hiF k 4), .bool (setF k), .bool (nameF k)] 70)
  have bF := Blk.new (w.alloc (.cells #[.int .i64 nd.kind, .int .i64 nd.from_, .int .i64 nd.to_, .int .i64 nd.num, .int .i64 nd.mn, .int .i64 nd.mx, .int .i64 nd.mode, str nd.name, .slice S nd.set.length cs, .slice K nd.kids.length ck] 42)) 70 #[.int .i64 (loF k 0), .int .i64 (loF k 1), .int .i64 (loF k 2), .int .i64 (loF k 3), .int .i64 (loF k 4), .int .i64 (hiF k 0), .int .i64 (hiF k 1), .int .i64 (hiF k 2), .int .i64 (hiF k 3), .int .i64 (hiF k 4), .bool (setF k), .bool (nameF k)]
  rw [World.size_alloc] at bF
  have HN := hide bN
  have HF := hide bF
  have C := hide (nums_any nd (.slice S nd.set.length cs) K nd.kids.length ck ((w.alloc (.cells #[.int .i64 nd.kind, .int .i64 nd.from_, .int .i64 nd.to_, .int .i64 nd.num, .int .i64 nd.mn, .int .i64 nd.mx, .int .i64 nd.mode, str nd.name, .slice S nd.set.length cs, .slice K nd.kids.length ck] 42)).alloc (.cells #[.int .i64 (loF k 0), .int .i64 (loF k 1), .int .i64 (loF k 2), .int .i64 (loF k 3), .int .i64 (loF k 4), .int .i64 (hiF k 0), .int .i64 (hiF k 1), .int .i64 (hiF k 2), .int .i64 (hiF k 3), .int .i64 (hiF k 4), .bool (setF k), .bool (nameF k)] 70)))
  have hkl : (k : Int) < 11 := by omega
  have hk0 : (1 : Int) ≤ (k : Int) := by omega
  rw [hkd] at C HN HF HB1 HSL t0 t1 t2 t3 t4 t5 t6 t7 t8 t9 t10 t11 ⊢
  clear hT hT1 hS hb0 hb1 bN bF
  go_enter Tryd.func30, Tryd.ntmps30
  go_wp2_with fail
  refine (unhide C).mono ?_
  rintro e w3 ⟨rfl, hb3⟩
  have HIX := hide (fun i hi => idx_num nd i hi)
  have bN := (unhide HN).below hb3 (by simp; omega)
  have bF := (unhide HF).below hb3 (by simp)
  have HSL3 := hide ((unhide HSL).below (hb3.mono (by simp; omega)))
  have HB3 := hide ((unhide HB1).trans (hb3.mono (by simp; omega)))
  have HN := hide bN
  have HF := hide bF
  have HNF := hide (fun i hi h => nums_fail (k := k) (nd := nd) (i := i) hi h)
  clear C HB1 HSL hb3 bN bF t0 t1 t2 t3 t4 t5 t6 t7 t8 t9 t10 t11
  go_wp2_with fail
  go_loopw [12] (fun i wr => FRel k nd w3 i wr) (fun i _ => 5 - (intOf i).toNat)
  case atStart => exact ⟨0, rfl, by omega, fun t ht => absurd ht (by omega), rfl⟩
  case round =>
    obtain ⟨j, rfl, hj, hok, rfl⟩ := hrel
    go_hideQ
    have HOK := hide hok
    clear hok
    by_cases hlt : j < 5
    · have hji : (j : Int) < 5 := by omega
      have ix := (unhide HIX) j hlt
      have c0 : wr.cell? ⟨w.heap.size + 1, j, none⟩ = some (.int .i64 (loF k j)) := ((unhide HF).cell j).trans (by match j, hlt with
        | 0, _ => rfl
        | 1, _ => rfl
        | 2, _ => rfl
        | 3, _ => rfl
        | 4, _ => rfl)
      have c1 : wr.cell? ⟨w.heap.size + 1, 5 + j, none⟩ = some (.int .i64 (hiF k j)) := ((unhide HF).cell (5 + j)).trans (by match j, hlt with
        | 0, _ => rfl
        | 1, _ => rfl
        | 2, _ => rfl
        | 3, _ => rfl
        | 4, _ => rfl)
      obtain ⟨x, hx⟩ : ∃ x, numF nd j = x := ⟨_, rfl⟩
      obtain ⟨lo, hlo⟩ : ∃ x, loF k j = x := ⟨_, rfl⟩
      obtain ⟨hi, hhi⟩ : ∃ x, hiF k j = x := ⟨_, rfl⟩
      rw [hx] at ix
      rw [hlo] at c0
      rw [hhi] at c1
      have HX := hide (And.intro hx (And.intro hlo hhi))
      clear hx hlo hhi
      by_cases h1 : x < lo
      · have e1 : decide (x < lo) = true := by simpa using h1
        have HR := hide ((unhide HNF) j hlt (.inl (by rw [(unhide HX).1, (unhide HX).2.1]; exact h1)))
        clear h1
        go_wp2_with fail
        go_ret
        exact ⟨by rw [unhide HR]; rfl, unhide HB3⟩
      · have e1 : decide (x < lo) = false := by simpa using h1
        by_cases h2 : hi < x
        · have e2 : decide (hi < x) = true := by simpa using h2
          have HR := hide ((unhide HNF) j hlt (.inr (by rw [(unhide HX).1, (unhide HX).2.2]; exact h2)))
          clear h1 h2
          go_wp2_with fail
          go_ret
          exact ⟨by rw [unhide HR]; rfl, unhide HB3⟩
        · have e2 : decide (hi < x) = false := by simpa using h2
          have hR : FRel k nd wr (.int .i64 ((j : Int) + 1)) wr := by
            refine ⟨j + 1, by go_num, by omega, fun t ht => ?_, rfl⟩
            rcases Nat.lt_or_ge t j with h | h
            · exact (unhide HOK) t h
            · obtain rfl : t = j := by omega
              rw [(unhide HX).1, (unhide HX).2.1, (unhide HX).2.2]
              omega
          have HRR := hide hR
          clear h1 h2 hR
          go_wp2_with fail
          have hR := unhide HRR
          go_roundw
          case rel => exact hR
          case measure => simp [intOf]; omega
    · obtain rfl : j = 5 := by omega
      have HNO := hide (show numsOk k nd = true from List.all_eq_true.2 fun t ht => by
        have := (unhide HOK) t (List.mem_range.1 ht)
        simpa using this)
      have n7 := (unhide HN).cell 7
      have n8 := (unhide HN).cell 8
      have f2 := (unhide HF).cell 10
      have f3 := (unhide HF).cell 11
      clear hlt HIX HNF
      obtain ⟨p, hp⟩ : ∃ p, setF k = p := ⟨_, rfl⟩
      obtain ⟨q, hq⟩ : ∃ q, nameF k = q := ⟨_, rfl⟩
      obtain ⟨lq, hlq⟩ : ∃ q, decide (Least nd.set) = q := ⟨_, rfl⟩
      have HFB := hide (show formedB k nd = ((!(decide (0 < nd.set.length) && !p) && !(!(nd.name == []) && !q)) && (decide (nd.name.length ≤ 32) && lq)) from by
        unfold formedB
        rw [unhide HNO, hp, hq, hlq, Bool.true_and])
      have hrt := right_any nd.set S cs wr hs hcs ((unhide HSL3).more (by have := (unhide HB3).size; omega))
      rw [hlq] at hrt
      have HRT := hide hrt
      replace f2 : wr.cell? ⟨w.heap.size + 1, 10, none⟩ = some (.bool p) := f2.trans (by rw [← hp]; rfl)
      replace f3 : wr.cell? ⟨w.heap.size + 1, 11, none⟩ = some (.bool q) := f3.trans (by rw [← hq]; rfl)
      clear hrt hp hq hlq HNO HSL3 HN HF HOK
      by_cases hS : 0 < nd.set.length
      · have es : decide (0 < nd.set.length) = true := by simpa using hS
        cases p with
        | true =>
          by_cases hn : nd.name = []
          · have en : (nd.name == []) = true := by simp [hn]
            by_cases h32 : nd.name.length ≤ 32
            · have e32 : decide ((nd.name.length : Int) ≤ 32) = true := by simp; omega
              have e33 : decide (nd.name.length ≤ 32) = true := by simpa using h32
              have HR := hide (show formedB k nd = lq from by rw [unhide HFB]; simp [hS, hn, h32])
              clear hS h32 hn
              go_wp2_with fail
              refine (unhide HRT).mono ?_
              rintro e w5 ⟨rfl, hb5⟩
              have HB5 := hide ((unhide HB3).trans (hb5.mono (unhide HB3).size))
              clear hb5 HRT
              go_wp2_with fail
              go_ret
              exact ⟨by rw [unhide HR]; rfl, unhide HB5⟩
            · have e32 : decide ((nd.name.length : Int) ≤ 32) = false := by simp; omega
              have e33 : decide (nd.name.length ≤ 32) = false := by simpa using h32
              have HR := hide (show formedB k nd = false from by rw [unhide HFB]; simp [h32])
              clear hS h32 hn
              go_wp2_with fail
              go_ret
              exact ⟨by rw [unhide HR]; rfl, unhide HB3⟩
          · have en : (nd.name == []) = false := by simp [hn]
            cases q with
            | true =>
              by_cases h32 : nd.name.length ≤ 32
              · have e32 : decide ((nd.name.length : Int) ≤ 32) = true := by simp; omega
                have e33 : decide (nd.name.length ≤ 32) = true := by simpa using h32
                have HR := hide (show formedB k nd = lq from by rw [unhide HFB]; simp [hS, hn, h32])
                clear hS h32 hn
                go_wp2_with fail
                refine (unhide HRT).mono ?_
                rintro e w5 ⟨rfl, hb5⟩
                have HB5 := hide ((unhide HB3).trans (hb5.mono (unhide HB3).size))
                clear hb5 HRT
                go_wp2_with fail
                go_ret
                exact ⟨by rw [unhide HR]; rfl, unhide HB5⟩
              · have e32 : decide ((nd.name.length : Int) ≤ 32) = false := by simp; omega
                have e33 : decide (nd.name.length ≤ 32) = false := by simpa using h32
                have HR := hide (show formedB k nd = false from by rw [unhide HFB]; simp [h32])
                clear hS h32 hn
                go_wp2_with fail
                go_ret
                exact ⟨by rw [unhide HR]; rfl, unhide HB3⟩
            | false =>
              have HR := hide (show formedB k nd = false from by rw [unhide HFB]; simp [hn])
              clear hS hn
              go_wp2_with fail
              go_ret
              exact ⟨by rw [unhide HR]; rfl, unhide HB3⟩
        | false =>
          have HR := hide (show formedB k nd = false from by rw [unhide HFB]; simp [hS])
          clear hS
          go_wp2_with fail
          go_ret
          exact ⟨by rw [unhide HR]; rfl, unhide HB3⟩
      · have es : decide (0 < nd.set.length) = false := by simpa using hS
        by_cases hn : nd.name = []
        · have en : (nd.name == []) = true := by simp [hn]
          by_cases h32 : nd.name.length ≤ 32
          · have e32 : decide ((nd.name.length : Int) ≤ 32) = true := by simp; omega
            have e33 : decide (nd.name.length ≤ 32) = true := by simpa using h32
            have HR := hide (show formedB k nd = lq from by rw [unhide HFB]; simp [hS, hn, h32])
            clear hS h32 hn
            go_wp2_with fail
            refine (unhide HRT).mono ?_
            rintro e w5 ⟨rfl, hb5⟩
            have HB5 := hide ((unhide HB3).trans (hb5.mono (unhide HB3).size))
            clear hb5 HRT
            go_wp2_with fail
            go_ret
            exact ⟨by rw [unhide HR]; rfl, unhide HB5⟩
          · have e32 : decide ((nd.name.length : Int) ≤ 32) = false := by simp; omega
            have e33 : decide (nd.name.length ≤ 32) = false := by simpa using h32
            have HR := hide (show formedB k nd = false from by rw [unhide HFB]; simp [h32])
            clear hS h32 hn
            go_wp2_with fail
            go_ret
            exact ⟨by rw [unhide HR]; rfl, unhide HB3⟩
        · have en : (nd.name == []) = false := by simp [hn]
          cases q with
          | true =>
            by_cases h32 : nd.name.length ≤ 32
            · have e32 : decide ((nd.name.length : Int) ≤ 32) = true := by simp; omega
              have e33 : decide (nd.name.length ≤ 32) = true := by simpa using h32
              have HR := hide (show formedB k nd = lq from by rw [unhide HFB]; simp [hS, hn, h32])
              clear hS h32 hn
              go_wp2_with fail
              refine (unhide HRT).mono ?_
              rintro e w5 ⟨rfl, hb5⟩
              have HB5 := hide ((unhide HB3).trans (hb5.mono (unhide HB3).size))
              clear hb5 HRT
              go_wp2_with fail
              go_ret
              exact ⟨by rw [unhide HR]; rfl, unhide HB5⟩
            · have e32 : decide ((nd.name.length : Int) ≤ 32) = false := by simp; omega
              have e33 : decide (nd.name.length ≤ 32) = false := by simpa using h32
              have HR := hide (show formedB k nd = false from by rw [unhide HFB]; simp [h32])
              clear hS h32 hn
              go_wp2_with fail
              go_ret
              exact ⟨by rw [unhide HR]; rfl, unhide HB3⟩
          | false =>
            have HR := hide (show formedB k nd = false from by rw [unhide HFB]; simp [hn])
            clear hS hn
            go_wp2_with fail
            go_ret
            exact ⟨by rw [unhide HR]; rfl, unhide HB3⟩

def countedB (k : Nat) (nd : Nd) : Bool := if k = 4 then decide (0 < nd.num) || !(nd.name == []) else if k = 8 then (nd.mx == -1) || decide (max 1 nd.mn ≤ nd.mx) else true
set_option maxRecDepth 100000 in
set_option maxHeartbeats 2000000 in
/-- **counted** -/
theorem counted_any (nd : Nd) (k : Nat) (hkd : nd.kind = k) (s kv : Value) (w : World) :
    Calls Tryd.prog 31 #[.agg #[.int .i64 nd.kind, .int .i64 nd.from_, .int .i64 nd.to_, .int .i64 nd.num, .int .i64 nd.mn, .int .i64 nd.mx, .int .i64 nd.mode, str nd.name, s, kv]] w fun e w' => e = .returned (.bool (countedB k nd)) ∧ Below w.heap.size w w' := by
  have HBW := hide ((Below.refl w.heap.size w).alloc (Nat.le_refl _) (.cells #[.int .i64 nd.kind, .int .i64 nd.from_, .int .i64 nd.to_, .int .i64 nd.num, .int .i64 nd.mn, .int .i64 nd.mx, .int .i64 nd.mode, str nd.name, s, kv] 42))
  rw [hkd] at HBW ⊢
  clear hkd
  by_cases h4 : k = 4
  · subst h4
    by_cases hn : 0 < nd.num
    · have e1 : decide (0 < nd.num) = true := by simpa using hn
      have HR := hide (show countedB 4 nd = true by unfold countedB; simp [hn])
      clear hn
      go_enter Tryd.func31, Tryd.ntmps31
      go_wp2_with fail
      go_ret
      exact ⟨by rw [unhide HR]; rfl, unhide HBW⟩
    · have e1 : decide (0 < nd.num) = false := by simpa using hn
      by_cases he : nd.name = []
      · have en : (nd.name == []) = true := by simp [he]
        have HR := hide (show countedB 4 nd = false by unfold countedB; simp [hn, he])
        clear hn he
        go_enter Tryd.func31, Tryd.ntmps31
        go_wp2_with fail
        go_ret
        exact ⟨by rw [unhide HR]; rfl, unhide HBW⟩
      · have en : (nd.name == []) = false := by simp [he]
        have HR := hide (show countedB 4 nd = true by unfold countedB; simp [he])
        clear hn he
        go_enter Tryd.func31, Tryd.ntmps31
        go_wp2_with fail
        go_ret
        exact ⟨by rw [unhide HR]; rfl, unhide HBW⟩
  · by_cases h8 : k = 8
    · subst h8
      clear h4
      by_cases hm : nd.mx = -1
      · have e1 : (nd.mx == -1) = true := by simp [hm]
        have HR := hide (show countedB 8 nd = true by unfold countedB; simp [hm])
        clear hm
        go_enter Tryd.func31, Tryd.ntmps31
        go_wp2_with fail
        go_ret
        exact ⟨by rw [unhide HR]; rfl, unhide HBW⟩
      · have e1 : (nd.mx == -1) = false := by simp [hm]
        obtain ⟨z, hz⟩ : ∃ z, max 1 nd.mn = z := ⟨_, rfl⟩
        obtain ⟨q, hq⟩ : ∃ q, decide (z ≤ nd.mx) = q := ⟨_, rfl⟩
        have HR := hide (show countedB 8 nd = q by unfold countedB; rw [if_neg (by decide), if_pos rfl, hz, hq, e1, Bool.false_or])
        clear hm
        go_enter Tryd.func31, Tryd.ntmps31
        go_wp2_with fail
        go_ret
        exact ⟨by rw [unhide HR]; rfl, unhide HBW⟩
    · have e4 : ((k : Int) == 4) = false := by simp; omega
      have e8 : ((k : Int) == 8) = false := by simp; omega
      have HR := hide (show countedB k nd = true by unfold countedB; rw [if_neg h4, if_neg h8])
      clear h4 h8
      go_enter Tryd.func31, Tryd.ntmps31
      go_wp2_with fail
      go_ret
      exact ⟨by rw [unhide HR]; rfl, unhide HBW⟩
end Go.Proofs.YtckgbalmpddblaaDoor.As
