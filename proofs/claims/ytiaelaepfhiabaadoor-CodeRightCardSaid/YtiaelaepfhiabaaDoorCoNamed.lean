/-
  IndexFunc and ContainsFunc at counts and sets; code.named. Condition: counts and sets lie in memory.
-/
import Derived.Test.YtiaelaepfhiabaaDoorCoCnt
set_option linter.unusedVariables false
set_option linter.unusedSimpArgs false
namespace Go.Proofs.YtiaelaepfhiabaaDoor.Co
open Go.RowKit Go.Proofs.YtiaelaepfhiabaaDoor.Mem Go.Proofs.YtiaelaepfhiabaaDoor.Rs
attribute [local go_sem] run_not_true run_not_false
/-- THE COUNTS LIE AT A -/
def Cns (w : World) (B : Nat) (A : Option Addr) (kk : List Cn) : Prop := 0 < kk.length → ∃ b off, A = some ⟨b, off, none⟩ ∧ b < B ∧ ∀ k c, kk[k]? = some c →
  w.cell? ⟨b, off + k * 3, none⟩ = some (.int .i64 c.1) ∧ w.cell? ⟨b, off + k * 3 + 1, none⟩ = some (.int .i64 c.2.1) ∧ w.cell? ⟨b, off + k * 3 + 2, none⟩ = some (.int .i64 c.2.2)
theorem Cns.below {w w' : World} {B : Nat} {A : Option Addr} {kk : List Cn} (h : Cns w B A kk) (hb : Below B w w') : Cns w' B A kk := fun hn => by
  obtain ⟨b, off, e, hlt, hc⟩ := h hn
  exact ⟨b, off, e, hlt, fun k c hk => by
    obtain ⟨h0, h1, h2⟩ := hc k c hk
    exact ⟨(hb.cell (p := ⟨b, _, none⟩) hlt).trans h0, (hb.cell (p := ⟨b, _, none⟩) hlt).trans h1, (hb.cell (p := ⟨b, _, none⟩) hlt).trans h2⟩⟩
theorem Cns.more {w : World} {B B' : Nat} {A : Option Addr} {kk : List Cn} (h : Cns w B A kk) (hB : B ≤ B') : Cns w B' A kk := fun hn => by
  obtain ⟨b, off, e, hlt, hc⟩ := h hn
  exact ⟨b, off, e, by omega, hc⟩
/-- THE SETS LIE AT A, each a list of its own -/
def Sts (w : World) (B : Nat) (A : Option Addr) (ss : List (List R)) : Prop := 0 < ss.length → ∃ b off, A = some ⟨b, off, none⟩ ∧ b < B ∧ ∀ k s, ss[k]? = some s →
  ∃ A' cap, w.cell? ⟨b, off + k, none⟩ = some (.slice A' s.length cap) ∧ Lst w B A' s ∧ s.length ≤ cap ∧ s.length ≤ 8796093021952
theorem Sts.below {w w' : World} {B : Nat} {A : Option Addr} {ss : List (List R)} (h : Sts w B A ss) (hb : Below B w w') : Sts w' B A ss := fun hn => by
  obtain ⟨b, off, e, hlt, hc⟩ := h hn
  exact ⟨b, off, e, hlt, fun k c hk => by
    obtain ⟨A', cap, h0, h1, h2⟩ := hc k c hk
    exact ⟨A', cap, (hb.cell (p := ⟨b, _, none⟩) hlt).trans h0, h1.below hb, h2⟩⟩
theorem Sts.more {w : World} {B B' : Nat} {A : Option Addr} {ss : List (List R)} (h : Sts w B A ss) (hB : B ≤ B') : Sts w B' A ss := fun hn => by
  obtain ⟨b, off, e, hlt, hc⟩ := h hn
  exact ⟨b, off, e, by omega, fun k c hk => by
    obtain ⟨A', cap, h0, h1, h2⟩ := hc k c hk
    exact ⟨A', cap, h0, h1.more hB, h2⟩⟩
theorem all_no {α : Type} {kk : List α} {p : α → Bool} {k : Nat} {i : α} (hi : kk[k]? = some i) (hp : p i = false) : kk.all p = false := by
  rw [List.all_eq_false]
  exact ⟨i, List.mem_of_getElem? hi, by simp [hp]⟩
theorem all_yes {α : Type} {kk : List α} {p : α → Bool} (h : ∀ j < kk.length, ∀ i, kk[j]? = some i → p i = true) : kk.all p = true := by
  rw [List.all_eq_true]
  intro i hi
  obtain ⟨j, hj, rfl⟩ := List.getElem_of_mem hi
  exact h j hj _ (List.getElem?_eq_getElem hj)
def leastB (s : List R) : Bool := decide (Least s)
theorem wrongsB (s : List R) (A : Option Addr) (cap : Nat) (w : World) (hlen : s.length ≤ 8796093021952) (hcap : s.length ≤ cap) (h : Lst w w.heap.size A s) : Calls Tryd.prog 23 #[.slice A s.length cap] w fun e w' => e = .returned (.bool (!leastB s)) ∧ Below w.heap.size w w' := wrongs_any s A cap w hlen hcap h

set_option maxHeartbeats 2000000 in
theorem idxC (kk : List Cn) (A : Option Addr) (c : Nat) (w : World) (hl : (kk.length : Int) ≤ 9000000000000000000) (h : Cns w w.heap.size A kk) :
    Calls Tryd.prog 41 #[.slice A kk.length c, .func (.func 25) #[] #[]] w fun e w' => (∃ n : Int, e = .returned (.int .i64 n) ∧ decide (0 ≤ n) = !(kk.all rightC)) ∧ Below w.heap.size w w' := by
  have HI := hide h
  have HL := hide hl
  clear h hl
  go_enter Tryd.func41, Tryd.ntmps41
  go_wp2_with fail
  go_loopw [8] (fun i wr => ∃ k : Nat, i = .int .i64 (k : Int) ∧ k ≤ kk.length ∧ (∀ j < k, ∀ i, kk[j]? = some i → rightC i = true) ∧ Below w.heap.size w wr) (fun i _ => kk.length - (intOf i).toNat)
  case atStart => exact ⟨0, rfl, Nat.zero_le _, fun j h => absurd h (by omega), Below.refl _ _⟩
  case round =>
    obtain ⟨k, rfl, hk, hno, hbe⟩ := hrel
    by_cases hlt : k < kk.length
    · obtain ⟨i, hi⟩ : ∃ i, kk[k]? = some i := ⟨kk[k], List.getElem?_eq_getElem hlt⟩
      obtain ⟨b, off, rfl, hb, hc⟩ := (unhide HI) (by omega)
      obtain ⟨c0, c1, c2⟩ := hc k i hi
      replace c0 := (hbe.cell (p := ⟨b, _, none⟩) hb).trans c0
      replace c1 := (hbe.cell (p := ⟨b, _, none⟩) hb).trans c1
      replace c2 := (hbe.cell (p := ⟨b, _, none⟩) hb).trans c2
      have H1 := hide (And.intro hno (And.intro hbe hi))
      clear hno hbe hi hc
      go_wp2_with fail
      refine (wrongc_any i wr).mono ?_
      rintro e w1 ⟨rfl, hb1⟩
      have HB := hide ((unhide H1).2.1.trans (hb1.mono (unhide H1).2.1.size))
      clear hb1
      cases q : (rightC i)
      · have HQ := hide (all_no (unhide H1).2.2 q)
        clear q
        go_wp2_with fail
        go_ret
        exact ⟨⟨k, rfl, by rw [unhide HQ]; exact decide_eq_true (by omega)⟩, unhide HB⟩
      · have HQ := hide q
        clear q
        go_wp2_with fail
        have hw : wrap64 ((k : Int) + 1) = ((k + 1 : Nat) : Int) := by
          have h1 := unhide HL
          rw [← IntWalk.i64_left, wrap_id _ (by omega) (by omega)]; simp
        refine ⟨⟨k + 1, by rw [hw], hlt, fun j hj t ht => ?_, unhide HB⟩, by rw [hw]; simp only [intOf, Int.toNat_natCast]; omega⟩
        rcases Nat.lt_or_ge j k with h1 | h1
        · exact (unhide H1).1 j h1 t ht
        · obtain rfl : j = k := by omega
          rw [(unhide H1).2.2] at ht
          obtain rfl := Option.some.inj ht
          exact unhide HQ
    · have hkn : (kk.length : Int) ≤ (k : Int) := by omega
      have HQ := hide (all_yes (kk := kk) (p := rightC) (fun j hj => hno j (by omega)))
      have HB := hide hbe
      clear hno hbe hlt hk
      go_wp2_with fail
      go_ret
      exact ⟨⟨-1, rfl, by rw [unhide HQ]; rfl⟩, unhide HB⟩
set_option maxHeartbeats 1000000 in
theorem containsC (kk : List Cn) (A : Option Addr) (c : Nat) (w : World) (hl : (kk.length : Int) ≤ 9000000000000000000) (h : Cns w w.heap.size A kk) :
    Calls Tryd.prog 28 #[.slice A kk.length c, .func (.func 25) #[] #[]] w fun e w' => e = .returned (.bool (!(kk.all rightC))) ∧ Below w.heap.size w w' := by
  have H := hide (idxC kk A c w hl h)
  clear hl h
  go_enter Tryd.func28, Tryd.ntmps28
  go_wp2_with fail
  refine (unhide H).mono ?_
  rintro e w1 ⟨⟨n, rfl, hn⟩, hb⟩
  have HB := hide hb
  have HN := hide hn
  clear hb hn
  go_wp2_with fail
  go_ret
  exact ⟨by rw [← unhide HN]; rfl, unhide HB⟩

set_option maxHeartbeats 2000000 in
theorem idxS (kk : List (List R)) (A : Option Addr) (c : Nat) (w : World) (hl : (kk.length : Int) ≤ 9000000000000000000) (h : Sts w w.heap.size A kk) :
    Calls Tryd.prog 40 #[.slice A kk.length c, .func (.func 23) #[] #[]] w fun e w' => (∃ n : Int, e = .returned (.int .i64 n) ∧ decide (0 ≤ n) = !(kk.all leastB)) ∧ Below w.heap.size w w' := by
  have HI := hide h
  have HL := hide hl
  clear h hl
  go_enter Tryd.func40, Tryd.ntmps40
  go_wp2_with fail
  go_loopw [8] (fun i wr => ∃ k : Nat, i = .int .i64 (k : Int) ∧ k ≤ kk.length ∧ (∀ j < k, ∀ i, kk[j]? = some i → leastB i = true) ∧ Below w.heap.size w wr) (fun i _ => kk.length - (intOf i).toNat)
  case atStart => exact ⟨0, rfl, Nat.zero_le _, fun j h => absurd h (by omega), Below.refl _ _⟩
  case round =>
    obtain ⟨k, rfl, hk, hno, hbe⟩ := hrel
    by_cases hlt : k < kk.length
    · obtain ⟨i, hi⟩ : ∃ i, kk[k]? = some i := ⟨kk[k], List.getElem?_eq_getElem hlt⟩
      obtain ⟨b, off, rfl, hb, hc⟩ := (unhide HI) (by omega)
      obtain ⟨A', cap', c0, hls, hcap, hsl⟩ := hc k i hi
      replace c0 := (hbe.cell (p := ⟨b, _, none⟩) hb).trans c0
      have HLS := hide (wrongsB i A' cap' wr hsl hcap ((hls.below hbe).more hbe.size))
      clear hls hsl hcap
      have H1 := hide (And.intro hno (And.intro hbe hi))
      clear hno hbe hi hc
      go_wp2_with fail
      refine (unhide HLS).mono ?_
      rintro e w1 ⟨rfl, hb1⟩
      have HB := hide ((unhide H1).2.1.trans (hb1.mono (unhide H1).2.1.size))
      clear hb1
      cases q : (leastB i)
      · have HQ := hide (all_no (unhide H1).2.2 q)
        clear q
        go_wp2_with fail
        go_ret
        exact ⟨⟨k, rfl, by rw [unhide HQ]; exact decide_eq_true (by omega)⟩, unhide HB⟩
      · have HQ := hide q
        clear q
        go_wp2_with fail
        have hw : wrap64 ((k : Int) + 1) = ((k + 1 : Nat) : Int) := by
          have h1 := unhide HL
          rw [← IntWalk.i64_left, wrap_id _ (by omega) (by omega)]; simp
        refine ⟨⟨k + 1, by rw [hw], hlt, fun j hj t ht => ?_, unhide HB⟩, by rw [hw]; simp only [intOf, Int.toNat_natCast]; omega⟩
        rcases Nat.lt_or_ge j k with h1 | h1
        · exact (unhide H1).1 j h1 t ht
        · obtain rfl : j = k := by omega
          rw [(unhide H1).2.2] at ht
          obtain rfl := Option.some.inj ht
          exact unhide HQ
    · have hkn : (kk.length : Int) ≤ (k : Int) := by omega
      have HQ := hide (all_yes (kk := kk) (p := leastB) (fun j hj => hno j (by omega)))
      have HB := hide hbe
      clear hno hbe hlt hk
      go_wp2_with fail
      go_ret
      exact ⟨⟨-1, rfl, by rw [unhide HQ]; rfl⟩, unhide HB⟩
set_option maxHeartbeats 1000000 in
theorem containsS (kk : List (List R)) (A : Option Addr) (c : Nat) (w : World) (hl : (kk.length : Int) ≤ 9000000000000000000) (h : Sts w w.heap.size A kk) :
    Calls Tryd.prog 27 #[.slice A kk.length c, .func (.func 23) #[] #[]] w fun e w' => e = .returned (.bool (!(kk.all leastB))) ∧ Below w.heap.size w w' := by
  have H := hide (idxS kk A c w hl h)
  clear hl h
  go_enter Tryd.func27, Tryd.ntmps27
  go_wp2_with fail
  refine (unhide H).mono ?_
  rintro e w1 ⟨⟨n, rfl, hn⟩, hb⟩
  have HB := hide hb
  have HN := hide hn
  clear hb hn
  go_wp2_with fail
  go_ret
  exact ⟨by rw [← unhide HN]; rfl, unhide HB⟩

def namedB (g : Int) (ss : List (List R)) (kk : List Cn) : Bool := withinB g 0 99 && decide ((kk.length : Int) ≤ 4096) && ss.all leastB && kk.all rightC
theorem box4 {w w1 : World} {v1 v2 v3 v4 : Value} (hb : Below (w.alloc (.cells #[v1, v2, v3, v4] 26)).heap.size (w.alloc (.cells #[v1, v2, v3, v4] 26)) w1) :
    w1.cell? ⟨w.heap.size, 0, none⟩ = some v1 ∧ w1.cell? ⟨w.heap.size, 1, none⟩ = some v2 ∧ w1.cell? ⟨w.heap.size, 2, none⟩ = some v3 ∧ w1.cell? ⟨w.heap.size, 3, none⟩ = some v4 := by
  have k1 := (Blk.new w 26 #[v1, v2, v3, v4]).below hb (by simp)
  exact ⟨k1.cell 0, k1.cell 1, k1.cell 2, k1.cell 3⟩
set_option maxHeartbeats 2000000 in
/-- **named**. -/
theorem named_any (ss : List (List R)) (kk : List Cn) (v1 : Value) (As Al : Option Addr) (cs cl : Nat) (g : Int) (w : World) (hs : (ss.length : Int) ≤ 9000000000000000000) (hk : (kk.length : Int) ≤ 9000000000000000000) (hS : Sts w w.heap.size As ss) (hC : Cns w w.heap.size Al kk) :
    Calls Tryd.prog 13 #[.agg #[v1, .slice As ss.length cs, .slice Al kk.length cl, .int .i64 g]] w fun e w' => e = .returned (.bool (namedB g ss kk)) ∧ Below w.heap.size w w' := by
  have b0 : Below w.heap.size w (w.alloc (.cells #[v1, .slice As ss.length cs, .slice Al kk.length cl, .int .i64 g] 26)) := below_al (Below.refl _ _) (Nat.le_refl _) _
  have HC := hide ((hC.below b0).more b0.size)
  have HS1 := hide (containsS ss As cs _ hs ((hS.below b0).more b0.size))
  have HK := hide hk
  have HB0 := hide b0
  clear hS hC b0 hs hk
  go_enter Tryd.func13, Tryd.ntmps13
  go_wp2_with fail
  refine (within_any g 0 99 _).mono ?_
  rintro e w1 ⟨rfl, rfl⟩
  cases q : withinB g 0 99
  · have Q := hide q
    clear q
    go_wp2_with fail
    go_ret
    exact ⟨by simp [namedB, unhide Q], unhide HB0⟩
  · have Q := hide q
    clear q
    have e4 : ((kk.length : Int) ≤ 4096) ∨ ¬ ((kk.length : Int) ≤ 4096) := Classical.em _
    rcases e4 with e4 | e4
    · go_wp2_with fail
      refine (unhide HS1).mono ?_
      rintro e w2 ⟨rfl, hb2⟩
      have HB2 := hide hb2
      obtain ⟨x0, x1, x2, x3⟩ := box4 hb2
      have E4 := hide e4
      clear hb2 e4
      cases q2 : ss.all leastB
      · have Q2 := hide q2
        clear q2
        go_wp2_with fail
        go_ret
        exact ⟨by simp [namedB, unhide Q, unhide Q2], (unhide HB0).trans ((unhide HB2).mono (unhide HB0).size)⟩
      · have Q2 := hide q2
        clear q2
        go_wp2_with fail
        refine (containsC kk Al cl w2 (unhide HK) (((unhide HC).below (unhide HB2)).more (unhide HB2).size)).mono ?_
        rintro e w3 ⟨rfl, hb3⟩
        have HB3 := hide ((unhide HB0).trans (((unhide HB2).trans (hb3.mono (unhide HB2).size)).mono (unhide HB0).size))
        clear hb3
        cases q3 : kk.all rightC
        all_goals
          have Q3 := hide q3
          clear q3
          go_wp2_with fail
          go_ret
          exact ⟨by simp [namedB, unhide Q, unhide Q2, unhide Q3, unhide E4], unhide HB3⟩
    · have d4 : (4096 : Int) < (kk.length : Int) := by omega
      have E4 := hide d4
      clear e4
      go_wp2_with fail
      go_ret
      exact ⟨by simp [namedB, unhide Q]; intro h; have := unhide E4; omega, unhide HB0⟩
end Go.Proofs.YtiaelaepfhiabaaDoor.Co
