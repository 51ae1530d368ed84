/-
  The program's has, kid, End, Inside, walked. Conditions: the tree lies in memory, and is laid as a tree's nodes are.
-/
import Derived.Test.YtckgbalmpddblaaDoorAsOrd
import Derived.Test.YtckgbalmpddblaaDoorAsSearch
set_option linter.unusedVariables false
set_option linter.unusedSimpArgs false
namespace Go.Proofs.YtckgbalmpddblaaDoor.As
open Go.RowKit Go.Proofs.YtckgbalmpddblaaDoor.Mem Go.Proofs.YtckgbalmpddblaaDoor.Rs

attribute [local go_sem] run_not_true run_not_false
set_option maxRecDepth 100000 in
set_option maxHeartbeats 1000000 in
/-- **has** -/
theorem has_any (A : Option Addr) (n cap : Nat) (g : Int) (c : Value) (i : Int) (w : World) :
    Calls Tryd.prog 23 #[.agg #[.slice A n cap, .int .i64 g, c], .int .i64 i] w fun e w' => e = .returned (.bool (hasI n i)) ∧ Below w.heap.size w w' := by
  unfold hasI
  by_cases h1 : 0 ≤ i
  · obtain ⟨q, hq⟩ : ∃ q, decide (i < (n : Int)) = q := ⟨_, rfl⟩
    rw [hq, decide_eq_true h1]
    have d1 : decide (0 ≤ i) = true := by simpa using h1
    clear h1
    go_enter Tryd.func23, Tryd.ntmps23
    go_wp2
    go_ret
    exact ⟨rfl, (Below.refl _ _).alloc (Nat.le_refl _) _⟩
  · rw [decide_eq_false h1]
    have d1 : decide (0 ≤ i) = false := by simpa using h1
    clear h1
    go_enter Tryd.func23, Tryd.ntmps23
    go_wp2
    go_ret
    exact ⟨by simp, (Below.refl _ _).alloc (Nat.le_refl _) _⟩

def KidPost (o : Option Int) (w : World) (e : Ending) (w' : World) : Prop := e = .returned (.tuple #[.int .i64 (o.getD 0), .bool o.isSome]) ∧ Below w.heap.size w w'
set_option maxRecDepth 100000 in
set_option maxHeartbeats 2000000 in
/-- **kid** -/
theorem kid_any (t : Tr) (v : Value) (B : Nat) (w : World) (hB : B ≤ w.heap.size) (hlen : t.nodes.length ≤ 100000) (hr : Laid t.nodes) (hT : TreeV w B t v) (a : Nat) (ha : a < t.nodes.length) (i : Int) (h0 : -1 ≤ i) (h1 : i < t.nodes.length) :
    Calls Tryd.prog 24 #[v, .int .i64 a, .int .i64 i] w (KidPost (kidO t.nodes a i) w) := by
  obtain ⟨av, c, rfl, ⟨A, cap, rfl, hc1, hc2, hn⟩, hns⟩ := hT
  obtain ⟨b, off, rfl, hbb, hcs⟩ := hn (by omega)
  obtain ⟨nd, hnd⟩ : ∃ nd, t.nodes[a]? = some nd := ⟨_, List.getElem?_eq_getElem ha⟩
  obtain ⟨-, -, -, -, -, -, -, -, -, v9, h9, A9, cap9, rfl, h91, h92, h9k⟩ := hcs a nd hnd
  obtain ⟨hrise, hgt, hkl⟩ := hr.rise hnd
  have up : ({ w with } : World).cell? ⟨b, off + a * 10 + 9, none⟩ = some (.slice A9 nd.kids.length cap9) := h9
  have d9 : (w.alloc (.cells #[.slice (some ⟨b, off, none⟩) t.nodes.length cap, .int .i64 t.groups, c] 25)).cell? ⟨b, off + a * 10 + 9, none⟩ = some (.slice A9 nd.kids.length cap9) :=
    (((Below.refl w.heap.size w).alloc (Nat.le_refl _) _).cell (p := ⟨b, off + a * 10 + 9, none⟩) (by show b < w.heap.size; omega)).trans h9
  have hk9 : Reads (w.alloc (.cells #[.slice (some ⟨b, off, none⟩) t.nodes.length cap, .int .i64 t.groups, c] 25)) B 1 A9 nd.kids.length (nd.kids.map Mem.i64) := h9k.keep fun p hp => ((Below.refl w.heap.size w).alloc (Nat.le_refl _) _).cell (by omega)
  have hai : (a : Int) < (t.nodes.length : Int) := by omega
  have HK9 := hide hk9
  have HS := hide (search_any nd.kids hrise (by omega) A9 cap9 B (w.alloc (.cells #[.slice (some ⟨b, off, none⟩) t.nodes.length cap, .int .i64 t.groups, c] 25)) h91 hk9 (i + 1))
  have HBW := hide ((Below.refl w.heap.size w).alloc (Nat.le_refl _) (.cells #[.slice (some ⟨b, off, none⟩) t.nodes.length cap, .int .i64 t.groups, c] 25))
  have HT := hide (fun (p : Nat) h1 h2 => kidO_take (i := i) hnd (p := p) h1 h2)
  have HGT := hide hgt
  clear hk9 hgt hrise hnd h9k h9 up hcs hn hns hr
  go_enter Tryd.func24, Tryd.ntmps24
  go_wp2_with fail
  refine (unhide HS).mono ?_
  rintro e w1 ⟨p, q, rfl, hp, hp1, hp2, rfl⟩
  have hO := (unhide HT) p hp1 hp2
  clear HS
  rcases Nat.eq_zero_or_pos p with rfl | hpos
  · have HO := hide (show kidO t.nodes a i = none from hO.trans (by simp))
    clear hO hp1 hp2
    go_wp2_with fail
    go_ret2
    exact ⟨by rw [unhide HO]; rfl, unhide HBW⟩
  · obtain ⟨m, rfl⟩ : ∃ m, p = m + 1 := ⟨p - 1, by omega⟩
    obtain ⟨y, hy⟩ : ∃ y, nd.kids[m]? = some y := ⟨_, List.getElem?_eq_getElem (by omega)⟩
    obtain ⟨kb, koff, rfl, hkb, hkc⟩ := kids_at (unhide HK9) (by omega)
    have d0 := hkc m y hy
    rw [last_take hpos hy] at hO
    have HO := hide hO
    have hm0 : ((m + 1 : Nat) : Int) = (m : Int) + 1 := by omega
    have hml : (m : Int) < (nd.kids.length : Int) := by omega
    have g1 : decide (y ≤ (a : Int)) = false := by have := (unhide HGT) y (List.mem_of_getElem? hy); simpa using this
    have g2 : decide (i < y) = false := by have := hp1 m y (by omega) hy; simp; omega
    have hmz : ((m : Int) + 1 == 0) = false := by simp; omega
    clear hO hp1 hp2 hkc hy
    rw [hm0]
    go_wp2_with fail
    go_ret2
    exact ⟨by rw [unhide HO]; rfl, unhide HBW⟩

/-- a tree's value, spelled -/
def tv (A : Option Addr) (n cap : Nat) (g : Int) (c : Value) : Array Value := #[.slice A n cap, .int .i64 g, c]
def EndRel (L : List Nd) (B : Nat) (W : World) (i0 : Nat) (i : Value) (wr : World) : Prop := ∃ a : Nat, i = .int .i64 a ∧ a < L.length ∧ E L a = E L i0 ∧ Below W.heap.size W wr
set_option maxRecDepth 100000 in
set_option maxHeartbeats 2000000 in
/-- **End**, of a node that is there -/
theorem end_in (t : Tr) (v : Value) (B : Nat) (w : World) (hB : B ≤ w.heap.size) (hlen : t.nodes.length ≤ 100000) (hr : Laid t.nodes) (hT : TreeV w B t v) (i : Nat) (hi : i < t.nodes.length) :
    Calls Tryd.prog 9 #[v, .int .i64 i] w fun e w' => e = .returned (.int .i64 (E t.nodes i)) ∧ Below w.heap.size w w' := by
  have HT := hide hT
  obtain ⟨av, c, rfl, ⟨A, cap, rfl, hc1, hc2, hn⟩, hns⟩ := hT
  have hih : hasI t.nodes.length i = true := by unfold hasI; simp; omega
  have HR := hide hr
  have hlast := hide (fun (a : Nat) (ha : a < t.nodes.length) => hr.lastKid ha)
  have b0 := Blk.new w 25 #[.slice A t.nodes.length cap, .int .i64 t.groups, c]
  have c0 := b0.cell 0
  have c1 := b0.cell 1
  have c2 := b0.cell 2
  have HB0 := hide b0
  have HBW := hide ((Below.refl w.heap.size w).alloc (Nat.le_refl _) (.cells #[.slice A t.nodes.length cap, .int .i64 t.groups, c] 25))
  clear hn hns hr b0
  go_enter Tryd.func9, Tryd.ntmps9
  go_wp2_with fail
  refine (has_any A t.nodes.length cap t.groups c i _).mono ?_
  rintro e w1 ⟨rfl, hb1⟩
  rw [hih]
  have HB1 := hide hb1
  clear hb1 hih c0 c1 c2
  go_wp2_with fail
  go_loopw [1] (fun i' wr => EndRel t.nodes B (w.alloc (.cells #[.slice A t.nodes.length cap, .int .i64 t.groups, c] 25)) i i' wr) (fun i' _ => t.nodes.length - (intOf i').toNat)
  case atStart => exact ⟨i, rfl, hi, rfl, unhide HB1⟩
  case round =>
    obtain ⟨a, rfl, ha, hE, hb⟩ := hrel
    go_hideQ
    have HE := hide hE
    have HBR := hide hb
    have b0 := (unhide HB0).below hb (by simp)
    have c0 := b0.cell 0
    have c1 := b0.cell 1
    have c2 := b0.cell 2
    have hbw := (unhide HBW).trans (hb.mono (by simp))
    have hlm : ((t.nodes.length : Int) - 1) < t.nodes.length := by omega
    have C := hide (kid_any t (.agg #[.slice A t.nodes.length cap, .int .i64 t.groups, c]) B wr (Nat.le_trans hB hbw.size) hlen (unhide HR) ((unhide HT).keep fun p hp => hbw.cell (by omega)) a ha ((t.nodes.length : Int) - 1) (by omega) (by omega))
    have HBR2 := hide hbw
    clear hb b0 hE hbw
    rcases (unhide hlast) a ha with ⟨k1, k2⟩ | ⟨k, k1, k2, k3, k4⟩
    · rw [k1] at C
      have K2 := hide k2
      clear k1 k2
      go_wp2_with fail
      refine (unhide C).mono ?_
      rintro e w2 ⟨rfl, hb2⟩
      have HB2 := hide ((unhide HBR2).trans (hb2.mono (unhide HBR2).size))
      clear C hb2
      go_wp2_with fail
      go_ret
      exact ⟨by rw [← unhide HE, unhide K2]; rfl, unhide HB2⟩
    · rw [k1] at C
      have K4 := hide k4
      clear k1 k4
      go_wp2_with fail
      refine (unhide C).mono ?_
      rintro e w2 ⟨rfl, hb2⟩
      have hR : EndRel t.nodes B (w.alloc (.cells #[.slice A t.nodes.length cap, .int .i64 t.groups, c] 25)) i (.int .i64 (k : Int)) w2 := ⟨k, rfl, k3, (unhide K4).trans (unhide HE), (unhide HBR).trans (hb2.mono (unhide HBR).size)⟩
      have HRR := hide hR
      clear C hb2 hR
      go_wp2_with fail
      have hR := unhide HRR
      go_roundw
      case rel => exact hR
      case measure => simp [intOf]; omega

set_option maxHeartbeats 1000000 in
/-- **End**, of what isn't there -/
theorem end_out (A : Option Addr) (n cap : Nat) (g : Int) (c : Value) (i : Int) (w : World) (h : hasI n i = false) :
    Calls Tryd.prog 9 #[.agg #[.slice A n cap, .int .i64 g, c], .int .i64 i] w fun e w' => e = .returned (.int .i64 0) ∧ Below w.heap.size w w' := by
  have b0 := Blk.new w 25 #[.slice A n cap, .int .i64 g, c]
  have c0 := b0.cell 0
  have c1 := b0.cell 1
  have c2 := b0.cell 2
  have HBW := hide ((Below.refl w.heap.size w).alloc (Nat.le_refl _) (.cells #[.slice A n cap, .int .i64 g, c] 25))
  clear b0
  go_enter Tryd.func9, Tryd.ntmps9
  go_wp2_with fail
  refine (has_any A n cap g c i _).mono ?_
  rintro e w1 ⟨rfl, hb1⟩
  rw [h]
  have HB1 := hide ((unhide HBW).trans (hb1.mono (unhide HBW).size))
  clear hb1 c0 c1 c2
  go_wp2_with fail
  go_ret
  exact ⟨rfl, unhide HB1⟩
theorem hasI_iff (n : Nat) (i : Int) : hasI n i = true ↔ 0 ≤ i ∧ i < n := by unfold hasI; simp
/-- **End** -/
theorem pend_any (t : Tr) (v : Value) (B : Nat) (w : World) (hB : B ≤ w.heap.size) (hf : Fit t) (hr : Laid t.nodes) (hT : TreeV w B t v) (i : Int) (hi : in64 i) :
    Calls Tryd.prog 9 #[v, .int .i64 i] w fun e w' => e = .returned (.int .i64 (endI t.nodes i)) ∧ Below w.heap.size w w' := by
  by_cases h : 0 ≤ i ∧ i < t.nodes.length
  · obtain ⟨k, rfl⟩ : ∃ k : Nat, i = k := ⟨i.toNat, by omega⟩
    rw [endI_in (by omega)]
    exact end_in t v B w hB hf.1 hr hT k (by omega)
  · rw [endI_out (by omega)]
    obtain ⟨av, c, rfl, ⟨A, cap, rfl, -⟩, -⟩ := hT
    exact end_out A _ cap _ c i w (by rw [Bool.eq_false_iff, ne_eq, hasI_iff]; exact h)

set_option maxRecDepth 100000 in
set_option maxHeartbeats 2000000 in
/-- **Inside** -/
theorem pin_any (t : Tr) (v : Value) (B : Nat) (w : World) (hB : B ≤ w.heap.size) (hf : Fit t) (hr : Laid t.nodes) (hT : TreeV w B t v) (i j : Int) (hi : in64 i) (hj : in64 j) :
    Calls Tryd.prog 11 #[v, .int .i64 i, .int .i64 j] w fun e w' => e = .returned (.bool (insideI t.nodes i j)) ∧ Below w.heap.size w w' := by
  have HT := hide hT
  obtain ⟨av, c, rfl, ⟨A, cap, rfl, hc1, hc2, hn⟩, hns⟩ := hT
  have b0 := Blk.new w 25 #[.slice A t.nodes.length cap, .int .i64 t.groups, c]
  have c0 := b0.cell 0
  have c1 := b0.cell 1
  have c2 := b0.cell 2
  have HB0 := hide b0
  have HBW := hide ((Below.refl w.heap.size w).alloc (Nat.le_refl _) (.cells #[.slice A t.nodes.length cap, .int .i64 t.groups, c] 25))
  have HR := hide hr
  have hle := hide (fun (k : Nat) => hr.le k)
  clear hn hns hr b0
  by_cases hh : 0 ≤ j ∧ j < t.nodes.length
  · have hih : hasI t.nodes.length j = true := (hasI_iff _ _).2 hh
    obtain ⟨k, rfl⟩ : ∃ k : Nat, j = k := ⟨j.toNat, by omega⟩
    have hk : k < t.nodes.length := by omega
    clear hh
    by_cases hji : (k : Int) ≤ i
    · have hd1 : decide ((k : Int) ≤ i) = true := by simpa using hji
      have hspec : insideI t.nodes i k = decide (i < E t.nodes k) := by
        have := (unhide hle) k
        unfold insideI
        rw [Bool.eq_iff_iff]
        simp
        omega
      obtain ⟨q, hq⟩ : ∃ q, decide (i < E t.nodes k) = q := ⟨_, rfl⟩
      rw [hspec, hq]
      clear hji hspec
      go_enter Tryd.func11, Tryd.ntmps11
      go_wp2_with fail
      refine (has_any A t.nodes.length cap t.groups c k _).mono ?_
      rintro e w1 ⟨rfl, hb1⟩
      rw [hih]
      have b0 := (unhide HB0).below hb1 (by simp)
      have c0 := b0.cell 0
      have c1 := b0.cell 1
      have c2 := b0.cell 2
      have hbw := (unhide HBW).trans (hb1.mono (by simp))
      have C := hide (end_in t (.agg #[.slice A t.nodes.length cap, .int .i64 t.groups, c]) B w1 (Nat.le_trans hB hbw.size) hf.1 (unhide HR) ((unhide HT).keep fun p hp => hbw.cell (by omega)) k hk)
      have HBR := hide hbw
      clear hb1 b0 hbw hih
      go_wp2_with fail
      refine (unhide C).mono ?_
      rintro e w2 ⟨rfl, hb2⟩
      have HB2 := hide ((unhide HBR).trans (hb2.mono (unhide HBR).size))
      clear C hb2
      go_wp2_with fail
      go_ret
      exact ⟨by simp [hq], unhide HB2⟩
    · have hd1 : decide ((k : Int) ≤ i) = false := by simpa using hji
      rw [insideI_out (.inr (.inl (by omega)))]
      clear hji
      go_enter Tryd.func11, Tryd.ntmps11
      go_wp2_with fail
      refine (has_any A t.nodes.length cap t.groups c k _).mono ?_
      rintro e w1 ⟨rfl, hb1⟩
      rw [hih]
      have HB2 := hide ((unhide HBW).trans (hb1.mono (by simp)))
      clear hb1 hih
      go_wp2_with fail
      go_ret
      exact ⟨rfl, unhide HB2⟩
  · have hih : hasI t.nodes.length j = false := by rw [Bool.eq_false_iff, ne_eq, hasI_iff]; exact hh
    rw [show insideI t.nodes i j = false from by
      rcases Int.lt_or_le j 0 with h | h
      · exact insideI_out (.inl h)
      · rcases Int.lt_or_le i j with h2 | h2
        · exact insideI_out (.inr (.inl h2))
        · exact insideI_out (.inr (.inr (by omega)))]
    clear hh
    go_enter Tryd.func11, Tryd.ntmps11
    go_wp2_with fail
    refine (has_any A t.nodes.length cap t.groups c j _).mono ?_
    rintro e w1 ⟨rfl, hb1⟩
    rw [hih]
    have HB2 := hide ((unhide HBW).trans (hb1.mono (by simp)))
    clear hb1 hih
    go_wp2_with fail
    go_ret
    exact ⟨rfl, unhide HB2⟩
end Go.Proofs.YtckgbalmpddblaaDoor.As
