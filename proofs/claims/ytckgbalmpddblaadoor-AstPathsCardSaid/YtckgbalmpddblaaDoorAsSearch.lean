/-
  slices.BinarySearch over ints that rise, walked: how many are less than a number. No conditions.
-/
import Derived.Test.YtckgbalmpddblaaDoorAsMem
import Derived.WalkHide
import Derived.Test.YtckgbalmpddblaaDoorRsCut
set_option linter.unusedVariables false
set_option linter.unusedSimpArgs false
namespace Go.Proofs.YtckgbalmpddblaaDoor.As
open Go.RowKit Go.Proofs.YtckgbalmpddblaaDoor.Mem Go.Proofs.YtckgbalmpddblaaDoor.Rs

theorem cmpNaN (x : Int) (w : World) : Calls Tryd.prog 44 #[.int .i64 x] w fun e w' => e = .returned (.bool false) ∧ w = w' := by
  have h : (x != x) = false := by simp
  go_enter Tryd.func44, Tryd.ntmps44
  go_wp2
  go_ret
  exact ⟨rfl, rfl⟩
theorem slNaN (x : Int) (w : World) : Calls Tryd.prog 42 #[.int .i64 x] w fun e w' => e = .returned (.bool false) ∧ w = w' := by
  have h : (x != x) = false := by simp
  go_enter Tryd.func42, Tryd.ntmps42
  go_wp2
  go_ret
  exact ⟨rfl, rfl⟩
theorem less_any (x y : Int) (w : World) : Calls Tryd.prog 41 #[.int .i64 x, .int .i64 y] w fun e w' => e = .returned (.bool (decide (x < y))) ∧ w = w' := by
  obtain ⟨q, hq⟩ : ∃ q, decide (x < y) = q := ⟨_, rfl⟩
  go_enter Tryd.func41, Tryd.ntmps41
  go_wp2_with fail
  refine (cmpNaN x w).mono ?_
  rintro e w1 ⟨rfl, rfl⟩
  go_wp2
  go_ret
  exact ⟨by rw [hq]; rfl, rfl⟩

/-- a list of ints lies flat -/
theorem kids_at {w : World} {B : Nat} {A : Option Addr} {ks : List Int} (h : Reads w B 1 A ks.length (ks.map Mem.i64)) (hn : 0 < ks.length) : ∃ b off, A = some ⟨b, off, none⟩ ∧ b < B ∧ ∀ (k : Nat) (y : Int), ks[k]? = some y → w.cell? ⟨b, off + k, none⟩ = some (.int .i64 y) := by
  obtain ⟨ad, rfl, hb, hc⟩ := h.2 hn
  have h0 := hc 0 _ (by rw [List.getElem?_map, List.getElem?_eq_getElem hn]; rfl)
  obtain ⟨b, off, sp⟩ := ad
  have es : sp = none := cell_spot (by simpa [Addr.add] using h0)
  subst es
  refine ⟨b, off, rfl, hb, fun k y hk => ?_⟩
  have := hc k (.int .i64 y) (by rw [List.getElem?_map, hk]; rfl)
  rwa [add_flat] at this
/-- how many are less -/
def Found (ks : List Int) (x : Int) (w : World) (e : Ending) (w' : World) : Prop := ∃ (p : Nat) (q : Bool), e = .returned (.tuple #[.int .i64 p, .bool q]) ∧ p ≤ ks.length ∧ (∀ (t : Nat) y, t < p → ks[t]? = some y → y < x) ∧ (∀ (t : Nat) y, p ≤ t → ks[t]? = some y → x ≤ y) ∧ w = w'
/-- the search's state: all ahead of a are less, all from b on aren't -/
def SRel (ks : List Int) (x : Int) (W : World) (i j : Value) (wr : World) : Prop := ∃ a b : Nat, i = .int .i64 a ∧ j = .int .i64 b ∧ a ≤ b ∧ b ≤ ks.length ∧ (∀ (t : Nat) y, t < a → ks[t]? = some y → y < x) ∧ (∀ (t : Nat) y, b ≤ t → ks[t]? = some y → x ≤ y) ∧ wr = W
theorem sorted_at {ks : List Int} (hs : ks.Pairwise (· < ·)) {a b : Nat} {y z : Int} (hab : a ≤ b) (ha : ks[a]? = some y) (hb : ks[b]? = some z) : y ≤ z := by
  obtain ⟨h1, rfl⟩ := List.getElem?_eq_some_iff.1 ha
  obtain ⟨h2, rfl⟩ := List.getElem?_eq_some_iff.1 hb
  rcases Nat.lt_or_ge a b with h | h
  · exact Int.le_of_lt (List.pairwise_iff_getElem.1 hs a b h1 h2 h)
  · obtain rfl : a = b := by omega
    exact Int.le_refl _

set_option maxRecDepth 100000 in
set_option maxHeartbeats 2000000 in
/-- **BinarySearch** -/
theorem search_any (ks : List Int) (hs : ks.Pairwise (· < ·)) (hl : ks.length ≤ 100000000) (A : Option Addr) (cap : Nat) (B : Nat) (w : World) (hcap : ks.length ≤ cap) (hk : Reads w B 1 A ks.length (ks.map Mem.i64)) (x : Int) :
    Calls Tryd.prog 35 #[.slice A ks.length cap, .int .i64 x] w (Found ks x w) := by
  have HS := hide hs
  have HK := hide hk
  clear hs hk
  go_enter Tryd.func35, Tryd.ntmps35
  go_wp2_with fail
  go_loopw [7, 8] (fun i j wr => SRel ks x w i j wr) (fun i j _ => (intOf j).toNat - (intOf i).toNat)
  case atStart => exact ⟨0, ks.length, rfl, rfl, by omega, Nat.le_refl _, fun t y h => absurd h (by omega), fun t y h hy => absurd (List.getElem?_eq_some_iff.1 hy).1 (by omega), rfl⟩
  case round =>
    obtain ⟨a, b, rfl, rfl, hab, hb, h1, h2, rfl⟩ := hrel
    go_hideQ
    have H1 := hide h1
    have H2 := hide h2
    clear h1 h2
    by_cases hlt : a < b
    · have hlt' : (a : Int) < (b : Int) := by omega
      obtain ⟨h, hh⟩ : ∃ h : Nat, (a + b) / 2 = h := ⟨_, rfl⟩
      have hah : a ≤ h := by omega
      have hhb : h < b := by omega
      have hhl : h < ks.length := by omega
      have hhi : (h : Int) < (ks.length : Int) := by omega
      obtain ⟨kb, off, rfl, hbb, hc⟩ := kids_at (unhide HK) (by omega)
      obtain ⟨y, hy⟩ : ∃ y, ks[h]? = some y := ⟨_, List.getElem?_eq_getElem hhl⟩
      have d0 := hc h y hy
      have e4 : ((a : Int) + (b : Int)) / 2 = (h : Int) := by omega
      have HY := hide hy
      clear hc hy
      go_wp2_with fail
      refine (less_any y x _).mono ?_
      rintro e w1 ⟨rfl, rfl⟩
      by_cases hd : y < x
      · rw [decide_eq_true hd]
        have HD := hide hd
        clear hd
        go_wp2_with fail
        have hR : SRel ks x wr (.int .i64 ((h : Int) + 1)) (.int .i64 (b : Int)) wr := by
          refine ⟨h + 1, b, by go_num, rfl, by omega, hb, fun t z ht hz => ?_, unhide H2, rfl⟩
          have := sorted_at (unhide HS) (show t ≤ h by omega) hz (unhide HY)
          have := unhide HD
          omega
        exact ⟨⟨_, _, _, _, _, _, _, _, _, _, _, _, _, _, _, _, _, _, _, _, _, hR, rfl⟩, by simp [intOf]; omega⟩
      · rw [decide_eq_false hd]
        have HD := hide hd
        clear hd
        go_wp2_with fail
        have hR : SRel ks x wr (.int .i64 (a : Int)) (.int .i64 (h : Int)) wr := by
          refine ⟨a, h, rfl, rfl, hah, by omega, unhide H1, fun t z ht hz => ?_, rfl⟩
          have := sorted_at (unhide HS) ht (unhide HY) hz
          have := unhide HD
          omega
        exact ⟨⟨_, _, _, _, _, _, _, _, _, _, _, _, _, _, _, _, _, _, _, _, _, hR, rfl⟩, by simp [intOf]; omega⟩
    · obtain rfl : a = b := by omega
      have hni : ¬ (a : Int) < (a : Int) := by omega
      by_cases hl : a < ks.length
      · have hli : (a : Int) < (ks.length : Int) := by omega
        obtain ⟨kb, off, rfl, hbb, hc⟩ := kids_at (unhide HK) (by omega)
        obtain ⟨y, hy⟩ : ∃ y, ks[a]? = some y := ⟨_, List.getElem?_eq_getElem hl⟩
        have d0 := hc a y hy
        clear hc hy
        by_cases he : y = x
        · have d1 : (y == x) = true := by simp [he]
          clear he
          go_wp2_with fail
          go_ret2
          exact ⟨a, true, rfl, hb, unhide H1, unhide H2, rfl⟩
        · have d1 : (y == x) = false := by simp [he]
          clear he
          go_wp2_with fail
          refine (slNaN y _).mono ?_
          rintro e w1 ⟨rfl, rfl⟩
          go_wp2_with fail
          go_ret2
          exact ⟨a, false, rfl, hb, unhide H1, unhide H2, rfl⟩
      · have hli : decide ((a : Int) < (ks.length : Int)) = false := by simp; omega
        go_wp2_with fail
        go_ret2
        exact ⟨a, false, rfl, hb, unhide H1, unhide H2, rfl⟩
end Go.Proofs.YtckgbalmpddblaaDoor.As
