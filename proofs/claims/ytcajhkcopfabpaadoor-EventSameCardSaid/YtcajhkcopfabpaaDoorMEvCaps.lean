/-
  The library's ContainsFunc (at 'wrong'), Equal, Clone at []int, walked.
-/
import Derived.Test.YtcajhkcopfabpaaDoorMEvSmall
import Derived.Lib.Walk
import Derived.WalkHide
import Derived.WalkSpells
set_option linter.unusedSimpArgs false
set_option linter.unusedVariables false
namespace Go.Proofs.YtcajhkcopfabpaaDoor.Ev
open Go.RowKit Go.Proofs.YtcajhkcopfabpaaDoor.Mem
def IRel (l : List Int) (w : World) (i : Value) (wr : World) : Prop := ∃ k : Nat, i = .int .i64 k ∧ k ≤ l.length ∧ (∀ j x, j < k → l[j]? = some x → wrongB x = false) ∧ wr = w
theorem any_at {l : List Int} {k : Nat} {x : Int} (h : l[k]? = some x) (hx : wrongB x = true) : l.any wrongB = true := List.any_eq_true.2 ⟨x, List.mem_of_getElem? h, hx⟩
theorem any_none {l : List Int} (h : ∀ j x, j < l.length → l[j]? = some x → wrongB x = false) : l.any wrongB = false := by
  rw [List.any_eq_false]
  intro x hx
  obtain ⟨j, hj, e⟩ := List.getElem_of_mem hx
  rw [h j x hj (by rw [List.getElem?_eq_getElem hj, e])]
  simp
set_option maxHeartbeats 1000000 in
theorem index_any (l : List Int) (A : Option Addr) (cap : Nat) (w : World) (hC : CV l A cap w) :
    Calls Tryd.prog 22 #[.slice A l.length cap, .func (.func 16) #[] #[]] w fun e w' => (∃ r : Int, e = .returned (.int .i64 r) ∧ decide (0 ≤ r) = l.any wrongB) ∧ w' = w := by
  have HC := hide hC
  have hroom := hC.room
  have htop := hC.top
  obtain ⟨n, hn⟩ : ∃ n, l.length = n := ⟨_, rfl⟩
  rw [hn] at hroom ⊢
  have HN := hide hn
  clear hC hn
  go_enter Tryd.func22, Tryd.ntmps22
  go_wp2
  go_loopw [8] (fun i wr => IRel l w i wr) (fun i _ => n - (intOf i).toNat)
  case atStart => exact ⟨0, rfl, by omega, fun j x hj => absurd hj (by omega), rfl⟩
  case round =>
    obtain ⟨k, rfl, hk, hok, rfl⟩ := hrel
    go_hideQ
    rw [unhide HN] at hk
    have HOK := hide hok
    clear hok
    by_cases hlt : k < n
    · obtain ⟨x, hx⟩ : ∃ x, l[k]? = some x := ⟨_, List.getElem?_eq_getElem (by rw [unhide HN]; exact hlt)⟩
      obtain ⟨b, off, rfl, hb, hc⟩ := (unhide HC).reads.flat (by rw [unhide HN]; omega)
      have d1 : wr.cell? ⟨b, off + k, none⟩ = some (.int .i64 x) := hc k _ (by rw [List.getElem?_map, hx]; rfl)
      have C := hide (wrong_any x wr)
      have HX := hide hx
      have hki : (k : Int) < (n : Int) := by omega
      clear hx hc hb
      cases hq : wrongB x with
      | true =>
        rw [hq] at C
        have HR := hide (any_at (unhide HX) hq)
        clear hq
        go_wp2_with fail
        refine (unhide C).mono ?_
        rintro e w1 ⟨rfl, rfl⟩
        clear C
        go_wp2
        go_ret
        exact ⟨⟨_, rfl, by rw [unhide HR]; simp⟩, rfl⟩
      | false =>
        rw [hq] at C
        have HQ := hide hq
        clear hq
        go_wp2_with fail
        refine (unhide C).mono ?_
        rintro e w1 ⟨rfl, rfl⟩
        clear C
        go_wp2_with fail
        have hR : IRel l w1 (.int .i64 ((k : Int) + 1)) w1 := ⟨k + 1, by go_num, by rw [unhide HN]; omega, fun j y hj hy => by
          rcases Nat.lt_or_ge j k with h | h
          · exact (unhide HOK) j y h hy
          · obtain rfl : j = k := by omega
            have := (unhide HX).symm.trans hy
            cases this
            exact unhide HQ, rfl⟩
        have hme : n - (intOf (.int .i64 ((k : Int) + 1))).toNat < n - k := by simp [intOf]; omega
        first | exact ⟨hR, hme⟩ | exact ⟨⟨_, _, _, hR, rfl, rfl, rfl⟩, hme⟩ | (go_roundw; exact hR; exact hme)
    · obtain rfl : k = n := by omega
      have HR := hide (any_none (l := l) (fun j x hj => (unhide HOK) j x (by rw [unhide HN] at hj; exact hj)))
      go_wp2
      go_ret
      exact ⟨⟨_, rfl, by rw [unhide HR]; simp⟩, rfl⟩
set_option maxHeartbeats 1000000 in
theorem contains_any (l : List Int) (A : Option Addr) (cap : Nat) (w : World) (hC : CV l A cap w) :
    Calls Tryd.prog 18 #[.slice A l.length cap, .func (.func 16) #[] #[]] w fun e w' => e = .returned (.bool (l.any wrongB)) ∧ w' = w := by
  have C := hide (index_any l A cap w hC)
  clear hC
  go_enter Tryd.func18, Tryd.ntmps18
  go_wp2_with fail
  refine (unhide C).mono ?_
  rintro e w1 ⟨⟨r, rfl, hr⟩, rfl⟩
  have HR := hide hr
  clear hr C
  go_wp2
  go_ret
  exact ⟨ret_b (unhide HR), rfl⟩
def QRel (l m : List Int) (w : World) (i : Value) (wr : World) : Prop := ∃ k : Nat, i = .int .i64 k ∧ k ≤ l.length ∧ l.take k = m.take k ∧ Below w.heap.size w wr
theorem take_step {l m : List Int} {k : Nat} {x : Int} (h : l.take k = m.take k) (hx : l[k]? = some x) (hy : m[k]? = some x) : l.take (k + 1) = m.take (k + 1) := by
  rw [List.take_add_one, List.take_add_one, h, hx, hy]
theorem ne_at {l m : List Int} {k : Nat} {x y : Int} (hx : l[k]? = some x) (hy : m[k]? = some y) (h : x ≠ y) : decide (l = m) = false := by
  rw [decide_eq_false_iff_not]
  rintro rfl
  rw [hx] at hy
  cases hy
  exact h rfl
set_option maxHeartbeats 2000000 in
theorem equal_any (l m : List Int) (A B : Option Addr) (ca cb : Nat) (w : World) (hA : CV l A ca w) (hB : CV m B cb w) :
    Calls Tryd.prog 20 #[.slice A l.length ca, .slice B m.length cb] w fun e w' => e = .returned (.bool (decide (l = m))) ∧ Below w.heap.size w w' := by
  have r1 := hA.room
  have r2 := hA.top
  have r3 := hB.room
  have r4 := hB.top
  by_cases hl : l.length = m.length
  · have HA := hide hA
    have HB := hide hB
    rw [← hl] at r3 ⊢
    have HL := hide hl
    obtain ⟨n, hn⟩ : ∃ n, l.length = n := ⟨_, rfl⟩
    rw [hn] at r1 r3 ⊢
    have HN := hide hn
    clear hA hB hl hn
    go_enter Tryd.func20, Tryd.ntmps20
    go_wp2
    go_loopw [13] (fun i wr => QRel l m w i wr) (fun i _ => n - (intOf i).toNat)
    case atStart => exact ⟨0, rfl, by omega, by simp, Below.refl _ _⟩
    case round =>
      obtain ⟨k, rfl, hk, hok, hb⟩ := hrel
      go_hideQ
      rw [unhide HN] at hk
      have HOK := hide hok
      have HBL := hide hb
      clear hok hb
      by_cases hlt : k < n
      · obtain ⟨x, hx⟩ : ∃ x, l[k]? = some x := ⟨_, List.getElem?_eq_getElem (by rw [unhide HN]; exact hlt)⟩
        obtain ⟨y, hy⟩ : ∃ y, m[k]? = some y := ⟨_, List.getElem?_eq_getElem (by rw [← unhide HL, unhide HN]; exact hlt)⟩
        obtain ⟨b1, o1, rfl, hb1, hc1⟩ := (unhide HA).reads.flat (by rw [unhide HN]; omega)
        obtain ⟨b2, o2, rfl, hb2, hc2⟩ := (unhide HB).reads.flat (by rw [← unhide HL, unhide HN]; omega)
        have d1 : wr.cell? ⟨b1, o1 + k, none⟩ = some (.int .i64 x) := ((unhide HBL).cell (p := ⟨b1, o1 + k, none⟩) hb1).trans (hc1 k _ (by rw [List.getElem?_map, hx]; rfl))
        have d2 : wr.cell? ⟨b2, o2 + k, none⟩ = some (.int .i64 y) := ((unhide HBL).cell (p := ⟨b2, o2 + k, none⟩) hb2).trans (hc2 k _ (by rw [List.getElem?_map, hy]; rfl))
        have hki : (k : Int) < (n : Int) := by omega
        have HX := hide hx
        have HY := hide hy
        clear hx hy hc1 hc2 hb1 hb2
        by_cases hxy : x = y
        · subst hxy
          have hR0 := take_step (unhide HOK) (unhide HX) (unhide HY)
          have HR0 := hide hR0
          clear hR0
          go_wp2_with fail
          go_quiet (fail)
          go_wp2_with fail
          have hR : QRel l m w (.int .i64 ((k : Int) + 1)) (wr.drewN nq) := ⟨k + 1, by go_num, by rw [unhide HN]; omega, unhide HR0, below_drewN (unhide HBL) _⟩
          have hme : n - (intOf (.int .i64 ((k : Int) + 1))).toNat < n - k := by simp [intOf]; omega
          first | exact ⟨hR, hme⟩ | exact ⟨⟨_, _, _, hR, rfl, rfl, rfl⟩, hme⟩ | (go_roundw; exact hR; exact hme)
        · have HR := hide (ne_at (unhide HX) (unhide HY) hxy)
          have e0 : (x != y) = true := by simp [hxy]
          clear hxy
          go_wp2_with fail
          go_quiet (fail)
          go_wp2
          go_ret
          exact ⟨ret_b (unhide HR).symm, below_drewN (unhide HBL) _⟩
      · obtain rfl : k = n := by omega
        have HR := hide (show decide (l = m) = true by
          rw [decide_eq_true_eq]
          have h := unhide HOK
          have h1 := unhide HN
          have h2 := unhide HL
          rwa [List.take_of_length_le (by omega), List.take_of_length_le (by omega)] at h)
        go_wp2
        go_ret
        exact ⟨ret_b (unhide HR).symm, unhide HBL⟩
  · have HR := hide (show decide (l = m) = false by rw [decide_eq_false_iff_not]; rintro rfl; exact hl rfl)
    have e0 : ((l.length : Int) != (m.length : Int)) = true := by simp; omega
    clear hA hB
    generalize l.length = n at *
    generalize m.length = k at *
    clear hl
    go_enter Tryd.func20, Tryd.ntmps20
    go_wp2
    go_ret
    exact ⟨ret_b (unhide HR).symm, Below.refl _ _⟩
theorem info_int : (Tryd.prog.info? 3).map (fun i => (i.zero, i.size, i.bytes)) = some (some (.int .i64 0), 1, 8) := by kernel_rfl
theorem one_i64 (l : List Int) : ∀ u ∈ l.map Mem.i64, u.oneCell' = true := by
  intro u hu
  obtain ⟨x, _, rfl⟩ := List.mem_map.1 hu
  rfl
theorem own_empty (w : World) (e : TypeId) : (w.alloc (.cells #[] e)).ownsRow w.heap.size e 1 (.slice (some ⟨w.heap.size, 0, none⟩) 0 0) 0 [] := by
  have h := World.ownsRow_lit (base := w.heap.size) (e := e) (size := 1) w #[] 0 (Nat.le_refl _) (by unfold maxLen; omega) (by simp)
  simpa using h
theorem own_base {W : World} {base e size n : Nat} {v : Value} {xs : List Value} (h : W.ownsRow base e size v n xs) : ∀ k, v.ownBlock = some k → base ≤ k := by
  intro k hk
  rcases h.2 with ⟨rfl, _⟩ | ⟨g, cap, cur, rfl, hb, _, _⟩
  · simp [Value.ownBlock] at hk
  · obtain rfl : g = k := by simpa [Value.ownBlock] using hk
    exact hb
def Cloned (l : List Int) (w : World) (v : Value) (w' : World) : Prop := w'.ownsRow w.heap.size 3 1 v l.length (l.map Mem.i64) ∧ Below w.heap.size w w'
set_option maxHeartbeats 1000000 in
theorem clone_nil (cap : Nat) (w : World) : Calls Tryd.prog 19 #[.slice none 0 cap] w fun e w' => ∃ v, e = .returned v ∧ Cloned [] w v w' := by
  have hq := @Lib.run_eql_slice_nil Tryd.prog
  go_enter Tryd.func19, Tryd.ntmps19
  go_wp2
  go_ret
  exact ⟨_, rfl, World.ownsRow_nil _ _ _ _, Below.refl _ _⟩
set_option maxHeartbeats 1000000 in
theorem clone_some (l : List Int) (a : Addr) (cap : Nat) (w : World) (hlen : l.length ≤ 17592186044416) (hr : Reads w w.heap.size 1 (some a) l.length (l.map Mem.i64)) :
    Calls Tryd.prog 19 #[.slice (some a) l.length cap] w fun e w' => ∃ v, e = .returned v ∧ Cloned l w v w' := by
  obtain ⟨i0, hi, hz0, hz1, hz2⟩ := info_parts info_int
  have hq := @Lib.run_eql_slice_nil Tryd.prog
  have hmx : 0 + l.length ≤ maxLen := by unfold maxLen; omega
  have HR := hide hr
  clear hr
  go_enter Tryd.func19, Tryd.ntmps19
  go_wp2_with (at_builtin; refine wpList_append_any _ rfl (.tmp 5) (.tmp 6) 22 rfl w.heap.size 3 i0 (.int .i64 0) 1 8 Tryd.underlying22 hi hz0 hz1 hz2 rfl (by decide) _ 0 [] rfl (own_empty w 3) _ _ _ _ (l.map Mem.i64) rfl ((unhide HR).alloc (Nat.le_refl _) _) (one_i64 l) hmx (by omega) (by rw [World.size_alloc]; omega) ?_; intro v1 W1 ho1 hg1 hn1)
  go_ret
  refine ⟨_, rfl, by simpa using ho1, ?_⟩
  exact ((Below.refl _ _).alloc (Nat.le_refl _) _).grown hg1 (by rw [World.size_alloc]; omega) (own_base (own_empty w 3))
theorem clone_any (l : List Int) (A : Option Addr) (cap : Nat) (w : World) (hlen : l.length ≤ 17592186044416) (hr : Reads w w.heap.size 1 A l.length (l.map Mem.i64)) :
    Calls Tryd.prog 19 #[.slice A l.length cap] w fun e w' => ∃ v, e = .returned v ∧ Cloned l w v w' := by
  cases A with
  | none =>
    have h0 : l.length = 0 := by
      rcases Nat.eq_zero_or_pos l.length with h0 | h0
      · exact h0
      · obtain ⟨ad, h, _⟩ := hr.2 h0
        cases h
    rw [List.eq_nil_of_length_eq_zero h0]
    exact clone_nil cap w
  | some a => exact clone_some l a cap w hlen hr
end Go.Proofs.YtcajhkcopfabpaaDoor.Ev
