/-
  slices.Equal at ints, at strings, at ranges, walked: are two lists one? Conditions: both lie in memory.
-/
import Derived.Test.YtckgbalmpddblaaDoorAsAlike
import Derived.Test.YtckgbalmpddblaaDoorAsSearch
set_option linter.unusedVariables false
set_option linter.unusedSimpArgs false
namespace Go.Proofs.YtckgbalmpddblaaDoor.As
open Go.RowKit Go.Proofs.YtckgbalmpddblaaDoor.Mem Go.Proofs.YtckgbalmpddblaaDoor.Rs

attribute [local go_sem] neq_range neq_guard
/-- an answer, in a world in which only orders were drawn -/
def Same1 (b : Bool) (w : World) (e : Ending) (w' : World) : Prop := e = .returned (.bool b) ∧ ∃ n, w' = w.drewN n
theorem Same1.below {b : Bool} {w : World} {e : Ending} {w' : World} (h : Same1 b w e w') : e = .returned (.bool b) ∧ Below w.heap.size w w' := by
  obtain ⟨h1, n, rfl⟩ := h
  exact ⟨h1, below_drewN (Below.refl _ _) n⟩
/-- names lie flat -/
def NmsAt (w : World) (A : Option Addr) (l : List (List UInt8)) : Prop := 0 < l.length → ∃ b off, A = some ⟨b, off, none⟩ ∧ ∀ (k : Nat) s, l[k]? = some s → w.cell? ⟨b, off + k, none⟩ = some (str s)
def IntsAt (w : World) (A : Option Addr) (l : List Int) : Prop := 0 < l.length → ∃ b off, A = some ⟨b, off, none⟩ ∧ ∀ (k : Nat) s, l[k]? = some s → w.cell? ⟨b, off + k, none⟩ = some (.int .i64 s)
def RgsAt (w : World) (A : Option Addr) (l : List R) : Prop := 0 < l.length → ∃ b off, A = some ⟨b, off, none⟩ ∧ ∀ (k : Nat) r, l[k]? = some r → w.cell? ⟨b, off + k * 2, none⟩ = some (.int .i64 r.1) ∧ w.cell? ⟨b, off + k * 2 + 1, none⟩ = some (.int .i64 r.2)
theorem ints_at {w : World} {B : Nat} {A : Option Addr} {l : List Int} (h : Reads w B 1 A l.length (l.map Mem.i64)) : IntsAt w A l := fun hn => by
  obtain ⟨b, off, e, _, hc⟩ := kids_at h hn
  exact ⟨b, off, e, hc⟩
theorem rgs_at {w : World} {B : Nat} {A : Option Addr} {l : List R} (h : Lst w B A l) : RgsAt w A l := fun hn => by
  obtain ⟨b, off, e, _, hc⟩ := h hn
  exact ⟨b, off, e, hc⟩

set_option maxRecDepth 100000 in
set_option maxHeartbeats 2000000 in
theorem eqI_any (l m : List (Int)) (A M : Option Addr) (ca cm : Nat) (w : World) (hl1 : l.length ≤ ca) (hl2 : ca ≤ 9223372036854775807) (hm1 : m.length ≤ cm) (hm2 : cm ≤ 9223372036854775807) (hA : IntsAt w A l) (hM : IntsAt w M m) (b : Bool) (hb : decide (l = m) = b) :
    Calls Tryd.prog 38 #[.slice A l.length ca, .slice M m.length cm] w (Same1 b w) := by
  have HA := hide hA
  have HM := hide hM
  have HBB := hide hb
  clear hA hM hb
  by_cases hll : l.length = m.length
  · have d0 : ((l.length : Int) != (m.length : Int)) = false := by simp [hll]
    have HLL := hide hll
    clear hll
    go_enter Tryd.func38, Tryd.ntmps38
    go_wp2_with fail
    go_loopw [13] (fun i wr => QRel l m w w i wr) (fun i _ => l.length - (intOf i).toNat)
    case atStart => exact ⟨0, 0, rfl, by omega, fun j hj => absurd hj (by omega), rfl⟩
    case round =>
      obtain ⟨k, n, rfl, hk, heq, rfl⟩ := hrel
      go_hideQ
      have HEQ := hide heq
      clear heq
      by_cases hlt : k < l.length
      · have hka : (k : Int) < (l.length : Int) := by omega
        have hkb : (k : Int) < (m.length : Int) := by have := unhide HLL; omega
        obtain ⟨r, hr⟩ : ∃ r, l[k]? = some r := ⟨_, List.getElem?_eq_getElem hlt⟩
        obtain ⟨q, hq⟩ : ∃ q, m[k]? = some q := ⟨_, List.getElem?_eq_getElem (by have := unhide HLL; omega)⟩
        obtain ⟨ba, oa, rfl, hca⟩ := (unhide HA) (by omega)
        obtain ⟨bb, ob, rfl, hcb⟩ := (unhide HM) (by have := unhide HLL; omega)
        have r0 := hca k r hr
        have q0 := hcb k q hq
        have HRQ := hide (And.intro hr hq)
        clear hca hcb hr hq
        by_cases h1 : r = q
        · have HRE := hide h1
          have e1 : (r != q) = false := by simp [h1]
          clear h1
          go_wp2_with fail
          go_quiet (fail)
          go_wp2_with fail
          have hR : QRel l m w w (.int .i64 ((k : Int) + 1)) (w.drewN (n + nq)) := ⟨k + 1, n + nq, by go_num, by omega, fun j hj => step_eq (unhide HEQ) (unhide HRQ).1 (unhide HRQ).2 (unhide HRE) j hj, rfl⟩
          first | exact ⟨hR, by simp [intOf]; omega⟩ | (go_roundw; case rel => exact hR; case measure => simp [intOf]; omega)
        · have HNE := hide (show ¬ l = m from fun e => h1 (by
            have h := unhide HRQ
            rw [e] at h
            exact Option.some.inj (h.1.symm.trans h.2)))
          have HR := hide ((unhide HBB).symm.trans (decide_eq_false (unhide HNE)))
          have e1 : (r != q) = true := by simp [h1]
          clear h1
          go_wp2_with fail
          go_quiet (fail)
          go_wp2_with fail
          go_ret
          exact ⟨by rw [unhide HR]; rfl, n + nq, by simp⟩
      · have hka : (l.length : Int) ≤ (k : Int) := by omega
        have HR := hide ((unhide HBB).symm.trans (decide_eq_true (show l = m from all_eq (unhide HEQ) (by omega) (unhide HLL))))
        clear hlt
        go_wp2_with fail
        go_ret
        exact ⟨by rw [unhide HR]; rfl, n, rfl⟩
  · have d0 : ((l.length : Int) != (m.length : Int)) = true := by simp; omega
    have HR := hide ((unhide HBB).symm.trans (decide_eq_false (show ¬ l = m from fun e => hll (by rw [e]))))
    clear hll
    go_enter Tryd.func38, Tryd.ntmps38
    go_wp2_with fail
    go_ret
    exact ⟨by rw [unhide HR]; rfl, 0, rfl⟩

set_option maxRecDepth 100000 in
set_option maxHeartbeats 2000000 in
theorem eqS_any (l m : List (List UInt8)) (A M : Option Addr) (ca cm : Nat) (w : World) (hl1 : l.length ≤ ca) (hl2 : ca ≤ 9223372036854775807) (hm1 : m.length ≤ cm) (hm2 : cm ≤ 9223372036854775807) (hA : NmsAt w A l) (hM : NmsAt w M m) (b : Bool) (hb : decide (l = m) = b) :
    Calls Tryd.prog 27 #[.slice A l.length ca, .slice M m.length cm] w (Same1 b w) := by
  have HA := hide hA
  have HM := hide hM
  have HBB := hide hb
  clear hA hM hb
  by_cases hll : l.length = m.length
  · have d0 : ((l.length : Int) != (m.length : Int)) = false := by simp [hll]
    have HLL := hide hll
    clear hll
    go_enter Tryd.func27, Tryd.ntmps27
    go_wp2_with fail
    go_loopw [13] (fun i wr => QRel l m w w i wr) (fun i _ => l.length - (intOf i).toNat)
    case atStart => exact ⟨0, 0, rfl, by omega, fun j hj => absurd hj (by omega), rfl⟩
    case round =>
      obtain ⟨k, n, rfl, hk, heq, rfl⟩ := hrel
      go_hideQ
      have HEQ := hide heq
      clear heq
      by_cases hlt : k < l.length
      · have hka : (k : Int) < (l.length : Int) := by omega
        have hkb : (k : Int) < (m.length : Int) := by have := unhide HLL; omega
        obtain ⟨r, hr⟩ : ∃ r, l[k]? = some r := ⟨_, List.getElem?_eq_getElem hlt⟩
        obtain ⟨q, hq⟩ : ∃ q, m[k]? = some q := ⟨_, List.getElem?_eq_getElem (by have := unhide HLL; omega)⟩
        obtain ⟨ba, oa, rfl, hca⟩ := (unhide HA) (by omega)
        obtain ⟨bb, ob, rfl, hcb⟩ := (unhide HM) (by have := unhide HLL; omega)
        have r0 := hca k r hr
        have q0 := hcb k q hq
        have HRQ := hide (And.intro hr hq)
        clear hca hcb hr hq
        by_cases h1 : r = q
        · have HRE := hide h1
          have e1 : (r == q) = true := by simp [h1]
          clear h1
          go_wp2_with fail
          go_quiet (fail)
          go_wp2_with fail
          have hR : QRel l m w w (.int .i64 ((k : Int) + 1)) (w.drewN (n + nq)) := ⟨k + 1, n + nq, by go_num, by omega, fun j hj => step_eq (unhide HEQ) (unhide HRQ).1 (unhide HRQ).2 (unhide HRE) j hj, rfl⟩
          first | exact ⟨hR, by simp [intOf]; omega⟩ | (go_roundw; case rel => exact hR; case measure => simp [intOf]; omega)
        · have HNE := hide (show ¬ l = m from fun e => h1 (by
            have h := unhide HRQ
            rw [e] at h
            exact Option.some.inj (h.1.symm.trans h.2)))
          have HR := hide ((unhide HBB).symm.trans (decide_eq_false (unhide HNE)))
          have e1 : (r == q) = false := by simp [h1]
          clear h1
          go_wp2_with fail
          go_quiet (fail)
          go_wp2_with fail
          go_ret
          exact ⟨by rw [unhide HR]; rfl, n + nq, by simp⟩
      · have hka : (l.length : Int) ≤ (k : Int) := by omega
        have HR := hide ((unhide HBB).symm.trans (decide_eq_true (show l = m from all_eq (unhide HEQ) (by omega) (unhide HLL))))
        clear hlt
        go_wp2_with fail
        go_ret
        exact ⟨by rw [unhide HR]; rfl, n, rfl⟩
  · have d0 : ((l.length : Int) != (m.length : Int)) = true := by simp; omega
    have HR := hide ((unhide HBB).symm.trans (decide_eq_false (show ¬ l = m from fun e => hll (by rw [e]))))
    clear hll
    go_enter Tryd.func27, Tryd.ntmps27
    go_wp2_with fail
    go_ret
    exact ⟨by rw [unhide HR]; rfl, 0, rfl⟩

set_option maxRecDepth 100000 in
set_option maxHeartbeats 2000000 in
theorem eqR_any (l m : List (R)) (A M : Option Addr) (ca cm : Nat) (w : World) (hl1 : l.length ≤ ca) (hl2 : ca ≤ 9223372036854775807) (hm1 : m.length ≤ cm) (hm2 : cm ≤ 9223372036854775807) (hA : RgsAt w A l) (hM : RgsAt w M m) (b : Bool) (hb : decide (l = m) = b) :
    Calls Tryd.prog 37 #[.slice A l.length ca, .slice M m.length cm] w (Same1 b w) := by
  have HA := hide hA
  have HM := hide hM
  have HBB := hide hb
  clear hA hM hb
  by_cases hll : l.length = m.length
  · have d0 : ((l.length : Int) != (m.length : Int)) = false := by simp [hll]
    have HLL := hide hll
    clear hll
    go_enter Tryd.func37, Tryd.ntmps37
    go_wp2_with fail
    go_loopw [13] (fun i wr => QRel l m w w i wr) (fun i _ => l.length - (intOf i).toNat)
    case atStart => exact ⟨0, 0, rfl, by omega, fun j hj => absurd hj (by omega), rfl⟩
    case round =>
      obtain ⟨k, n, rfl, hk, heq, rfl⟩ := hrel
      go_hideQ
      have HEQ := hide heq
      clear heq
      by_cases hlt : k < l.length
      · have hka : (k : Int) < (l.length : Int) := by omega
        have hkb : (k : Int) < (m.length : Int) := by have := unhide HLL; omega
        obtain ⟨r, hr⟩ : ∃ r, l[k]? = some r := ⟨_, List.getElem?_eq_getElem hlt⟩
        obtain ⟨q, hq⟩ : ∃ q, m[k]? = some q := ⟨_, List.getElem?_eq_getElem (by have := unhide HLL; omega)⟩
        obtain ⟨ba, oa, rfl, hca⟩ := (unhide HA) (by omega)
        obtain ⟨bb, ob, rfl, hcb⟩ := (unhide HM) (by have := unhide HLL; omega)
        have r0 := (hca k r hr).1
        have r1 := (hca k r hr).2
        have q0 := (hcb k q hq).1
        have q1 := (hcb k q hq).2
        have HRQ := hide (And.intro hr hq)
        clear hca hcb hr hq
        by_cases h1 : r = q
        · have HRE := hide h1
          have e1 : (r.1 == q.1) = true := by simp [h1]
          have e2 : (r.2 == q.2) = true := by simp [h1]
          clear h1
          go_wp2_with fail
          go_quiet (fail)
          go_wp2_with fail
          have hR : QRel l m w w (.int .i64 ((k : Int) + 1)) (w.drewN (n + nq)) := ⟨k + 1, n + nq, by go_num, by omega, fun j hj => step_eq (unhide HEQ) (unhide HRQ).1 (unhide HRQ).2 (unhide HRE) j hj, rfl⟩
          first | exact ⟨hR, by simp [intOf]; omega⟩ | (go_roundw; case rel => exact hR; case measure => simp [intOf]; omega)
        · have HNE := hide (show ¬ l = m from fun e => h1 (by
            have h := unhide HRQ
            rw [e] at h
            exact Option.some.inj (h.1.symm.trans h.2)))
          have HR := hide ((unhide HBB).symm.trans (decide_eq_false (unhide HNE)))
          by_cases h0 : r.1 = q.1
          · have e1 : (r.1 == q.1) = true := by simp [h0]
            have e2 : (r.2 == q.2) = false := by simp; exact fun h => h1 (Prod.ext h0 h)
            clear h0 h1
            go_wp2_with fail
            go_quiet (fail)
            go_wp2_with fail
            go_ret
            exact ⟨by rw [unhide HR]; rfl, n + nq, by simp⟩
          · have e1 : (r.1 == q.1) = false := by simp [h0]
            clear h0 h1
            go_wp2_with fail
            go_quiet (fail)
            go_wp2_with fail
            go_ret
            exact ⟨by rw [unhide HR]; rfl, n + nq, by simp⟩
      · have hka : (l.length : Int) ≤ (k : Int) := by omega
        have HR := hide ((unhide HBB).symm.trans (decide_eq_true (show l = m from all_eq (unhide HEQ) (by omega) (unhide HLL))))
        clear hlt
        go_wp2_with fail
        go_ret
        exact ⟨by rw [unhide HR]; rfl, n, rfl⟩
  · have d0 : ((l.length : Int) != (m.length : Int)) = true := by simp; omega
    have HR := hide ((unhide HBB).symm.trans (decide_eq_false (show ¬ l = m from fun e => hll (by rw [e]))))
    clear hll
    go_enter Tryd.func37, Tryd.ntmps37
    go_wp2_with fail
    go_ret
    exact ⟨by rw [unhide HR]; rfl, 0, rfl⟩
end Go.Proofs.YtckgbalmpddblaaDoor.As
