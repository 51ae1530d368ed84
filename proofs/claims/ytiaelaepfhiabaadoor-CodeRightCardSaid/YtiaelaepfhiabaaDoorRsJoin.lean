/-
  rset.join, walked: in place, in a row of the call's own.
-/
import Derived.Test.YtiaelaepfhiabaaDoorRsMem
import Derived.Laws.Tables
import Derived.IntWalk
import Derived.RegionTactic
import Derived.Deep.QuietTactic
import Derived.BigQuiet
import Derived.Laws.Slices
import Derived.Lib.Walk
set_option linter.unusedVariables false
set_option linter.unusedSimpArgs false
namespace Go.Proofs.YtiaelaepfhiabaaDoor.Rs
open Go.RowKit Go.Proofs.YtiaelaepfhiabaaDoor.Mem

theorem flat_set_hi : ∀ (l : List R) (k : Nat) (q : R) (x : Int), l[k]? = some q → flat (l.set k (q.1, x)) = (flat l).set (k * 2 + 1) (.int .i64 x)
  | [], k, q, x, h => by simp at h
  | r :: l, 0, q, x, h => by
    obtain rfl : r = q := by simpa using h
    rfl
  | r :: l, k + 1, q, x, h => by
    rw [List.set_cons_succ, flat_cons, flat_set_hi l k q x (by simpa using h), show (k + 1) * 2 + 1 = (k * 2 + 1) + 1 + 1 by omega, flat_cons, List.set_cons_succ, List.set_cons_succ]
theorem flat_set : ∀ (l : List R) (k : Nat) (q : R), k < l.length → flat (l.set k q) = ((flat l).set (k * 2) (.int .i64 q.1)).set (k * 2 + 1) (.int .i64 q.2)
  | [], k, q, h => by simp at h
  | r :: l, 0, q, h => rfl
  | r :: l, k + 1, q, h => by
    rw [List.set_cons_succ, flat_cons, flat_set l k q (by simpa using h), show (k + 1) * 2 + 1 = (k * 2 + 1) + 1 + 1 by omega, show (k + 1) * 2 = k * 2 + 1 + 1 by omega, flat_cons, List.set_cons_succ, List.set_cons_succ, List.set_cons_succ, List.set_cons_succ]

/-- between two rounds of join: k read, m written, the row holding cur -/
def Joined (s cur : List R) (k m : Nat) : Prop :=
  m ≤ k ∧ k ≤ s.length ∧ cur.length = s.length ∧ cur.drop k = s.drop k ∧ (∀ r ∈ cur, okR r) ∧
    ((m = 0 ∧ k = 0) ∨ ∃ j q, m = j + 1 ∧ cur[j]? = some q ∧ joinL s = cur.take j ++ joinF q (s.drop k))
theorem Joined.start {s : List R} (h : ∀ r ∈ s, okR r) : Joined s s 0 0 := ⟨Nat.le_refl _, Nat.zero_le _, rfl, rfl, h, .inl ⟨rfl, rfl⟩⟩
theorem Joined.here {s cur : List R} {k m : Nat} (h : Joined s cur k m) (hk : k < s.length) : ∃ r, cur[k]? = some r ∧ s.drop k = r :: s.drop (k + 1) ∧ okR r := by
  obtain ⟨h1, h2, h3, h4, h5, h6⟩ := h
  have hc : k < cur.length := by omega
  refine ⟨cur[k], List.getElem?_eq_getElem hc, ?_, h5 _ (List.getElem_mem hc)⟩
  have e1 := List.drop_eq_getElem_cons hc
  have e2 := List.drop_eq_getElem_cons hk
  rw [h4, e2] at e1
  rw [e2]
  injection e1 with e1 _
  rw [e1]
theorem Joined.last {s cur : List R} {k m j : Nat} {q r : R} (h : Joined s cur k m) (hk : k < s.length) (hr : cur[k]? = some r) (hm : m = j + 1) (hq : cur[j]? = some q) (hle : r.1 ≤ q.2 + 1) :
    Joined s (cur.set j (q.1, max q.2 r.2)) (k + 1) m := by
  obtain ⟨r', hr', hd, hok⟩ := Joined.here h hk
  obtain rfl : r = r' := by rw [hr] at hr'; exact Option.some.inj hr'
  obtain ⟨h1, h2, h3, h4, h5, h6⟩ := h
  subst hm
  have hj : j < cur.length := by omega
  have hqm : okR q := h5 q (List.mem_of_getElem? hq)
  refine ⟨by omega, hk, by simpa using h3, ?_, ?_, .inr ⟨j, (q.1, max q.2 r.2), rfl, by simp [hj], ?_⟩⟩
  · rw [List.drop_set, if_pos (by omega), ← List.drop_drop, ← List.drop_drop, h4]
  · intro a ha
    rcases List.mem_or_eq_of_mem_set ha with h | rfl
    · exact h5 a h
    · unfold okR at hqm hok ⊢; simp only; omega
  · rcases h6 with ⟨h, _⟩ | ⟨j', q', hj', hq', hjo⟩
    · omega
    · obtain rfl : j = j' := by omega
      obtain rfl : q = q' := by rw [hq] at hq'; exact Option.some.inj hq'
      rw [hjo, hd, List.take_set_of_le (by omega)]
      conv => lhs; unfold joinF
      rw [if_pos hle]
theorem Joined.next {s cur : List R} {k m : Nat} {r : R} (h : Joined s cur k m) (hk : k < s.length) (hr : cur[k]? = some r) (hno : ∀ j q, m = j + 1 → cur[j]? = some q → ¬ r.1 ≤ q.2 + 1) :
    Joined s (cur.set m r) (k + 1) (m + 1) := by
  obtain ⟨r', hr', hd, hok⟩ := Joined.here h hk
  obtain rfl : r = r' := by rw [hr] at hr'; exact Option.some.inj hr'
  obtain ⟨h1, h2, h3, h4, h5, h6⟩ := h
  have hm : m < cur.length := by omega
  refine ⟨by omega, hk, by simpa using h3, ?_, ?_, .inr ⟨m, r, rfl, by simp [hm], ?_⟩⟩
  · rw [List.drop_set, if_pos (by omega), ← List.drop_drop, ← List.drop_drop, h4]
  · intro a ha
    rcases List.mem_or_eq_of_mem_set ha with h | rfl
    · exact h5 a h
    · exact hok
  · rw [List.take_set_of_le (Nat.le_refl _)]
    rcases h6 with ⟨rfl, rfl⟩ | ⟨j, q, hj, hq, hjo⟩
    · have : s = r :: s.drop 1 := by simpa using hd
      rw [this]
      simp [joinL]
    · have hn := hno j q hj hq
      rw [hjo, hd]
      conv => lhs; unfold joinF
      rw [if_neg hn]
      subst hj
      have hjl : j < cur.length := by omega
      have e : cur[j] = q := by simpa [List.getElem?_eq_getElem hjl] using hq
      rw [List.take_succ_eq_append_getElem hjl, e]
      simp
theorem Joined.done {s cur : List R} {m : Nat} (h : Joined s cur s.length m) : joinL s = cur.take m ∧ m ≤ s.length := by
  obtain ⟨h1, h2, h3, h4, h5, h6⟩ := h
  refine ⟨?_, h1⟩
  rcases h6 with ⟨rfl, h0⟩ | ⟨j, q, rfl, hq, hjo⟩
  · rw [List.eq_nil_of_length_eq_zero h0]; rfl
  · rw [hjo, List.drop_length]
    have hjl : j < cur.length := by omega
    have e : cur[j] = q := by simpa [List.getElem?_eq_getElem hjl] using hq
    rw [List.take_succ_eq_append_getElem hjl, e]; rfl

def JRel (s : List R) (B g cap : Nat) (w : World) (n i : Value) (wr : World) : Prop :=
  ∃ (k m : Nat) (cur : List R), i = .int .i64 k ∧ n = .int .i64 m ∧ Joined s cur k m ∧ wr.ownsRow B 52 2 (.slice (some ⟨g, 0, none⟩) s.length cap) s.length (flat cur) ∧ w.grownBy wr (some g)

set_option maxHeartbeats 1000000 in
theorem join_none {B : Nat} (w : World) : Calls Tryd.prog 52 #[.slice none 0 0] w fun e w' => ∃ v', e = .returned v' ∧ w'.ownsRow B 52 2 v' (joinL []).length (flat (joinL [])) ∧ w.grownBy w' (Value.slice none 0 0).ownBlock := by
  go_enter Tryd.func52, Tryd.ntmps52
  go_wp2
  go_loop [3, 8] (fun v i => v = .int .i64 0 ∧ i = .int .i64 0) (fun _ _ => 0)
  case atStart => exact ⟨rfl, rfl⟩
  case round =>
    obtain ⟨rfl, rfl⟩ := hrel
    go_wp2
    go_ret
    exact ⟨_, rfl, World.ownsRow_nil _ _ _ _, World.grownBy.refl _ _⟩

theorem own_cap {W : World} {base e size n g cap : Nat} {xs : List Value} (h : W.ownsRow base e size (.slice (some ⟨g, 0, none⟩) n cap) n xs) : n ≤ cap ∧ cap ≤ maxLen := by
  rcases h.2 with ⟨h', _⟩ | ⟨g', cap', cur, h', hb, hg, hnc, hcm, _⟩
  · simp at h'
  · simp only [Value.slice.injEq, Option.some.injEq, Addr.mk.injEq, and_true, true_and] at h'
    obtain ⟨rfl, rfl⟩ := h'
    exact ⟨hnc, hcm⟩
/-- a shorter part of a row of the call's own -/
theorem own_cut {W : World} {base e g cap n : Nat} {l : List R} (h : W.ownsRow base e 2 (.slice (some ⟨g, 0, none⟩) n cap) n (flat l)) (m : Nat) (hm : m ≤ n) (hn : l.length = n) : W.ownsRow base e 2 (.slice (some ⟨g, 0, none⟩) m cap) (l.take m).length (flat (l.take m)) := by
  rcases h.2 with ⟨h', _⟩ | ⟨g', cap', cur, h', hb, hg, hnc, hcm, hcs, ht⟩
  · simp at h'
  · simp only [Value.slice.injEq, Option.some.injEq, Addr.mk.injEq, and_true, true_and] at h'
    obtain ⟨rfl, rfl⟩ := h'
    have hl : (l.take m).length = m := by rw [List.length_take]; omega
    rw [hl]
    refine ⟨by rw [flat_len, hl], .inr ⟨g, cap, cur, rfl, hb, hg, by omega, hcm, hcs, ?_⟩⟩
    have e : flat l = flat (l.take m) ++ flat (l.drop m) := by rw [← flat_append, List.take_append_drop]
    have e2 : (flat l).take (m * 2) = flat (l.take m) := by
      rw [e, List.take_append_of_le_length (by rw [flat_len, hl]; exact Nat.le_refl _), List.take_of_length_le (by rw [flat_len, hl]; exact Nat.le_refl _)]
    rw [← e2, ← ht, List.take_take]
    congr 1
    omega

set_option maxHeartbeats 4000000 in
theorem join_flat (s : List R) (B g cap : Nat) (w : World) (hlen : s.length ≤ 8796093021952) (hok : ∀ r ∈ s, okR r) (h : w.ownsRow B 52 2 (.slice (some ⟨g, 0, none⟩) s.length cap) s.length (flat s)) :
    Calls Tryd.prog 52 #[.slice (some ⟨g, 0, none⟩) s.length cap] w fun e w' => ∃ v, e = .returned v ∧ w'.ownsRow B 52 2 v (joinL s).length (flat (joinL s)) ∧ w.grownBy w' (some g) := by
  have hgl : g < w.heap.size := (h.lt g rfl).2
  have H := hide h
  have HOK := hide hok
  clear h hok
  go_enter Tryd.func52, Tryd.ntmps52
  go_wp2
  go_loopw [3, 8] (fun n i wr => JRel s B g cap w n i wr) (fun _ i _ => s.length - (intOf i).toNat)
  case atStart => exact ⟨0, 0, s, rfl, rfl, Joined.start (unhide HOK), unhide H, World.grownBy.refl _ _⟩
  case round =>
    obtain ⟨k, m, cur, rfl, rfl, hj, hown, hgr⟩ := hrel
    by_cases hlt : k < s.length
    · obtain ⟨r, hr, hd, hrok⟩ := hj.here hlt
      have c1 : wr.cell? ⟨g, k * 2, none⟩ = some (.int .i64 r.1) := by rw [hown.cellAt (k * 2) (by omega), flat_lo, hr]; rfl
      have c2 : wr.cell? ⟨g, k * 2 + 1, none⟩ = some (.int .i64 r.2) := by rw [hown.cellAt (k * 2 + 1) (by omega), flat_hi, hr]; rfl
      have hlt' : (k : Int) < (s.length : Int) := by omega
      have hm : m ≤ k := hj.1
      have hjj := hj.2.2.2.2.2
      have HJ := hide hj
      have HO := hide hown
      have HG := hide hgr
      have HD := hide hd
      have HR := hide hr
      clear hj hown hgr hd hr
      rcases hjj with ⟨hm0, hk0⟩ | ⟨j, q, rfl, hq, hjo⟩
      · have hd : decide (0 < m) = false := by simp; omega
        have HM0 := hide hm0
        have HK0 := hide hk0
        clear hm0 hk0
        go_wp2_with fail
        go_quiet (fail)
        have ho2 : ((wr.alloc (.cells #[.int .i64 r.1, .int .i64 r.2] 52)).drewN nq).ownsRow B 52 2 (.slice (some ⟨g, 0, none⟩) s.length cap) s.length (flat cur) := ((unhide HO).alloc _)
        have hcl : cur.length = s.length := (unhide HJ).2.2.1
        obtain ⟨c, hc⟩ : ∃ c, cur[m]? = some c := ⟨_, List.getElem?_eq_getElem (by omega)⟩
        have e0 := ho2.cellAt ((m) * 2) (by omega)
        rw [flat_lo, hc] at e0
        have e1 := ho2.frozenAt ((m) * 2)
        have st := ho2.stored ((m) * 2) (.int .i64 r.1)
        have e2 := st.1.cellAt ((m) * 2 + 1) (by omega)
        rw [List.getElem?_set_ne (by omega), flat_hi, hc] at e2
        have e3 := st.1.frozenAt ((m) * 2 + 1)
        have st2 := st.1.stored ((m) * 2 + 1) (.int .i64 r.2)
        rw [← flat_set cur (m) r (by omega)] at st2
        have hgm : w.grownBy ((((wr.alloc (.cells #[.int .i64 r.1, .int .i64 r.2] 52)).drewN nq).setCell ⟨g, (m) * 2, none⟩ (.int .i64 r.1)).setCell ⟨g, (m) * 2 + 1, none⟩ (.int .i64 r.2)) (some g) :=
          only_setCell (only_setCell (only_drewN (only_alloc (unhide HG) _) nq) (.inl rfl) _) (.inl rfl) _
        have hws : IntKind.i64.wrap (((m : Nat) : Int) + 1) = ((m : Nat) : Int) + 1 := wrap_id _ (by omega) (by omega)
        have hml : ((m : Nat) : Int) < (s.length : Int) := by omega
        have ST := hide st2.1
        have HGM := hide hgm
        clear ho2 hc st st2 hgm
        go_wp2_with fail
        go_roundw
        case rel =>
          refine ⟨k + 1, m + 1, cur.set m r, by go_num, by go_num, ?_, unhide ST, unhide HGM⟩
          exact (unhide HJ).next hlt (unhide HR) fun j q hj => by have := unhide HM0; omega
        case measure => simp [intOf]; omega
      · have hd : decide ((0 : Int) < ((j + 1 : Nat) : Int)) = true := by simp
        have hq1 := ((unhide HO).alloc (.cells #[.int .i64 r.1, .int .i64 r.2] 52)).cellAt (j * 2 + 1) (by omega)
        have hqj : (flat cur)[j * 2 + 1]? = some (.int .i64 q.2) := by rw [flat_hi, hq]; rfl
        rw [hqj] at hq1
        have hjm : j + 1 ≤ s.length := by omega
        have hqok : okR q := (unhide HJ).2.2.2.2.1 q (List.mem_of_getElem? hq)
        have hw1 : IntKind.i64.wrap (j : Int) = j := wrap_id _ (by omega) (by omega)
        have hw2 : IntKind.i64.wrap (q.2 + 1) = q.2 + 1 := wrap_id _ (by have := hqok.1; have := hqok.2.1; omega) (by have := hqok.2.2; omega)
        have hjl : (j : Int) < (s.length : Int) := by omega
        have hj0 : (0 : Int) ≤ (j : Int) := by omega
        have HQOK := hide hqok
        have HQ := hide hq
        have HJO := hide hjo
        clear hq hjo hqj hqok
        by_cases hle : r.1 ≤ q.2 + 1
        · go_wp2_with fail
          go_quiet (fail)
          have HLE := hide hle
          have ho2 : ((wr.alloc (.cells #[.int .i64 r.1, .int .i64 r.2] 52)).drewN nq).ownsRow B 52 2 (.slice (some ⟨g, 0, none⟩) s.length cap) s.length (flat cur) := ((unhide HO).alloc _)
          have e1 := ((unhide HO).alloc (.cells #[.int .i64 r.1, .int .i64 r.2] 52)).frozenAt (j * 2 + 1)
          have HO2 := hide ho2
          clear ho2 hle
          go_wp2_with fail
          go_region
          have st := ((unhide HO2).stored (j * 2 + 1) (.int .i64 (max q.2 r.2))).1
          rw [← flat_set_hi cur j q (max q.2 r.2) (unhide HQ)] at st
          have hgm := only_setCell (only_drewN (only_alloc (unhide HG) (.cells #[.int .i64 r.1, .int .i64 r.2] 52)) (nq + 1)) (p := ⟨g, j * 2 + 1, none⟩) (.inl rfl) (.int .i64 (max q.2 r.2))
          have ST := hide st
          have HGM := hide hgm
          clear st hgm e1 hq1
          go_wp2_with fail
          go_roundw
          case rel =>
            refine ⟨k + 1, j + 1, cur.set j (q.1, max q.2 r.2), by go_num, by go_num, (unhide HJ).last hlt (unhide HR) rfl (unhide HQ) (unhide HLE), unhide ST, unhide HGM⟩
          case measure => simp [intOf]; omega
        · go_wp2_with fail
          go_quiet (fail)
          have ho2 : ((wr.alloc (.cells #[.int .i64 r.1, .int .i64 r.2] 52)).drewN nq).ownsRow B 52 2 (.slice (some ⟨g, 0, none⟩) s.length cap) s.length (flat cur) := ((unhide HO).alloc _)
          have hcl : cur.length = s.length := (unhide HJ).2.2.1
          obtain ⟨c, hc⟩ : ∃ c, cur[j + 1]? = some c := ⟨_, List.getElem?_eq_getElem (by omega)⟩
          have e0 := ho2.cellAt ((j + 1) * 2) (by omega)
          rw [flat_lo, hc] at e0
          have e1 := ho2.frozenAt ((j + 1) * 2)
          have st := ho2.stored ((j + 1) * 2) (.int .i64 r.1)
          have e2 := st.1.cellAt ((j + 1) * 2 + 1) (by omega)
          rw [List.getElem?_set_ne (by omega), flat_hi, hc] at e2
          have e3 := st.1.frozenAt ((j + 1) * 2 + 1)
          have st2 := st.1.stored ((j + 1) * 2 + 1) (.int .i64 r.2)
          rw [← flat_set cur (j + 1) r (by omega)] at st2
          have hgm : w.grownBy ((((wr.alloc (.cells #[.int .i64 r.1, .int .i64 r.2] 52)).drewN nq).setCell ⟨g, (j + 1) * 2, none⟩ (.int .i64 r.1)).setCell ⟨g, (j + 1) * 2 + 1, none⟩ (.int .i64 r.2)) (some g) :=
            only_setCell (only_setCell (only_drewN (only_alloc (unhide HG) _) nq) (.inl rfl) _) (.inl rfl) _
          have hws : IntKind.i64.wrap (((j + 1 : Nat) : Int) + 1) = ((j + 1 : Nat) : Int) + 1 := wrap_id _ (by omega) (by omega)
          have hml : ((j + 1 : Nat) : Int) < (s.length : Int) := by omega
          have ST := hide st2.1
          have HGM := hide hgm
          clear ho2 hc st st2 hgm
          go_wp2_with fail
          go_roundw
          case rel =>
            refine ⟨k + 1, j + 1 + 1, cur.set (j + 1) r, by go_num, by go_num, ?_, unhide ST, unhide HGM⟩
            refine (unhide HJ).next hlt (unhide HR) fun j' q' hj' hq' => ?_
            obtain rfl : j = j' := by omega
            rw [unhide HQ] at hq'
            obtain rfl : q = q' := Option.some.inj hq'
            omega
          case measure => simp [intOf]; omega
    · have hkl : k = s.length := by have := hj.2.1; omega
      subst hkl
      have hd := hj.done
      have hm : m ≤ s.length := hd.2
      have hmc : s.length ≤ cap := (own_cap hown).1
      have hmi : (m : Int) ≤ (s.length : Int) := by omega
      have hmic : (m : Int) ≤ (cap : Int) := by omega
      have HD := hide hd
      have HO := hide hown
      have HG := hide hgr
      have hjl : cur.length = s.length := hj.2.2.1
      clear hj hd hown hgr
      go_wp2
      go_ret
      refine ⟨_, rfl, ?_, unhide HG⟩
      rw [(unhide HD).1]
      exact own_cut (unhide HO) m hm hjl

theorem join_any (s : List R) (B : Nat) (v : Value) (w : World) (hlen : s.length ≤ 8796093021952) (hok : ∀ r ∈ s, okR r) (h : w.ownsRow B 52 2 v s.length (flat s)) :
    Calls Tryd.prog 52 #[v] w fun e w' => ∃ v', e = .returned v' ∧ w'.ownsRow B 52 2 v' (joinL s).length (flat (joinL s)) ∧ w.grownBy w' v.ownBlock := by
  rcases h.2 with ⟨rfl, hn⟩ | ⟨g, cap, cur, rfl, h1, h2⟩
  · rw [List.eq_nil_of_length_eq_zero hn]
    exact join_none w
  · exact join_flat s B g cap w hlen hok h
end Go.Proofs.YtiaelaepfhiabaaDoor.Rs
