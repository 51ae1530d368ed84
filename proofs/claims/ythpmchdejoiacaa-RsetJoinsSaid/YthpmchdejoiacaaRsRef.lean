/-
  The reference's Has, Least, Edges, and the law's of and edges, walked.
-/
import Derived.Test.YthpmchdejoiacaaRsMem
import Derived.IntWalk
import Derived.Lib.Walk
import Derived.RegionTactic
import Derived.Deep.QuietTactic
import Derived.BigQuiet
set_option linter.unusedVariables false
set_option linter.unusedSimpArgs false
namespace Go.Proofs.Ythpmchdejoiacaa.Rs
open Go.RowKit Go.Proofs.Ythpmchdejoiacaa.Mem

def HRel (l : List R) (x : Int) (w : World) (i : Value) (wr : World) : Prop := ∃ k : Nat, i = .int .i64 k ∧ k ≤ l.length ∧ hasL (l.take k) x = false ∧ wr = w

set_option maxHeartbeats 2000000 in
theorem refHas_any (l : List R) (x : Int) (A : Option Addr) (cap : Nat) (w : World) (hlen : l.length ≤ 1000000) (h : Lst w w.heap.size A l) :
    Calls Try.prog 11 #[.slice A l.length cap, .int .i64 x] w fun e w' => e = .returned (.bool (hasL l x)) ∧ w' = w := by
  have H := hide h
  clear h
  go_enter Try.func11, Try.ntmps11
  go_wp2
  go_loopw [5] (fun i wr => HRel l x w i wr) (fun i _ => l.length - (intOf i).toNat)
  case atStart => exact ⟨0, rfl, Nat.zero_le _, rfl, rfl⟩
  case round =>
    obtain ⟨k, rfl, hk, hno, rfl⟩ := hrel
    by_cases hlt : k < l.length
    · obtain ⟨b, off, rfl, hb, hc⟩ := (unhide H) (by omega)
      obtain ⟨r, hr⟩ : ∃ r, l[k]? = some r := ⟨_, List.getElem?_eq_getElem hlt⟩
      obtain ⟨c1, c2⟩ := hc k r hr
      have e : l[k] = r := by simpa [List.getElem?_eq_getElem hlt] using hr
      have htk : hasL (l.take (k + 1)) x = inR x r := by rw [List.take_succ_eq_append_getElem hlt, e, hasL_append, hno]; simp
      have hmem : inR x r = true → hasL l x = true := fun hi => by
        unfold hasL; rw [List.any_eq_true]; exact ⟨r, List.mem_of_getElem? hr, hi⟩
      have hlt' : (k : Int) < (l.length : Int) := by omega
      have HTK := hide htk
      have HM := hide hmem
      clear hc hr e htk hmem hno
      by_cases h0 : 0 ≤ x
      · by_cases h1 : x ≤ 1114367
        · by_cases h2 : r.1 ≤ x
          · by_cases h3 : x ≤ r.2
            · have HN := hide (show inR x r = true by simp [inR]; omega)
              go_wp2
              go_ret
              exact ⟨by rw [(unhide HM) (unhide HN)]; rfl, rfl⟩
            · have HN := hide (show inR x r = false by simp [inR]; omega)
              go_wp2
              go_roundw
              case rel => exact ⟨k + 1, by go_num, by omega, (unhide HTK).trans (unhide HN), rfl⟩
              case measure => simp [intOf]; omega
          · have HN := hide (show inR x r = false by simp [inR]; omega)
            go_wp2
            go_roundw
            case rel => exact ⟨k + 1, by go_num, by omega, (unhide HTK).trans (unhide HN), rfl⟩
            case measure => simp [intOf]; omega
        · have HN := hide (show inR x r = false by simp [inR]; omega)
          go_wp2
          go_roundw
          case rel => exact ⟨k + 1, by go_num, by omega, (unhide HTK).trans (unhide HN), rfl⟩
          case measure => simp [intOf]; omega
      · have HN := hide (show inR x r = false by simp [inR]; omega)
        go_wp2
        go_roundw
        case rel => exact ⟨k + 1, by go_num, by omega, (unhide HTK).trans (unhide HN), rfl⟩
        case measure => simp [intOf]; omega
    · obtain rfl : k = l.length := by omega
      rw [List.take_length] at hno
      have HNO := hide hno
      clear hno
      go_wp2
      go_ret
      exact ⟨by rw [unhide HNO]; rfl, rfl⟩

/-- what 'of' has made -/
def CutR (w : World) (l : List R) (v : Value) (w' : World) : Prop := w'.ownsRow w.heap.size 45 2 v l.length (flat l) ∧ Below w.heap.size w w'
def ORel (l : List R) (w : World) (v i : Value) (wr : World) : Prop := ∃ k : Nat, i = .int .i64 k ∧ k ≤ l.length ∧ CutR w (l.take k) v wr

set_option maxHeartbeats 2000000 in
theorem lawOf_any (l : List R) (A : Option Addr) (cap : Nat) (w : World) (hlen : l.length ≤ 1000000) (h : Lst w w.heap.size A l) :
    Calls Try.prog 12 #[.slice A l.length cap] w fun e w' => ∃ v, e = .returned v ∧ CutR w l v w' := by
  have H := hide h
  clear h
  go_enter Try.func12, Try.ntmps12
  go_wp2
  go_loopw [3, 8] (fun v i wr => ORel l w v i wr) (fun _ i _ => l.length - (intOf i).toNat)
  case atStart => exact ⟨0, rfl, Nat.zero_le _, World.ownsRow_nil _ _ _ _, Below.refl _ _⟩
  case round =>
    obtain ⟨k, rfl, hk, hrow⟩ := hrel
    by_cases hlt : k < l.length
    · obtain ⟨b, off, rfl, hb, hc⟩ := (unhide H) (by omega)
      obtain ⟨r, hr⟩ : ∃ r, l[k]? = some r := ⟨_, List.getElem?_eq_getElem hlt⟩
      have c1 : wr.cell? ⟨b, off + k * 2, none⟩ = some (.int .i64 r.1) := (hrow.2.cell (p := ⟨b, off + k * 2, none⟩) hb).trans (hc k r hr).1
      have c2 : wr.cell? ⟨b, off + k * 2 + 1, none⟩ = some (.int .i64 r.2) := (hrow.2.cell (p := ⟨b, off + k * 2 + 1, none⟩) hb).trans (hc k r hr).2
      have hlt' : (k : Int) < (l.length : Int) := by omega
      have htk : l.take (k + 1) = l.take k ++ [r] := by
        have e : l[k] = r := by simpa [List.getElem?_eq_getElem hlt] using hr
        rw [List.take_succ_eq_append_getElem hlt, e]
      have hcut : CutR w (l.take k) u3 (wr.alloc (.cells #[.int .i64 r.1, .int .i64 r.2] 36)) := ⟨hrow.1.alloc _, below_al hrow.2 hrow.2.size _⟩
      have hl2 : (l.take k).length ≤ k := List.length_take_le _ _
      have hmx : (l.take k).length + 1 ≤ maxLen := by unfold maxLen; omega
      have hone : ∀ u ∈ (#[.int .i64 r.1, .int .i64 r.2] : Array Value).toList, u.oneCell' = true := by simp [Value.oneCell']
      have hwz := hrow.2.size
      have hpl : (l.take k).length = k := by rw [List.length_take]; omega
      clear hrow hr hc
      generalize l.take k = pre at *
      have HTK := hide htk
      have HCUT := hide hcut
      clear htk hcut
      obtain ⟨i0, hi, hz0, hz1, hz2⟩ := info_parts info_ref
      go_wp2_with (at_builtin; refine wpList_append_any _ rfl (.tmp 12) (.tmp 14) 28 rfl w.heap.size 45 i0 (.agg #[.int .i64 0, .int .i64 0]) 2 16 Try.underlying28 hi hz0 hz1 hz2 rfl (by decide) _ pre.length _ rfl ((unhide HCUT).1.alloc _) _ _ 1 1 _ rfl (reads_at (by rw [World.size_alloc]) #[.int .i64 r.1, .int .i64 r.2] 45 1 2 rfl) hone hmx (by omega) (by rw [World.size_alloc, World.size_alloc]; omega) ?_; intro v5 w5 ho5 hg5 hn5; have HO5 := hide ho5; have HG5 := hide hg5; clear ho5 hg5 hn5)
      first | go_roundw | refine ⟨⟨_, _, _, ?rel, rfl, rfl, rfl⟩, ?measure⟩
      case rel =>
        refine ⟨k + 1, by go_num, by omega, ?_⟩
        rw [unhide HTK]
        exact ⟨by rw [flat_append, List.length_append]; exact unhide HO5, below_app (unhide HCUT).2 (unhide HCUT).1 (unhide HG5)⟩
      case measure => simp [intOf]; omega
    · obtain rfl : k = l.length := by omega
      rw [List.take_length] at hrow
      have HROW := hide hrow
      clear hrow
      go_wp2
      go_ret
      exact ⟨_, rfl, unhide HROW⟩

/- the least list, place by place -/
def okAt (l : List R) (k : Nat) : Prop := ∀ r, l[k]? = some r → 0 ≤ r.1 ∧ r.2 ≤ 1114367 ∧ r.1 ≤ r.2 ∧ (∀ j q, k = j + 1 → l[j]? = some q → q.2 < r.1 - 1)
theorem leastF_iff : ∀ (l : List R) (p : Int), -2 ≤ p → (LeastF p l ↔ ((∀ r, l[0]? = some r → p < r.1 - 1) ∧ ∀ k, okAt l k))
  | [], p, hp => ⟨fun _ => ⟨fun r h => by simp at h, fun k r h => by simp at h⟩, fun _ => trivial⟩
  | a :: t, p, hp => by
    constructor
    · rintro ⟨h1, h2, h3, h4⟩
      have ih := (leastF_iff t a.2 (by omega)).1 h4
      refine ⟨fun r h => by simp at h; subst h; exact h1, fun k r h => ?_⟩
      cases k with
      | zero =>
        simp at h; subst h
        exact ⟨by omega, h3, h2, fun j q hj => by omega⟩
      | succ k =>
        have h' : t[k]? = some r := by simpa using h
        obtain ⟨e1, e2, e3, e4⟩ := ih.2 k r h'
        refine ⟨e1, e2, e3, fun j q hj hq => ?_⟩
        obtain rfl : k = j := by omega
        cases k with
        | zero =>
          simp at hq; subst hq
          exact ih.1 r h'
        | succ k => exact e4 k q rfl (by simpa using hq)
    · rintro ⟨h1, h2⟩
      have ha := h2 0 a (by simp)
      refine ⟨h1 a (by simp), ha.2.2.1, ha.2.1, (leastF_iff t a.2 (by omega)).2 ⟨fun r hr => ?_, fun k r hr => ?_⟩⟩
      · exact (h2 1 r (by simpa using hr)).2.2.2 0 a rfl (by simp)
      · obtain ⟨e1, e2, e3, e4⟩ := h2 (k + 1) r (by simpa using hr)
        refine ⟨e1, e2, e3, fun j q hj hq => ?_⟩
        exact e4 (j + 1) q (by omega) (by simpa using hq)
theorem least_iff (l : List R) : Least l ↔ ∀ k, okAt l k := by
  rw [Least, leastF_iff l (-2) (by omega)]
  refine ⟨fun h => h.2, fun h => ⟨fun r hr => ?_, h⟩⟩
  have := (h 0 r hr).1
  omega
end Go.Proofs.Ythpmchdejoiacaa.Rs
