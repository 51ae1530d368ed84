/-
  The reference's symbols of all bytes (clewref01.All), walked: two new slices, of the symbols, and of where the
-/
import Derived.Test.YtdeaaidbmneplaaDoorMSymAll
import Derived.Test.YtdeaaidbmneplaaDoorMSymRf
set_option linter.unusedSimpArgs false
set_option linter.unusedVariables false
namespace Go.Proofs.YtdeaaidbmneplaaDoor.RefAll
open Go.RowKit Go.Proofs.YtdeaaidbmneplaaDoor.Sy Go.Proofs.YtdeaaidbmneplaaDoor.Mem Go.Proofs.YtdeaaidbmneplaaDoor.Ref
theorem reads_one (W : World) (x : Value) (t : TypeId) : Reads (W.alloc (.cells #[x] t)) (W.heap.size + 1) 1 (some ⟨W.heap.size, 0, none⟩) 1 [x] :=
  ⟨rfl, fun _ => ⟨_, rfl, Nat.lt_succ_self _, cell_one_new W x t⟩⟩
theorem own_lt {W : World} {base e size n : Nat} {v : Value} {xs : List Value} (h : W.ownsRow base e size v n xs) (k : Nat) (hk : v.ownBlock = some k) : k < W.heap.size := (h.lt k hk).2
def Rel (bs : List UInt8) (w : World) (o s i : Value) (wr : World) : Prop :=
  ∃ (k : Nat) (pre : List (Nat × Nat)), i = .int .i64 k ∧ k ≤ bs.length ∧ pre ++ from_ bs k = from_ bs 0 ∧ wr.ownsRow w.heap.size 3 1 o pre.length ((pre.map (·.2)).map n64) ∧
    wr.ownsRow w.heap.size 3 1 s pre.length ((pre.map (·.1)).map n64) ∧ (o.ownBlock = none ∨ o.ownBlock ≠ s.ownBlock) ∧ (s.ownBlock = none ∨ s.ownBlock ≠ o.ownBlock) ∧ Below w.heap.size w wr
theorem rel_step {bs : List UInt8} {w wr w1 w2 : World} {o s o' s' : Value} {k x m : Nat} {pre : List (Nat × Nat)} {t1 t2 : Obj} (hfr : from_ bs k = (k, x) :: from_ bs (k + m)) (hk : k + m ≤ bs.length) (hpre : pre ++ from_ bs k = from_ bs 0)
    (ho : wr.ownsRow w.heap.size 3 1 o pre.length ((pre.map (·.2)).map n64)) (hs : wr.ownsRow w.heap.size 3 1 s pre.length ((pre.map (·.1)).map n64)) (ha : o.ownBlock = none ∨ o.ownBlock ≠ s.ownBlock) (hb : s.ownBlock = none ∨ s.ownBlock ≠ o.ownBlock) (hB : Below w.heap.size w wr)
    (ho' : w1.ownsRow w.heap.size 3 1 o' (pre.length + 1) ((pre.map (·.2)).map n64 ++ [n64 x])) (hg1 : (wr.alloc t1).grownBy w1 o.ownBlock) (hn1 : o'.ownBlock = o.ownBlock ∨ o'.ownBlock = some (wr.alloc t1).heap.size)
    (hs' : w2.ownsRow w.heap.size 3 1 s' (pre.length + 1) ((pre.map (·.1)).map n64 ++ [n64 k])) (hg2 : (w1.alloc t2).grownBy w2 s.ownBlock) (hn2 : s'.ownBlock = s.ownBlock ∨ s'.ownBlock = some (w1.alloc t2).heap.size) :
    Rel bs w o' s' (.int .i64 ((k : Int) + (m : Int))) w2 := by
  have hz1 : wr.heap.size + 1 ≤ w1.heap.size := by have := hg1.size; rwa [World.size_alloc] at this
  have hos : o'.ownBlock = none ∨ o'.ownBlock ≠ s.ownBlock := by
    rcases hn1 with e | e
    · rw [e]; exact ha
    · right; rw [e]; intro h; have := own_lt hs _ h.symm; rw [World.size_alloc] at this; omega
  have hos2 : o'.ownBlock = none ∨ o'.ownBlock ≠ s'.ownBlock := by
    rcases hn2 with e | e
    · rw [e]; exact hos
    · right; rw [e]; intro h; have := own_lt ho' _ h; rw [World.size_alloc] at this; omega
  refine ⟨k + m, pre ++ [(k, x)], by simp, hk, by rw [List.append_assoc, List.singleton_append, ← hfr]; exact hpre, ?_, ?_, hos2, ?_, ?_⟩
  · have := (ho'.alloc t2).kept hg2 hos
    simpa using this
  · simpa using hs'
  · rcases hos2 with e | e
    · rcases hn2 with e2 | e2
      · rw [e2]
        rcases hb with h | h
        · exact .inl h
        · right; rw [e]; intro h3; exact absurd ho'.2 (by
            rintro (⟨rfl, h0⟩ | ⟨g, cap, cur, rfl, _⟩)
            · omega
            · simp [Value.ownBlock] at e)
      · right; rw [e, e2]; simp
    · exact .inr (fun h => e h.symm)
  · have h1 : Below w.heap.size w w1 := (hB.alloc hB.size t1).grown hg1 (by rw [World.size_alloc]; have := hB.size; omega) (All.own_base ho)
    exact (h1.alloc h1.size t2).grown hg2 (by rw [World.size_alloc]; have := h1.size; omega) (All.own_base hs)
def Gives (bs : List UInt8) (w : World) (e : Ending) (w' : World) : Prop := ∃ v u, e = .returned (.tuple #[v, u]) ∧ w'.ownsRow w.heap.size 3 1 v (syms bs).length ((syms bs).map n64) ∧
  w'.ownsRow w.heap.size 3 1 u (starts bs).length ((starts bs).map n64) ∧ Below w.heap.size w w'
set_option maxRecDepth 100000 in
set_option maxHeartbeats 2000000 in
theorem ref_all (bs : List UInt8) (A : Option Addr) (cap : Nat) (w : World) (hlen : bs.length ≤ 1099511627776) (hcap : bs.length ≤ cap) (hm : cap ≤ 9223372036854775807)
    (hr : Reads w w.heap.size 1 A bs.length (bs.map u8)) :
    Calls Tryd.prog 10 #[.slice A bs.length cap] w (Gives bs w) := by
  obtain ⟨i0, hi, hz0, hz1, hz2⟩ := info_parts All.info_int
  have HR := hide hr
  clear hr
  go_enter Tryd.func10, Tryd.ntmps10
  go_wp2
  go_loopw [4, 5, 6] (fun o s i wr => Rel bs w o s i wr) (fun _ _ i _ => bs.length - (intOf i).toNat)
  case atStart => exact ⟨0, [], rfl, Nat.zero_le _, rfl, World.ownsRow_nil _ _ _ _, World.ownsRow_nil _ _ _ _, .inl rfl, .inl rfl, Below.refl _ _⟩
  case round =>
    obtain ⟨k, pre, rfl, hk, hpre, ho, hs, ha, hb, hB⟩ := hrel
    have hpl : pre.length + (from_ bs k).length ≤ bs.length := by have := len_le bs; rw [← hpre, List.length_append] at this; exact this
    have HPL := hide hpl
    have hBz := hB.size
    by_cases hlt : k < bs.length
    · have hps : pre.length + 1 ≤ bs.length := by rw [from_lt hlt, List.length_cons] at hpl; omega
      have hmx : pre.length + 1 ≤ maxLen := by unfold maxLen; omega
      have HP := hide hpre
      have HA := hide ha
      have HAb := hide hb
      have HB := hide hB
      clear hpre hpl ha hb hB
      have hsz2 := at_size bs hlt
      have htop := at_top bs k
      have hfr := hide (from_lt hlt)
      have HC := hide (ref_at bs w.heap.size k cap A wr hlt (by omega) ((unhide HR).below (unhide HB)))
      generalize at_ bs k = xm at *
      obtain ⟨x, m⟩ := xm
      simp only [] at hsz2 htop hfr
      go_wp2_with fail
      refine (unhide HC).mono ?_
      rintro e w1 ⟨rfl, rfl⟩
      clear HC
      go_wp2_with (first | (at_builtin; refine wpList_append_any _ rfl (.tmp 19) (.tmp 21) 24 rfl w.heap.size 3 i0 (.int .i64 0) 1 8 Tryd.underlying24 hi hz0 hz1 hz2 rfl (by decide) _ pre.length _ rfl (ho.alloc _) _ _ 1 1 [.int .i64 (x : Int)] rfl (reads_one _ _ _) (by simp [Value.oneCell']) hmx (by omega) (by rw [World.size_alloc]; omega) ?_; intro o' w2 ho' hg1 hn1; have HO := hide ho'; have HG := hide hg1; have HN := hide hn1; have hs1 := (hs.alloc _).kept hg1 (unhide HAb); have hsz3 := hg1.size; rw [World.size_alloc] at hsz3; clear ho' hg1 hn1) | (at_builtin; refine wpList_append_any _ rfl (.tmp 23) (.tmp 25) 24 rfl w.heap.size 3 i0 (.int .i64 0) 1 8 Tryd.underlying24 hi hz0 hz1 hz2 rfl (by decide) _ pre.length _ rfl (hs1.alloc _) _ _ 1 1 [.int .i64 (k : Int)] rfl (reads_one _ _ _) (by simp [Value.oneCell']) hmx (by omega) (by rw [World.size_alloc]; omega) ?_; intro s' w3 hs' hg2 hn2; have HS2 := hide hs'; have HG2 := hide hg2; have HN2 := hide hn2; clear hs' hg2 hn2))
      go_roundw
      case rel => exact rel_step (unhide hfr) hsz2.2.2 (unhide HP) ho hs (unhide HA) (unhide HAb) (unhide HB) (unhide HO) (unhide HG) (unhide HN) (unhide HS2) (unhide HG2) (unhide HN2)
      case measure => simp [intOf]; omega
    · obtain rfl : k = bs.length := by omega
      have hall : pre = from_ bs 0 := by rw [from_ge (Nat.le_refl _)] at hpre; simpa using hpre
      have HALL := hide hall
      have HB := hide hB
      have HO := hide ho
      have HAo := hide ha
      have hps : pre.length ≤ bs.length := by omega
      have hmx : pre.length + 1 ≤ maxLen := by unfold maxLen; omega
      clear hall hpre hB ho ha
      go_wp2_with (at_builtin; refine wpList_append_any _ rfl (.tmp 31) (.tmp 33) 24 rfl w.heap.size 3 i0 (.int .i64 0) 1 8 Tryd.underlying24 hi hz0 hz1 hz2 rfl (by decide) _ pre.length _ rfl (hs.alloc _) _ _ 1 1 [.int .i64 (bs.length : Int)] rfl (reads_one _ _ _) (by simp [Value.oneCell']) hmx (by omega) (by rw [World.size_alloc]; omega) ?_; intro s' w2 hs' hg1 hn1)
      go_ret2
      have ho1 := ((unhide HO).alloc (.cells #[.int .i64 (bs.length : Int)] 3)).kept hg1 (unhide HAo)
      have e := unhide HALL
      refine ⟨_, _, rfl, ?_, ?_, ?_⟩
      · simpa [syms, e] using ho1
      · simpa [starts, begins, e] using hs'
      · exact ((unhide HB).alloc (unhide HB).size _).grown hg1 (by rw [World.size_alloc]; omega) (All.own_base hs)
end Go.Proofs.YtdeaaidbmneplaaDoor.RefAll
