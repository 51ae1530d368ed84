/-
  sym.Bytes, and the reference's Put, walked: the bytes of symbols, one behind the other, if all are symbols.
-/
import Derived.Test.YtdeaaidbmneplaaDoorMSymPut
set_option linter.unusedSimpArgs false
set_option linter.unusedVariables false
namespace Go.Proofs.YtdeaaidbmneplaaDoor.Put
open Go.RowKit Go.Proofs.YtdeaaidbmneplaaDoor.Sy Go.Proofs.YtdeaaidbmneplaaDoor.Mem
theorem encs_snoc (l : List Int) (x : Int) : encs (l ++ [x]) = encs l ++ encZ x := by simp [encs]
theorem encs_len (l : List Int) : (encs l).length ≤ 4 * l.length := by
  induction l with
  | nil => simp [encs]
  | cons x l ih => have := encZ_len x; simp [encs] at ih ⊢; omega
def AllS (l : List Int) : Prop := ∀ x ∈ l, isS x = true
def Post (zs : List Int) (w : World) (e : Ending) (w' : World) : Prop :=
  (AllS zs → ∃ v, e = .returned (.tuple #[v, .int .i64 0]) ∧ Row (encs zs) w v w') ∧ (¬ AllS zs → e = .returned (.tuple #[.slice none 0 0, .int .i64 10]) ∧ Below w.heap.size w w')
def Rel (zs : List Int) (w : World) (b i : Value) (wr : World) : Prop :=
  ∃ k : Nat, i = .int .i64 k ∧ k ≤ zs.length ∧ AllS (zs.take k) ∧ Row (encs (zs.take k)) w b wr
theorem row_step {zs ys : List Int} {w wr w' : World} {b v' : Value} {o : Obj} (h : Row zs w b wr) (h1 : w'.ownsRow w.heap.size 5 1 v' (zs.length + ys.length) (zs.map (Value.int .u8) ++ ys.map (Value.int .u8))) (h2 : (wr.alloc o).grownBy w' b.ownBlock) : Row (zs ++ ys) w v' w' := by
  refine ⟨by simpa using h1, ?_⟩
  refine (h.2.alloc h.2.size o).grown h2 (by rw [World.size_alloc]; have := h.2.size; omega) ?_
  intro k hk
  rcases h.1.2 with ⟨rfl, _⟩ | ⟨g, cap, cur, rfl, hb, _, _⟩
  · simp [Value.ownBlock] at hk
  · obtain rfl : g = k := by simpa [Value.ownBlock] using hk
    exact hb
set_option maxHeartbeats 1000000 in
theorem bytes_none (A : Option Addr) (cap : Nat) (w : World) : Calls Tryd.prog 24 #[.slice A 0 cap] w (Post [] w) := by
  go_enter Tryd.func24, Tryd.ntmps24
  go_wp2
  go_loop [4, 9] (fun v i => v = .slice none 0 0 ∧ i = .int .i64 0) (fun _ _ => 0)
  case atStart => exact ⟨rfl, rfl⟩
  case round =>
    obtain ⟨rfl, rfl⟩ := hrel
    go_wp2
    go_ret2
    exact ⟨fun _ => ⟨_, rfl, World.ownsRow_nil _ _ _ _, Below.refl _ _⟩, fun h => absurd (fun x hx => by cases hx) h⟩
set_option maxHeartbeats 1000000 in
theorem bytes_flat (zs : List Int) (b off cap : Nat) (w : World) (hlen : zs.length ≤ 100000) (hb : b < w.heap.size) (hc : ∀ j u, (zs.map i64)[j]? = some u → w.cell? ⟨b, off + j, none⟩ = some u) :
    Calls Tryd.prog 24 #[.slice (some ⟨b, off, none⟩) zs.length cap] w (Post zs w) := by
  have HC := hide hc
  have HLB := hide hb
  clear hc hb
  go_enter Tryd.func24, Tryd.ntmps24
  go_wp2
  go_loopw [4, 9] (fun v i wr => Rel zs w v i wr) (fun _ i _ => zs.length - (intOf i).toNat)
  case atStart => exact ⟨0, rfl, Nat.zero_le _, (fun x hx => by simp at hx), World.ownsRow_nil _ _ _ _, Below.refl _ _⟩
  case round =>
    obtain ⟨k, rfl, hk, hall, hrow⟩ := hrel
    by_cases hlt : k < zs.length
    · have hz := List.getElem?_eq_getElem hlt
      obtain ⟨z, hz2⟩ : ∃ z, zs[k] = z := ⟨_, rfl⟩
      rw [hz2] at hz
      have htk : zs.take (k + 1) = zs.take k ++ [z] := by rw [List.take_succ_eq_append_getElem hlt, hz2]
      have hmem : z ∈ zs := hz2 ▸ List.getElem_mem hlt
      have c1 : wr.cell? ⟨b, off + k, none⟩ = some (.int .i64 z) := (hrow.2.cell (p := ⟨b, off + k, none⟩) (unhide HLB)).trans ((unhide HC) k (i64 z) (by simp [hz]))
      have hen : (encs (zs.take k)).length ≤ 1099511627776 := by have := encs_len (zs.take k); have h2 : (zs.take k).length ≤ k := List.length_take_le _ _; omega
      have hlt' : (k : Int) < (zs.length : Int) := by omega
      have HROW := hide hrow
      have HALL := hide hall
      have HTK := hide htk
      have HMEM := hide hmem
      have HI := hide (Is.is_any z wr)
      clear hrow hall htk hmem hz hz2
      cases hs : isS z with
      | true =>
        rw [hs] at HI
        have HS := hide hs
        clear hs
        go_wp2_with fail
        refine (unhide HI).mono ?_
        rintro e w1 ⟨rfl, rfl⟩
        clear HI
        go_wp2_with fail
        refine (add_any w.heap.size _ _ _ z (unhide HS) w1 (unhide HROW).1 hen (unhide HROW).2.size).mono ?_
        rintro e w2 ⟨v', rfl, h1, o, h2⟩
        have HR := hide (row_step (unhide HROW) h1 h2)
        clear h1 h2
        go_wp2
        go_roundw
        case rel =>
          refine ⟨k + 1, by go_num, by omega, ?_, ?_⟩
          · rw [unhide HTK]; intro y hy
            rcases List.mem_append.1 hy with h | h
            · exact (unhide HALL) y h
            · rw [List.mem_singleton.1 h]; exact unhide HS
          · rw [unhide HTK, encs_snoc]; exact unhide HR
        case measure => simp [intOf]; omega
      | false =>
        rw [hs] at HI
        have HS := hide hs
        clear hs
        go_wp2_with fail
        refine (unhide HI).mono ?_
        rintro e w1 ⟨rfl, rfl⟩
        clear HI
        go_wp2
        go_ret2
        refine ⟨fun h => ?_, fun _ => ⟨rfl, (unhide HROW).2⟩⟩
        have := h z (unhide HMEM)
        rw [unhide HS] at this
        cases this
    · obtain rfl : k = zs.length := by omega
      have HROW := hide hrow
      have HALL := hide hall
      clear hrow hall
      go_wp2
      go_ret2
      have hr := unhide HROW
      have ha := unhide HALL
      rw [List.take_length] at hr ha
      exact ⟨fun _ => ⟨_, rfl, hr⟩, fun h => absurd ha h⟩
theorem bytes_any (zs : List Int) (B cap : Nat) (A : Option Addr) (w : World) (hlen : zs.length ≤ 100000) (h : Reads w B 1 A zs.length (zs.map i64)) :
    Calls Tryd.prog 24 #[.slice A zs.length cap] w (Post zs w) := by
  by_cases hn : zs.length = 0
  · rw [List.eq_nil_of_length_eq_zero hn]; exact bytes_none A cap w
  · obtain ⟨b, off, rfl, hb, hc⟩ := h.lt.flat (by omega)
    exact bytes_flat zs b off cap w hlen hb hc
end Go.Proofs.YtdeaaidbmneplaaDoor.Put
