/-
  The reference's Parent, walked: whose kid a number is, or -1. Conditions: the tree lies in memory.
-/
import Derived.Test.YtckgbalmpddblaaDoorAsRefEnd
set_option linter.unusedVariables false
set_option linter.unusedSimpArgs false
namespace Go.Proofs.YtckgbalmpddblaaDoor.As
open Go.RowKit Go.Proofs.YtckgbalmpddblaaDoor.Mem

def PRel (L : List Nd) (i : Int) (p : Value) : Prop := ∃ k : Nat, p = .int .i64 k ∧ k ≤ L.length ∧ parentN L i = par i (L.drop k) k
def KRel (ks : List Int) (i : Int) (p : Value) : Prop := ∃ k : Nat, p = .int .i64 k ∧ k ≤ ks.length ∧ ks.contains i = (ks.drop k).contains i

set_option maxRecDepth 100000 in
set_option maxHeartbeats 4000000 in
theorem parent_any (t : Tr) (v : Value) (B : Nat) (hlen : t.nodes.length ≤ 1000000) (i : Int) (w : World) (hB : B ≤ w.heap.size) (hT : TreeV w B t v) :
    Calls Tryd.prog 13 #[v, .int .i64 i] w fun e w' => e = .returned (.int .i64 (parentN t.nodes i)) ∧ Below w.heap.size w w' := by
  obtain ⟨a, c, rfl, ⟨A, cap, rfl, hc1, hc2, hn⟩, hns⟩ := hT
  have HN := hide hn
  have hblk := Blk.new w 29 #[.slice A t.nodes.length cap, .int .i64 t.groups, c]
  generalize hW : w.alloc (.cells #[.slice A t.nodes.length cap, .int .i64 t.groups, c] 29) = W at hblk
  have hbw : Below w.heap.size w W := by rw [← hW]; exact (Below.refl _ _).alloc (Nat.le_refl _) _
  have HBW := hide hbw
  have c0 := hblk.cell 0
  have HW := hide hW
  clear hn hns hblk hbw hW
  go_enter Tryd.func13, Tryd.ntmps13
  go_wp2_with fail
  rw [unhide HW]
  go_loop [5] (fun p => PRel t.nodes i p) (fun p => t.nodes.length - (intOf p).toNat)
  case atStart => exact ⟨0, rfl, by omega, rfl⟩
  case round =>
    obtain ⟨p, rfl, hp, he⟩ := hrel
    go_hideQ
    have HE := hide he
    clear he
    by_cases hlt : p < t.nodes.length
    · have hpi : (p : Int) < (t.nodes.length : Int) := by omega
      obtain ⟨nd, hnd⟩ : ∃ nd, t.nodes[p]? = some nd := ⟨_, List.getElem?_eq_getElem hlt⟩
      obtain ⟨b, off, rfl, hb, hcs⟩ := (unhide HN) (by omega)
      obtain ⟨_, _, _, _, _, _, _, _, _, kv, h9, Ak, kcap, rfl, hk1, hk2, hkr⟩ := hcs p nd hnd
      have c9 : W.cell? ⟨b, off + p * 10 + 9, none⟩ = some (.slice Ak nd.kids.length kcap) := ((unhide HBW).cell (p := ⟨b, off + p * 10 + 9, none⟩) (by show b < w.heap.size; omega)).trans h9
      have HKR := hide (hkr.keep (w' := W) fun q hq => (unhide HBW).cell (by omega))
      have HAT := hide (par_at (i := i) hnd)
      clear hcs h9 hkr hnd hb
      go_wp2_with fail
      go_loop [6] (fun k => KRel nd.kids i k) (fun k => nd.kids.length - (intOf k).toNat)
      case atStart => exact ⟨0, rfl, by omega, rfl⟩
      case round =>
        obtain ⟨k, rfl, hk, hc⟩ := hrel
        go_hideQ
        have HC := hide hc
        clear hc
        by_cases hkl : k < nd.kids.length
        · have hki : (k : Int) < (nd.kids.length : Int) := by omega
          obtain ⟨y, hy⟩ : ∃ y, nd.kids[k]? = some y := ⟨_, List.getElem?_eq_getElem hkl⟩
          obtain ⟨bk, ok, rfl, hbk, hck⟩ := (unhide HKR).flat (by omega)
          have cy : W.cell? ⟨bk, ok + k, none⟩ = some (.int .i64 y) := hck k (.int .i64 y) (by simp [hy])
          have HD := hide (has_drop (i := i) hy)
          clear hck hbk hy
          by_cases hyi : y = i
          · have hq : (y == i) = true := by simp [hyi]
            have HQ := hide hq
            clear hyi
            go_wp2_with fail
            go_ret
            refine ⟨ret_i ?_, unhide HBW⟩
            rw [unhide HE, unhide HAT, unhide HC, unhide HD, unhide HQ]
            rfl
          · have hq : (y == i) = false := by simp [hyi]
            have HQ := hide hq
            clear hyi
            go_wp2_with fail
            have hR : KRel nd.kids i (.int .i64 ((k : Int) + 1)) := ⟨k + 1, by go_num, by omega, by rw [unhide HC, unhide HD, unhide HQ]; rfl⟩
            exact ⟨hR, by simp [intOf]; omega⟩
        · have hki : (nd.kids.length : Int) ≤ (k : Int) := by omega
          have HF := hide (has_end (i := i) (ks := nd.kids) (k := k) (by omega))
          clear hkl
          go_wp2_with fail
          have hR : PRel t.nodes i (.int .i64 ((p : Int) + 1)) := ⟨p + 1, by go_num, by omega, by rw [unhide HE, unhide HAT, unhide HC, unhide HF]; rfl⟩
          exact ⟨hR, by simp [intOf]; omega⟩
    · have hpi : (t.nodes.length : Int) ≤ (p : Int) := by omega
      have HPE := hide (par_end (i := i) (L := t.nodes) (p := p) (by omega))
      clear hlt
      go_wp2_with fail
      go_ret
      exact ⟨ret_i (by rw [unhide HE, unhide HPE]), unhide HBW⟩
end Go.Proofs.YtckgbalmpddblaaDoor.As
