/-
  Is just one of the symbols on both sides of a place a word's: the program's edge, and the reference's word, wa
-/
import Derived.Test.YtdeaaidbmneplaaDoorMTxSmall
import Derived.Test.YtdeaaidbmneplaaDoorMClProg
import Derived.Test.YtdeaaidbmneplaaDoorMClHas
import Derived.Test.YtdeaaidbmneplaaDoorMFoHas
import Derived.Test.YtdeaaidbmneplaaDoorMSymUtf
import Derived.Deep.RegionHeld3
set_option linter.unusedSimpArgs false
set_option linter.unusedVariables false
namespace Go.Proofs.YtdeaaidbmneplaaDoor.Tx
open Go.RowKit Go.Proofs.YtdeaaidbmneplaaDoor.Mem
structure Tl (w : World) : Prop where
  tabs : Utf.Tabs w
  sets : Cl.Tb w
  rows : ∃ b off cap, Fo.Tab b off cap w
theorem Tl.below {w w' : World} (h : Tl w) (hb : Below w.heap.size w w') : Tl w' where
  tabs := h.tabs.below hb (Nat.le_refl _)
  sets := h.sets.below hb
  rows := by
    obtain ⟨b, off, cap, h⟩ := h.rows
    exact ⟨b, off, cap, h.below hb (Nat.le_refl _)⟩
structure EB (l : List Int) (A : Option Addr) (cap : Nat) (w wx : World) : Prop where
  sv : SV l A cap wx
  tl : Tl wx
  box : Blk wx w.heap.size 26 #[.slice A l.length cap]
  bel : Below w.heap.size w wx
theorem EB.below {l : List Int} {A : Option Addr} {cap : Nat} {w wx wy : World} (h : EB l A cap w wx) (hb : Below wx.heap.size wx wy) : EB l A cap w wy :=
  ⟨h.sv.below hb, h.tl.below hb, h.box.below hb h.box.lt, h.bel.trans (hb.mono h.bel.size)⟩
theorem EB.held {l : List Int} {A : Option Addr} {cap : Nat} {w wx : World} (h : EB l A cap w wx) : Hid (EB l A cap w wx) ∧ wx.cell? ⟨w.heap.size, 0, none⟩ = some (.slice A l.length cap) := ⟨hide h, h.box.cell 0⟩
theorem EB.new {l : List Int} {A : Option Addr} {cap : Nat} {w : World} (h : SV l A cap w) (hT : Tl w) : EB l A cap w (w.alloc (.cells #[.slice A l.length cap] 26)) :=
  ⟨h.below (below_box _ _), hT.below (below_box _ _), Blk.new _ _ _, below_box _ _⟩
set_option maxRecDepth 100000 in
set_option maxHeartbeats 2000000 in
theorem edge_any (l : List Int) (A : Option Addr) (cap : Nat) (k : Int) (w : World) (hS : SV l A cap w) (hT : Tl w) (hk : 0 ≤ k ∧ k ≤ 100000) :
    Calls Tryd.prog 26 #[.agg #[.slice A l.length cap], .int .i64 k] w fun e w' => e = .returned (.bool (wordZ (atZ l (k - 1)) != wordZ (atZ l k))) ∧ Below w.heap.size w w' := by
  have HS := hide (EB.new hS hT)
  have CA := hide (fun W x (h : EB l A cap w W) => (at_any l A cap x W h.sv).mono (R' := fun e w' => e = .returned (.int .i64 (atZ l x)) ∧ EB l A cap w w') fun e w' h2 => ⟨h2.1, h.below h2.2⟩)
  have CW := hide (fun W x (h : EB l A cap w W) => (Cl.word_any x W h.tl.sets).mono (R' := fun e w' => e = .returned (.bool (wordZ x)) ∧ EB l A cap w w') fun e w' h2 => ⟨h2.1, h.below h2.2⟩)
  obtain ⟨hk0, hk1⟩ := hk
  have hwr : IntKind.i64.wrap (k - 1) = k - 1 := Rs.wrap_id _ (by omega) (by omega)
  clear hS hT
  go_enter Tryd.func26, Tryd.ntmps26
  go_wp2_with fail
  generalize w.alloc (.cells #[.slice A l.length cap] 26) = X at *
  go_region_held3 (fun wx => Hid (EB l A cap w wx) ∧ wx.cell? ⟨w.heap.size, 0, none⟩ = some (.slice A l.length cap))
    (first | exact EB.held (unhide HS3) | exact EB.held ((unhide HS).below (Below.refl _ _).drew) | go_keep)
    (first | (go_at_call 13; have hS := (show Hid (EB l A cap w _) ∧ _ by assumption).1; refine ((unhide CA) _ _ (unhide hS)).mono ?_; rintro e w3 ⟨rfl, hs3⟩; have HS3 := hide hs3; clear hs3 hS) | (go_at_call 36; have hS := (show Hid (EB l A cap w _) ∧ _ by assumption).1; refine ((unhide CW) _ _ (unhide hS)).mono ?_; rintro e w3 ⟨rfl, hs3⟩; have HS3 := hide hs3; clear hs3 hS))
  all_goals
    go_wp2
    go_ret
    exact ⟨rfl, (unhide HS3).bel⟩
set_option maxHeartbeats 1000000 in
theorem rword_any (l : List Int) (A : Option Addr) (cap : Nat) (k : Int) (w : World) (hS : SV l A cap w) :
    Calls Tryd.prog 27 #[.slice A l.length cap, .int .i64 k] w fun e w' => e = .returned (.bool (wordZ (atZ l k))) ∧ Below w.heap.size w w' := by
  have C := hide (rat_any l A cap k w hS)
  clear hS
  go_enter Tryd.func27, Tryd.ntmps27
  go_wp2_with fail
  refine (unhide C).mono ?_
  rintro e w1 ⟨rfl, hw1⟩
  obtain rfl : _ = w1 := hw1.symm
  have HW := hide (wordZ_ref (atZ l k))
  go_wp2_with fail
  refine (Cl.has_any [119, 111, 114, 100] (atZ l k) _).mono ?_
  rintro e w2 ⟨rfl, hB⟩
  have HB := hide hB
  clear hB C
  generalize Cl.hasP [119, 111, 114, 100] (atZ l k) = p at *
  go_wp2
  go_ret
  exact ⟨ret_b (unhide HW), unhide HB⟩
end Go.Proofs.YtdeaaidbmneplaaDoor.Tx
