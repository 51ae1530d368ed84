/-
  Same, walked: are two states the same? Conditions: their places lie in memory.
-/
import Derived.Test.YtcajhkcopfabpaaDoorMEvCaps
import Derived.Deep.RegionHeld3
set_option linter.unusedSimpArgs false
set_option linter.unusedVariables false
namespace Go.Proofs.YtcajhkcopfabpaaDoor.Ev
open Go.RowKit Go.Proofs.YtcajhkcopfabpaaDoor.Mem
structure SM (a b : St) (A B : Option Addr) (ca cb : Nat) (w wx : World) : Prop where
  boxA : Blk wx w.heap.size 24 #[.int .i64 a.kind, .int .i64 a.node, .int .i64 a.phase, .int .i64 a.pos, .int .i64 a.start, .int .i64 a.depth, .int .i64 a.origin, .slice A a.caps.length ca]
  boxB : Blk wx (w.heap.size + 1) 24 #[.int .i64 b.kind, .int .i64 b.node, .int .i64 b.phase, .int .i64 b.pos, .int .i64 b.start, .int .i64 b.depth, .int .i64 b.origin, .slice B b.caps.length cb]
  cA : CV a.caps A ca wx
  cB : CV b.caps B cb wx
  bel : Below w.heap.size w wx
theorem SM.below {a b : St} {A B : Option Addr} {ca cb : Nat} {w wx wy : World} (h : SM a b A B ca cb w wx) (hb : Below wx.heap.size wx wy) : SM a b A B ca cb w wy :=
  ⟨h.boxA.below hb h.boxA.lt, h.boxB.below hb h.boxB.lt, h.cA.below hb, h.cB.below hb, h.bel.trans (hb.mono h.bel.size)⟩
theorem SM.held {a b : St} {A B : Option Addr} {ca cb : Nat} {w wx : World} (h : SM a b A B ca cb w wx) : Hid (SM a b A B ca cb w wx) ∧ wx.cell? ⟨w.heap.size, 0, none⟩ = some (.int .i64 a.kind) ∧ wx.cell? ⟨w.heap.size, 1, none⟩ = some (.int .i64 a.node) ∧ wx.cell? ⟨w.heap.size, 2, none⟩ = some (.int .i64 a.phase) ∧ wx.cell? ⟨w.heap.size, 3, none⟩ = some (.int .i64 a.pos) ∧ wx.cell? ⟨w.heap.size, 4, none⟩ = some (.int .i64 a.start) ∧ wx.cell? ⟨w.heap.size, 5, none⟩ = some (.int .i64 a.depth) ∧ wx.cell? ⟨w.heap.size, 6, none⟩ = some (.int .i64 a.origin) ∧ wx.cell? ⟨w.heap.size, 7, none⟩ = some (.slice A a.caps.length ca) ∧ wx.cell? ⟨w.heap.size + 1, 0, none⟩ = some (.int .i64 b.kind) ∧ wx.cell? ⟨w.heap.size + 1, 1, none⟩ = some (.int .i64 b.node) ∧ wx.cell? ⟨w.heap.size + 1, 2, none⟩ = some (.int .i64 b.phase) ∧ wx.cell? ⟨w.heap.size + 1, 3, none⟩ = some (.int .i64 b.pos) ∧ wx.cell? ⟨w.heap.size + 1, 4, none⟩ = some (.int .i64 b.start) ∧ wx.cell? ⟨w.heap.size + 1, 5, none⟩ = some (.int .i64 b.depth) ∧ wx.cell? ⟨w.heap.size + 1, 6, none⟩ = some (.int .i64 b.origin) ∧ wx.cell? ⟨w.heap.size + 1, 7, none⟩ = some (.slice B b.caps.length cb) :=
  ⟨hide h, h.boxA.cell 0, h.boxA.cell 1, h.boxA.cell 2, h.boxA.cell 3, h.boxA.cell 4, h.boxA.cell 5, h.boxA.cell 6, h.boxA.cell 7, h.boxB.cell 0, h.boxB.cell 1, h.boxB.cell 2, h.boxB.cell 3, h.boxB.cell 4, h.boxB.cell 5, h.boxB.cell 6, h.boxB.cell 7⟩
theorem SM.new (a b : St) (A B : Option Addr) (ca cb : Nat) (w : World) (hA : CV a.caps A ca w) (hB : CV b.caps B cb w) : SM a b A B ca cb w ((w.alloc (.cells #[.int .i64 a.kind, .int .i64 a.node, .int .i64 a.phase, .int .i64 a.pos, .int .i64 a.start, .int .i64 a.depth, .int .i64 a.origin, .slice A a.caps.length ca] 24)).alloc (.cells #[.int .i64 b.kind, .int .i64 b.node, .int .i64 b.phase, .int .i64 b.pos, .int .i64 b.start, .int .i64 b.depth, .int .i64 b.origin, .slice B b.caps.length cb] 24)) := by
  have hW : Below w.heap.size w ((w.alloc (.cells #[.int .i64 a.kind, .int .i64 a.node, .int .i64 a.phase, .int .i64 a.pos, .int .i64 a.start, .int .i64 a.depth, .int .i64 a.origin, .slice A a.caps.length ca] 24)).alloc (.cells #[.int .i64 b.kind, .int .i64 b.node, .int .i64 b.phase, .int .i64 b.pos, .int .i64 b.start, .int .i64 b.depth, .int .i64 b.origin, .slice B b.caps.length cb] 24)) := (below_box w _).alloc (by simp) _
  have bB := Blk.new (w.alloc (.cells #[.int .i64 a.kind, .int .i64 a.node, .int .i64 a.phase, .int .i64 a.pos, .int .i64 a.start, .int .i64 a.depth, .int .i64 a.origin, .slice A a.caps.length ca] 24)) 24 #[.int .i64 b.kind, .int .i64 b.node, .int .i64 b.phase, .int .i64 b.pos, .int .i64 b.start, .int .i64 b.depth, .int .i64 b.origin, .slice B b.caps.length cb]
  rw [World.size_alloc] at bB
  exact ⟨(Blk.new w 24 _).alloc _, bB, hA.below hW, hB.below hW, hW⟩
def numsE (a b : St) : Bool := decide (a.kind = b.kind ∧ a.node = b.node ∧ a.phase = b.phase ∧ a.pos = b.pos ∧ a.start = b.start ∧ a.depth = b.depth ∧ a.origin = b.origin)
def sameB (a b : St) : Bool := numsE a b && decide (a.caps = b.caps)
section
attribute [local go_sem] eqIn_seven guard_seven
set_option maxRecDepth 100000 in
set_option maxHeartbeats 4000000 in
theorem same_yes (a b : St) (A B : Option Addr) (ca cb : Nat) (w : World) (hA : CV a.caps A ca w) (hB : CV b.caps B cb w) (hq : numsE a b = true) :
    Calls Tryd.prog 12 #[.agg #[.int .i64 a.kind, .int .i64 a.node, .int .i64 a.phase, .int .i64 a.pos, .int .i64 a.start, .int .i64 a.depth, .int .i64 a.origin, .slice A a.caps.length ca], .agg #[.int .i64 b.kind, .int .i64 b.node, .int .i64 b.phase, .int .i64 b.pos, .int .i64 b.start, .int .i64 b.depth, .int .i64 b.origin, .slice B b.caps.length cb]] w fun e w' => e = .returned (.bool (sameB a b)) ∧ Below w.heap.size w w' := by
  have HE := hide (show sameB a b = decide (a.caps = b.caps) by unfold sameB; rw [hq]; simp)
  have HS0 := hide (SM.new a b A B ca cb w hA hB)
  have CA := hide (fun W => nums_any a A a.caps.length ca W)
  have CB := hide (fun W => nums_any b B b.caps.length cb W)
  have CE := hide (fun W (h : SM a b A B ca cb w W) => equal_any a.caps b.caps A B ca cb W h.cA h.cB)
  unfold numsE at hq
  clear hA hB
  go_enter Tryd.func12, Tryd.ntmps12
  go_wp2_with fail
  go_region_held3 (fun wx => Hid (SM a b A B ca cb w wx) ∧ wx.cell? ⟨w.heap.size, 0, none⟩ = some (.int .i64 a.kind) ∧ wx.cell? ⟨w.heap.size, 1, none⟩ = some (.int .i64 a.node) ∧ wx.cell? ⟨w.heap.size, 2, none⟩ = some (.int .i64 a.phase) ∧ wx.cell? ⟨w.heap.size, 3, none⟩ = some (.int .i64 a.pos) ∧ wx.cell? ⟨w.heap.size, 4, none⟩ = some (.int .i64 a.start) ∧ wx.cell? ⟨w.heap.size, 5, none⟩ = some (.int .i64 a.depth) ∧ wx.cell? ⟨w.heap.size, 6, none⟩ = some (.int .i64 a.origin) ∧ wx.cell? ⟨w.heap.size, 7, none⟩ = some (.slice A a.caps.length ca) ∧ wx.cell? ⟨w.heap.size + 1, 0, none⟩ = some (.int .i64 b.kind) ∧ wx.cell? ⟨w.heap.size + 1, 1, none⟩ = some (.int .i64 b.node) ∧ wx.cell? ⟨w.heap.size + 1, 2, none⟩ = some (.int .i64 b.phase) ∧ wx.cell? ⟨w.heap.size + 1, 3, none⟩ = some (.int .i64 b.pos) ∧ wx.cell? ⟨w.heap.size + 1, 4, none⟩ = some (.int .i64 b.start) ∧ wx.cell? ⟨w.heap.size + 1, 5, none⟩ = some (.int .i64 b.depth) ∧ wx.cell? ⟨w.heap.size + 1, 6, none⟩ = some (.int .i64 b.origin) ∧ wx.cell? ⟨w.heap.size + 1, 7, none⟩ = some (.slice B b.caps.length cb))
    (first | exact SM.held (unhide HS3) | exact SM.held (unhide HS2) | exact SM.held (unhide HS1) | exact SM.held ((unhide HS0).below (Below.refl _ _).drew))
    (first | (go_at_call_of 15 (St.kind a); have hS := (show Hid (SM a b A B ca cb w _) ∧ _ by assumption).1; refine ((unhide CA) _).mono ?_; rintro e w1 ⟨rfl, hb1⟩; have HS1 := hide ((unhide hS).below hb1); clear hb1 hS) | (go_at_call_of 15 (St.kind b); have hS := (show Hid (SM a b A B ca cb w _) ∧ _ by assumption).1; refine ((unhide CB) _).mono ?_; rintro e w2 ⟨rfl, hb2⟩; have HS2 := hide ((unhide hS).below hb2); clear hb2 hS) | (go_at_call 20; have hS := (show Hid (SM a b A B ca cb w _) ∧ _ by assumption).1; refine ((unhide CE) _ (unhide hS)).mono ?_; rintro e w3 ⟨rfl, hb3⟩; have HS3 := hide ((unhide hS).below hb3); clear hb3 hS))
  all_goals
    go_wp2_with fail
    go_ret
    exact ⟨ret_b (unhide HE).symm, (unhide HS3).bel⟩
set_option maxRecDepth 100000 in
set_option maxHeartbeats 4000000 in
theorem same_not (a b : St) (A B : Option Addr) (ca cb : Nat) (w : World) (hA : CV a.caps A ca w) (hB : CV b.caps B cb w) (hq : numsE a b = false) :
    Calls Tryd.prog 12 #[.agg #[.int .i64 a.kind, .int .i64 a.node, .int .i64 a.phase, .int .i64 a.pos, .int .i64 a.start, .int .i64 a.depth, .int .i64 a.origin, .slice A a.caps.length ca], .agg #[.int .i64 b.kind, .int .i64 b.node, .int .i64 b.phase, .int .i64 b.pos, .int .i64 b.start, .int .i64 b.depth, .int .i64 b.origin, .slice B b.caps.length cb]] w fun e w' => e = .returned (.bool (sameB a b)) ∧ Below w.heap.size w w' := by
  have HE := hide (show sameB a b = false by unfold sameB; rw [hq]; simp)
  have HS0 := hide (SM.new a b A B ca cb w hA hB)
  have CA := hide (fun W => nums_any a A a.caps.length ca W)
  have CB := hide (fun W => nums_any b B b.caps.length cb W)
  have CE := hide (fun W (h : SM a b A B ca cb w W) => equal_any a.caps b.caps A B ca cb W h.cA h.cB)
  unfold numsE at hq
  clear hA hB
  go_enter Tryd.func12, Tryd.ntmps12
  go_wp2_with fail
  refine wp_region_noPanic ?_
  refine wp_region_held_drew (S := (fun wx => Hid (SM a b A B ca cb w wx) ∧ wx.cell? ⟨w.heap.size, 0, none⟩ = some (.int .i64 a.kind) ∧ wx.cell? ⟨w.heap.size, 1, none⟩ = some (.int .i64 a.node) ∧ wx.cell? ⟨w.heap.size, 2, none⟩ = some (.int .i64 a.phase) ∧ wx.cell? ⟨w.heap.size, 3, none⟩ = some (.int .i64 a.pos) ∧ wx.cell? ⟨w.heap.size, 4, none⟩ = some (.int .i64 a.start) ∧ wx.cell? ⟨w.heap.size, 5, none⟩ = some (.int .i64 a.depth) ∧ wx.cell? ⟨w.heap.size, 6, none⟩ = some (.int .i64 a.origin) ∧ wx.cell? ⟨w.heap.size, 7, none⟩ = some (.slice A a.caps.length ca) ∧ wx.cell? ⟨w.heap.size + 1, 0, none⟩ = some (.int .i64 b.kind) ∧ wx.cell? ⟨w.heap.size + 1, 1, none⟩ = some (.int .i64 b.node) ∧ wx.cell? ⟨w.heap.size + 1, 2, none⟩ = some (.int .i64 b.phase) ∧ wx.cell? ⟨w.heap.size + 1, 3, none⟩ = some (.int .i64 b.pos) ∧ wx.cell? ⟨w.heap.size + 1, 4, none⟩ = some (.int .i64 b.start) ∧ wx.cell? ⟨w.heap.size + 1, 5, none⟩ = some (.int .i64 b.depth) ∧ wx.cell? ⟨w.heap.size + 1, 6, none⟩ = some (.int .i64 b.origin) ∧ wx.cell? ⟨w.heap.size + 1, 7, none⟩ = some (.slice B b.caps.length cb))) (by kernel_rfl) (SM.held ((unhide HS0).below (Below.refl _ _).drew)) (fun hH0 => ?_)
  refine wpAnyH_take (i := 0) (oi := { dst := some 5, op := _, type := _, pos := _, after := _, guard := _ }) (v := ?v0) rfl (by kernel_rfl) (by kernel_rfl) (by kernel_rfl) (fun _ _ _ h => h) (Or.inl ⟨by rfl, ?y0⟩) hH0 ?r0
  case y0 => (intro w hSw; (try dsimp only at hSw); go_simp; try with_reducible rfl)
  try simp only [Act.put, List.setIfInBounds_toArray, List.set_cons_zero, List.set_cons_succ]
  refine wpAnyH_take (i := 2) (oi := { dst := some 7, op := _, type := _, pos := _, after := _, guard := _ }) (v := ?v2) rfl (by kernel_rfl) (by kernel_rfl) (by kernel_rfl) (fun _ _ _ h => h) (Or.inl ⟨by rfl, ?y2⟩) hH0 ?r2
  case y2 => (intro w hSw; (try dsimp only at hSw); go_simp; try with_reducible rfl)
  try simp only [Act.put, List.setIfInBounds_toArray, List.set_cons_zero, List.set_cons_succ]
  refine wpAnyH_ready (rs := [1]) (by kernel_rfl) (by simp) ?_
  refine AllReadyH.cons (o := { dst := some 6, op := _, type := _, pos := _, after := _, guard := _ }) rfl (fun K hK => ?_) AllReadyH.nil
  go_simp
  refine ((unhide CA) _).mono ?_
  rintro e w1 ⟨rfl, hb1⟩
  have HS1 := hide ((unhide hH0.1).below hb1)
  clear hb1
  refine hK.out _ _ (SM.held (unhide HS1)) (fun hH1 => ?_)
  clear hK K
  try simp only [Act.put, List.setIfInBounds_toArray, List.set_cons_zero, List.set_cons_succ]
  refine wpAnyH_ready (rs := [3]) (by kernel_rfl) (by simp) ?_
  refine AllReadyH.cons (o := { dst := some 8, op := _, type := _, pos := _, after := _, guard := _ }) rfl (fun K hK => ?_) AllReadyH.nil
  go_simp
  refine ((unhide CB) _).mono ?_
  rintro e w2 ⟨rfl, hb2⟩
  have HS2 := hide ((unhide HS1).below hb2)
  clear hb2
  refine hK.out _ _ (SM.held (unhide HS2)) (fun hH2 => ?_)
  clear hK K
  try simp only [Act.put, List.setIfInBounds_toArray, List.set_cons_zero, List.set_cons_succ]
  refine wpAnyH_take (i := 4) (oi := { dst := some 9, op := _, type := _, pos := _, after := _, guard := _ }) (v := ?v4) rfl (by kernel_rfl) (by kernel_rfl) (by kernel_rfl) (fun _ _ _ h => h) (Or.inl ⟨by rfl, ?y4⟩) hH2 ?r4
  case y4 => (intro w hSw; (try dsimp only at hSw); go_simp; try with_reducible rfl)
  try simp only [Act.put, List.setIfInBounds_toArray, List.set_cons_zero, List.set_cons_succ]
  refine wpAnyH_take (i := 5) (oi := { dst := some 10, op := _, type := _, pos := _, after := _, guard := _ }) (v := ?v5) rfl (by kernel_rfl) (by kernel_rfl) (by kernel_rfl) (fun _ _ _ h => h) (Or.inl ⟨by rfl, ?y5⟩) hH2 ?r5
  case y5 => (intro w hSw; (try dsimp only at hSw); go_simp; try with_reducible rfl)
  try simp only [Act.put, List.setIfInBounds_toArray, List.set_cons_zero, List.set_cons_succ]
  refine wpAnyH_take (i := 6) (oi := { dst := some 11, op := _, type := _, pos := _, after := _, guard := _ }) (v := undef) rfl (by kernel_rfl) (by kernel_rfl) (by kernel_rfl) (fun _ _ _ h => h) (Or.inr ⟨by rfl, rfl⟩) hH2 ?r6
  try simp only [Act.put, List.setIfInBounds_toArray, List.set_cons_zero, List.set_cons_succ]
  refine wpAnyH_take (i := 7) (oi := { dst := some 12, op := _, type := _, pos := _, after := _, guard := _ }) (v := undef) rfl (by kernel_rfl) (by kernel_rfl) (by kernel_rfl) (fun _ _ _ h => h) (Or.inr ⟨by rfl, rfl⟩) hH2 ?r7
  try simp only [Act.put, List.setIfInBounds_toArray, List.set_cons_zero, List.set_cons_succ]
  refine wpAnyH_take (i := 8) (oi := { dst := some 13, op := _, type := _, pos := _, after := _, guard := _ }) (v := undef) rfl (by kernel_rfl) (by kernel_rfl) (by kernel_rfl) (fun _ _ _ h => h) (Or.inr ⟨by rfl, rfl⟩) hH2 ?r8
  try simp only [Act.put, List.setIfInBounds_toArray, List.set_cons_zero, List.set_cons_succ]
  refine wpAnyH_take (i := 9) (oi := { dst := some 14, op := _, type := _, pos := _, after := _, guard := _ }) (v := undef) rfl (by kernel_rfl) (by kernel_rfl) (by kernel_rfl) (fun _ _ _ h => h) (Or.inr ⟨by rfl, rfl⟩) hH2 ?r9
  try simp only [Act.put, List.setIfInBounds_toArray, List.set_cons_zero, List.set_cons_succ]
  refine wpAnyH_take (i := 10) (oi := { dst := some 15, op := _, type := _, pos := _, after := _, guard := _ }) (v := undef) rfl (by kernel_rfl) (by kernel_rfl) (by kernel_rfl) (fun _ _ _ h => h) (Or.inr ⟨by rfl, rfl⟩) hH2 ?r10
  try simp only [Act.put, List.setIfInBounds_toArray, List.set_cons_zero, List.set_cons_succ]
  refine wpAnyH_take (i := 11) (oi := { dst := some 16, op := _, type := _, pos := _, after := _, guard := _ }) (v := ?v11) rfl (by kernel_rfl) (by kernel_rfl) (by kernel_rfl) (fun _ _ _ h => h) (Or.inl ⟨by rfl, ?y11⟩) hH2 ?r11
  case y11 => (intro w hSw; (try dsimp only at hSw); go_simp; try with_reducible rfl)
  try simp only [Act.put, List.setIfInBounds_toArray, List.set_cons_zero, List.set_cons_succ]
  refine wpAnyH_take (i := 12) (oi := { dst := some 4, op := _, type := _, pos := _, after := _, guard := _ }) (v := ?v12) rfl (by kernel_rfl) (by kernel_rfl) (by kernel_rfl) (fun _ _ _ h => h) (Or.inl ⟨by rfl, ?y12⟩) hH2 ?r12
  case y12 => (intro w hSw; (try dsimp only at hSw); go_simp; try with_reducible rfl)
  try simp only [Act.put, List.setIfInBounds_toArray, List.set_cons_zero, List.set_cons_succ]
  refine wpAnyH_done (by kernel_rfl) ?_ _
  refine NoPanic.normal ?_
  go_wp2_with fail
  go_ret
  exact ⟨ret_b (unhide HE).symm, (unhide HS2).bel⟩
end
theorem same_any (a b : St) (A B : Option Addr) (ca cb : Nat) (w : World) (hA : CV a.caps A ca w) (hB : CV b.caps B cb w) :
    Calls Tryd.prog 12 #[.agg #[.int .i64 a.kind, .int .i64 a.node, .int .i64 a.phase, .int .i64 a.pos, .int .i64 a.start, .int .i64 a.depth, .int .i64 a.origin, .slice A a.caps.length ca], .agg #[.int .i64 b.kind, .int .i64 b.node, .int .i64 b.phase, .int .i64 b.pos, .int .i64 b.start, .int .i64 b.depth, .int .i64 b.origin, .slice B b.caps.length cb]] w fun e w' => e = .returned (.bool (sameB a b)) ∧ Below w.heap.size w w' := by
  cases hq : numsE a b with
  | true => exact same_yes a b A B ca cb w hA hB hq
  | false => exact same_not a b A B ca cb w hA hB hq
end Go.Proofs.YtcajhkcopfabpaaDoor.Ev
