/-
  Node.same, walked: are two nodes the same, but for where they stand? Conditions: their ranges and kids lie in memory.
-/
import Derived.Test.YtckgbalmpddblaaDoorAsNums
import Derived.Deep.RegionHeld3
set_option linter.unusedVariables false
set_option linter.unusedSimpArgs false
namespace Go.Proofs.YtckgbalmpddblaaDoor.As
open Go.RowKit Go.Proofs.YtckgbalmpddblaaDoor.Mem Go.Proofs.YtckgbalmpddblaaDoor.Rs

attribute [local go_sem] eqIn_five guard_five
structure SMid (a b : Nd) (Sa Sb Ka Kb : Option Addr) (csa csb cka ckb : Nat) (w : World) (wx : World) : Prop where
  boxA : Blk wx w.heap.size 42 #[.int .i64 a.kind, .int .i64 a.from_, .int .i64 a.to_, .int .i64 a.num, .int .i64 a.mn, .int .i64 a.mx, .int .i64 a.mode, str a.name, .slice Sa a.set.length csa, .slice Ka a.kids.length cka]
  boxB : Blk wx (w.heap.size + 1) 42 #[.int .i64 b.kind, .int .i64 b.from_, .int .i64 b.to_, .int .i64 b.num, .int .i64 b.mn, .int .i64 b.mx, .int .i64 b.mode, str b.name, .slice Sb b.set.length csb, .slice Kb b.kids.length ckb]
  lsA : Lst wx w.heap.size Sa a.set
  lsB : Lst wx w.heap.size Sb b.set
  kA : Reads wx w.heap.size 1 Ka a.kids.length (a.kids.map Mem.i64)
  kB : Reads wx w.heap.size 1 Kb b.kids.length (b.kids.map Mem.i64)
  bel : Below w.heap.size w wx
  siz : w.heap.size + 1 < wx.heap.size
theorem SMid.below {a b : Nd} {Sa Sb Ka Kb : Option Addr} {csa csb cka ckb : Nat} {w : World} {wx wy : World} (h : SMid a b Sa Sb Ka Kb csa csb cka ckb w wx) (hb : Below wx.heap.size wx wy) : SMid a b Sa Sb Ka Kb csa csb cka ckb w wy :=
  ⟨h.boxA.below hb (by have := h.siz; omega), h.boxB.below hb h.siz, h.lsA.keep fun p hp => hb.cell (by have := h.siz; omega), h.lsB.keep fun p hp => hb.cell (by have := h.siz; omega), h.kA.keep fun p hp => hb.cell (by have := h.siz; omega), h.kB.keep fun p hp => hb.cell (by have := h.siz; omega), h.bel.trans (hb.mono h.bel.size), Nat.lt_of_lt_of_le h.siz hb.size⟩
theorem SMid.held {a b : Nd} {Sa Sb Ka Kb : Option Addr} {csa csb cka ckb : Nat} {w : World} {wx : World} (h : SMid a b Sa Sb Ka Kb csa csb cka ckb w wx) : Hid (SMid a b Sa Sb Ka Kb csa csb cka ckb w wx) ∧ wx.cell? ⟨w.heap.size, 0, none⟩ = some (.int .i64 a.kind) ∧ wx.cell? ⟨w.heap.size, 1, none⟩ = some (.int .i64 a.from_) ∧ wx.cell? ⟨w.heap.size, 2, none⟩ = some (.int .i64 a.to_) ∧ wx.cell? ⟨w.heap.size, 3, none⟩ = some (.int .i64 a.num) ∧ wx.cell? ⟨w.heap.size, 4, none⟩ = some (.int .i64 a.mn) ∧ wx.cell? ⟨w.heap.size, 5, none⟩ = some (.int .i64 a.mx) ∧ wx.cell? ⟨w.heap.size, 6, none⟩ = some (.int .i64 a.mode) ∧ wx.cell? ⟨w.heap.size, 7, none⟩ = some (str a.name) ∧ wx.cell? ⟨w.heap.size, 8, none⟩ = some (.slice Sa a.set.length csa) ∧ wx.cell? ⟨w.heap.size, 9, none⟩ = some (.slice Ka a.kids.length cka) ∧ wx.cell? ⟨w.heap.size + 1, 0, none⟩ = some (.int .i64 b.kind) ∧ wx.cell? ⟨w.heap.size + 1, 1, none⟩ = some (.int .i64 b.from_) ∧ wx.cell? ⟨w.heap.size + 1, 2, none⟩ = some (.int .i64 b.to_) ∧ wx.cell? ⟨w.heap.size + 1, 3, none⟩ = some (.int .i64 b.num) ∧ wx.cell? ⟨w.heap.size + 1, 4, none⟩ = some (.int .i64 b.mn) ∧ wx.cell? ⟨w.heap.size + 1, 5, none⟩ = some (.int .i64 b.mx) ∧ wx.cell? ⟨w.heap.size + 1, 6, none⟩ = some (.int .i64 b.mode) ∧ wx.cell? ⟨w.heap.size + 1, 7, none⟩ = some (str b.name) ∧ wx.cell? ⟨w.heap.size + 1, 8, none⟩ = some (.slice Sb b.set.length csb) ∧ wx.cell? ⟨w.heap.size + 1, 9, none⟩ = some (.slice Kb b.kids.length ckb) :=
  ⟨hide h, h.boxA.cell 0, h.boxA.cell 1, h.boxA.cell 2, h.boxA.cell 3, h.boxA.cell 4, h.boxA.cell 5, h.boxA.cell 6, h.boxA.cell 7, h.boxA.cell 8, h.boxA.cell 9, h.boxB.cell 0, h.boxB.cell 1, h.boxB.cell 2, h.boxB.cell 3, h.boxB.cell 4, h.boxB.cell 5, h.boxB.cell 6, h.boxB.cell 7, h.boxB.cell 8, h.boxB.cell 9⟩
theorem SMid.new (a b : Nd) (Sa Sb Ka Kb : Option Addr) (csa csb cka ckb : Nat) (w : World) (hsa : Lst w w.heap.size Sa a.set) (hsb : Lst w w.heap.size Sb b.set) (hka : Reads w w.heap.size 1 Ka a.kids.length (a.kids.map Mem.i64)) (hkb : Reads w w.heap.size 1 Kb b.kids.length (b.kids.map Mem.i64)) : SMid a b Sa Sb Ka Kb csa csb cka ckb w ((w.alloc (.cells #[.int .i64 a.kind, .int .i64 a.from_, .int .i64 a.to_, .int .i64 a.num, .int .i64 a.mn, .int .i64 a.mx, .int .i64 a.mode, str a.name, .slice Sa a.set.length csa, .slice Ka a.kids.length cka] 42)).alloc (.cells #[.int .i64 b.kind, .int .i64 b.from_, .int .i64 b.to_, .int .i64 b.num, .int .i64 b.mn, .int .i64 b.mx, .int .i64 b.mode, str b.name, .slice Sb b.set.length csb, .slice Kb b.kids.length ckb] 42)) := by
  have hW : Below w.heap.size w ((w.alloc (.cells #[.int .i64 a.kind, .int .i64 a.from_, .int .i64 a.to_, .int .i64 a.num, .int .i64 a.mn, .int .i64 a.mx, .int .i64 a.mode, str a.name, .slice Sa a.set.length csa, .slice Ka a.kids.length cka] 42)).alloc (.cells #[.int .i64 b.kind, .int .i64 b.from_, .int .i64 b.to_, .int .i64 b.num, .int .i64 b.mn, .int .i64 b.mx, .int .i64 b.mode, str b.name, .slice Sb b.set.length csb, .slice Kb b.kids.length ckb] 42)) := ((Below.refl _ _).alloc (Nat.le_refl _) _).alloc (by simp) _
  have bB := Blk.new (w.alloc (.cells #[.int .i64 a.kind, .int .i64 a.from_, .int .i64 a.to_, .int .i64 a.num, .int .i64 a.mn, .int .i64 a.mx, .int .i64 a.mode, str a.name, .slice Sa a.set.length csa, .slice Ka a.kids.length cka] 42)) 42 #[.int .i64 b.kind, .int .i64 b.from_, .int .i64 b.to_, .int .i64 b.num, .int .i64 b.mn, .int .i64 b.mx, .int .i64 b.mode, str b.name, .slice Sb b.set.length csb, .slice Kb b.kids.length ckb]
  rw [World.size_alloc] at bB
  exact ⟨(Blk.new w 42 _).alloc _, bB, hsa.below hW, hsb.below hW, hka.below hW, hkb.below hW, hW, by simp⟩

set_option maxRecDepth 100000 in
set_option maxHeartbeats 4000000 in
theorem same_kind (a b : Nd) (Sa Sb Ka Kb : Option Addr) (csa csb cka ckb : Nat) (w : World)
    (hs1 : a.set.length ≤ csa) (hs2 : csa ≤ 9223372036854775807) (hs3 : b.set.length ≤ csb) (hs4 : csb ≤ 9223372036854775807) (hk1 : a.kids.length ≤ cka) (hk2 : cka ≤ 9223372036854775807) (hk3 : b.kids.length ≤ ckb) (hk4 : ckb ≤ 9223372036854775807) (hsa : Lst w w.heap.size Sa a.set) (hsb : Lst w w.heap.size Sb b.set) (hka : Reads w w.heap.size 1 Ka a.kids.length (a.kids.map Mem.i64)) (hkb : Reads w w.heap.size 1 Kb b.kids.length (b.kids.map Mem.i64))
    (h1 : ¬ a.kind = b.kind) : Calls Tryd.prog 29 #[.agg #[.int .i64 a.kind, .int .i64 a.from_, .int .i64 a.to_, .int .i64 a.num, .int .i64 a.mn, .int .i64 a.mx, .int .i64 a.mode, str a.name, .slice Sa a.set.length csa, .slice Ka a.kids.length cka], .agg #[.int .i64 b.kind, .int .i64 b.from_, .int .i64 b.to_, .int .i64 b.num, .int .i64 b.mn, .int .i64 b.mx, .int .i64 b.mode, str b.name, .slice Sb b.set.length csb, .slice Kb b.kids.length ckb]] w fun e w' => e = .returned (.bool (alikeN a b)) ∧ Below w.heap.size w w' := by
  have HR := hide (show alikeN a b = false by unfold alikeN; rw [decide_eq_false_iff_not]; rintro ⟨p1, -⟩; exact h1 p1)
  have e0 : (a.kind == b.kind) = false := by simp [h1]
  clear h1
  have HM := hide (SMid.new a b Sa Sb Ka Kb csa csb cka ckb w hsa hsb hka hkb)
  have HBW := hide (unhide HM).bel
  have bA := (unhide HM).boxA
  have bB := (unhide HM).boxB
  have a0 := bA.cell 0
  have b0 := bB.cell 0
  have a7 := bA.cell 7
  have b7 := bB.cell 7
  clear bA bB hsa hsb hka hkb
  go_enter Tryd.func29, Tryd.ntmps29
  go_wp2_with fail
  go_quiet (fail)
  go_wp2_with fail
  go_ret
  exact ⟨by rw [unhide HR]; rfl, below_drewN (unhide HBW) _⟩

set_option maxRecDepth 100000 in
set_option maxHeartbeats 4000000 in
theorem same_name (a b : Nd) (Sa Sb Ka Kb : Option Addr) (csa csb cka ckb : Nat) (w : World)
    (hs1 : a.set.length ≤ csa) (hs2 : csa ≤ 9223372036854775807) (hs3 : b.set.length ≤ csb) (hs4 : csb ≤ 9223372036854775807) (hk1 : a.kids.length ≤ cka) (hk2 : cka ≤ 9223372036854775807) (hk3 : b.kids.length ≤ ckb) (hk4 : ckb ≤ 9223372036854775807) (hsa : Lst w w.heap.size Sa a.set) (hsb : Lst w w.heap.size Sb b.set) (hka : Reads w w.heap.size 1 Ka a.kids.length (a.kids.map Mem.i64)) (hkb : Reads w w.heap.size 1 Kb b.kids.length (b.kids.map Mem.i64))
    (h1 : a.kind = b.kind) (h2 : ¬ a.name = b.name) : Calls Tryd.prog 29 #[.agg #[.int .i64 a.kind, .int .i64 a.from_, .int .i64 a.to_, .int .i64 a.num, .int .i64 a.mn, .int .i64 a.mx, .int .i64 a.mode, str a.name, .slice Sa a.set.length csa, .slice Ka a.kids.length cka], .agg #[.int .i64 b.kind, .int .i64 b.from_, .int .i64 b.to_, .int .i64 b.num, .int .i64 b.mn, .int .i64 b.mx, .int .i64 b.mode, str b.name, .slice Sb b.set.length csb, .slice Kb b.kids.length ckb]] w fun e w' => e = .returned (.bool (alikeN a b)) ∧ Below w.heap.size w w' := by
  have HR := hide (show alikeN a b = false by unfold alikeN; rw [decide_eq_false_iff_not]; rintro ⟨-, -, -, -, -, p, -⟩; exact h2 p)
  have e0 : (a.kind == b.kind) = true := by simp [h1]
  have e1 : (a.name == b.name) = false := by simp [h2]
  clear h1 h2
  have HM := hide (SMid.new a b Sa Sb Ka Kb csa csb cka ckb w hsa hsb hka hkb)
  have HBW := hide (unhide HM).bel
  have bA := (unhide HM).boxA
  have bB := (unhide HM).boxB
  have a0 := bA.cell 0
  have b0 := bB.cell 0
  have a7 := bA.cell 7
  have b7 := bB.cell 7
  clear bA bB hsa hsb hka hkb
  go_enter Tryd.func29, Tryd.ntmps29
  go_wp2_with fail
  go_quiet (fail)
  go_wp2_with fail
  go_ret
  exact ⟨by rw [unhide HR]; rfl, below_drewN (unhide HBW) _⟩

set_option maxRecDepth 100000 in
set_option maxHeartbeats 4000000 in
theorem same_nums (a b : Nd) (Sa Sb Ka Kb : Option Addr) (csa csb cka ckb : Nat) (w : World)
    (hs1 : a.set.length ≤ csa) (hs2 : csa ≤ 9223372036854775807) (hs3 : b.set.length ≤ csb) (hs4 : csb ≤ 9223372036854775807) (hk1 : a.kids.length ≤ cka) (hk2 : cka ≤ 9223372036854775807) (hk3 : b.kids.length ≤ ckb) (hk4 : ckb ≤ 9223372036854775807) (hsa : Lst w w.heap.size Sa a.set) (hsb : Lst w w.heap.size Sb b.set) (hka : Reads w w.heap.size 1 Ka a.kids.length (a.kids.map Mem.i64)) (hkb : Reads w w.heap.size 1 Kb b.kids.length (b.kids.map Mem.i64))
    (h1 : a.kind = b.kind) (h2 : a.name = b.name) (h3 : ¬ (a.num = b.num ∧ a.mn = b.mn ∧ a.mx = b.mx ∧ a.mode = b.mode ∧ (a.kids.length : Int) = (b.kids.length : Int))) : Calls Tryd.prog 29 #[.agg #[.int .i64 a.kind, .int .i64 a.from_, .int .i64 a.to_, .int .i64 a.num, .int .i64 a.mn, .int .i64 a.mx, .int .i64 a.mode, str a.name, .slice Sa a.set.length csa, .slice Ka a.kids.length cka], .agg #[.int .i64 b.kind, .int .i64 b.from_, .int .i64 b.to_, .int .i64 b.num, .int .i64 b.mn, .int .i64 b.mx, .int .i64 b.mode, str b.name, .slice Sb b.set.length csb, .slice Kb b.kids.length ckb]] w fun e w' => e = .returned (.bool (alikeN a b)) ∧ Below w.heap.size w w' := by
  have HR := hide (show alikeN a b = false by unfold alikeN; rw [decide_eq_false_iff_not]; rintro ⟨-, p2, p3, p4, p5, -, -, p8⟩; exact h3 ⟨p2, p3, p4, p5, by rw [p8]⟩)
  have e0 : (a.kind == b.kind) = true := by simp [h1]
  have e1 : (a.name == b.name) = true := by simp [h2]
  have e2 : decide (a.num = b.num ∧ a.mn = b.mn ∧ a.mx = b.mx ∧ a.mode = b.mode ∧ (a.kids.length : Int) = (b.kids.length : Int)) = false := decide_eq_false h3
  clear h1 h2 h3
  have HM := hide (SMid.new a b Sa Sb Ka Kb csa csb cka ckb w hsa hsb hka hkb)
  have HBW := hide (unhide HM).bel
  have bA := (unhide HM).boxA
  have bB := (unhide HM).boxB
  have a0 := bA.cell 0
  have b0 := bB.cell 0
  have a7 := bA.cell 7
  have b7 := bB.cell 7
  clear bA bB hsa hsb hka hkb
  go_enter Tryd.func29, Tryd.ntmps29
  go_wp2_with fail
  refine wp_region_noPanic ?_
  refine wp_region_held_drew (S := (fun wx => Hid (SMid a b Sa Sb Ka Kb csa csb cka ckb w wx))) (by kernel_rfl) (show Hid (SMid a b Sa Sb Ka Kb csa csb cka ckb w _) from hide ((unhide HM).below (Below.refl _ _).drew)) (fun hS => ?_)
  refine wpAnyH_take (i := 0) (oi := { dst := some 5, op := _, type := _, pos := _, after := _, guard := _ }) (v := ?v0x1) rfl (by kernel_rfl) (by kernel_rfl) (by kernel_rfl) (fun _ _ _ h => h) (Or.inl ⟨by rfl, ?y0x1⟩) hS ?r0x1
  case y0x1 => (intro w hSw; (try dsimp only at hSw); go_simp; try with_reducible rfl)
  try simp only [Act.put, List.setIfInBounds_toArray, List.set_cons_zero, List.set_cons_succ]
  refine wpAnyH_take (i := 1) (oi := { dst := some 6, op := _, type := _, pos := _, after := _, guard := _ }) (v := ?v1x2) rfl (by kernel_rfl) (by kernel_rfl) (by kernel_rfl) (fun _ _ _ h => h) (Or.inl ⟨by rfl, ?y1x2⟩) hS ?r1x2
  case y1x2 => (intro w hSw; (try dsimp only at hSw); have h0 := (unhide hSw).boxA.cell 0; go_simp; try with_reducible rfl)
  try simp only [Act.put, List.setIfInBounds_toArray, List.set_cons_zero, List.set_cons_succ]
  refine wpAnyH_take (i := 2) (oi := { dst := some 7, op := _, type := _, pos := _, after := _, guard := _ }) (v := ?v2x3) rfl (by kernel_rfl) (by kernel_rfl) (by kernel_rfl) (fun _ _ _ h => h) (Or.inl ⟨by rfl, ?y2x3⟩) hS ?r2x3
  case y2x3 => (intro w hSw; (try dsimp only at hSw); go_simp; try with_reducible rfl)
  try simp only [Act.put, List.setIfInBounds_toArray, List.set_cons_zero, List.set_cons_succ]
  refine wpAnyH_take (i := 3) (oi := { dst := some 8, op := _, type := _, pos := _, after := _, guard := _ }) (v := ?v3x4) rfl (by kernel_rfl) (by kernel_rfl) (by kernel_rfl) (fun _ _ _ h => h) (Or.inl ⟨by rfl, ?y3x4⟩) hS ?r3x4
  case y3x4 => (intro w hSw; (try dsimp only at hSw); have h0 := (unhide hSw).boxB.cell 0; go_simp; try with_reducible rfl)
  try simp only [Act.put, List.setIfInBounds_toArray, List.set_cons_zero, List.set_cons_succ]
  refine wpAnyH_take (i := 4) (oi := { dst := some 9, op := _, type := _, pos := _, after := _, guard := _ }) (v := ?v4x5) rfl (by kernel_rfl) (by kernel_rfl) (by kernel_rfl) (fun _ _ _ h => h) (Or.inl ⟨by rfl, ?y4x5⟩) hS ?r4x5
  case y4x5 => (intro w hSw; (try dsimp only at hSw); go_simp; try with_reducible rfl)
  try simp only [Act.put, List.setIfInBounds_toArray, List.set_cons_zero, List.set_cons_succ]
  refine wpAnyH_take (i := 5) (oi := { dst := some 10, op := _, type := _, pos := _, after := _, guard := _ }) (v := ?v5x6) rfl (by kernel_rfl) (by kernel_rfl) (by kernel_rfl) (fun _ _ _ h => h) (Or.inl ⟨by rfl, ?y5x6⟩) hS ?r5x6
  case y5x6 => (intro w hSw; (try dsimp only at hSw); go_simp; try with_reducible rfl)
  try simp only [Act.put, List.setIfInBounds_toArray, List.set_cons_zero, List.set_cons_succ]
  refine wpAnyH_take (i := 6) (oi := { dst := some 11, op := _, type := _, pos := _, after := _, guard := _ }) (v := ?v6x7) rfl (by kernel_rfl) (by kernel_rfl) (by kernel_rfl) (fun _ _ _ h => h) (Or.inl ⟨by rfl, ?y6x7⟩) hS ?r6x7
  case y6x7 => (intro w hSw; (try dsimp only at hSw); go_simp; try with_reducible rfl)
  try simp only [Act.put, List.setIfInBounds_toArray, List.set_cons_zero, List.set_cons_succ]
  refine wpAnyH_take (i := 7) (oi := { dst := some 12, op := _, type := _, pos := _, after := _, guard := _ }) (v := ?v7x8) rfl (by kernel_rfl) (by kernel_rfl) (by kernel_rfl) (fun _ _ _ h => h) (Or.inl ⟨by rfl, ?y7x8⟩) hS ?r7x8
  case y7x8 => (intro w hSw; (try dsimp only at hSw); have h7 := (unhide hSw).boxA.cell 7; go_simp; try with_reducible rfl)
  try simp only [Act.put, List.setIfInBounds_toArray, List.set_cons_zero, List.set_cons_succ]
  refine wpAnyH_take (i := 8) (oi := { dst := some 13, op := _, type := _, pos := _, after := _, guard := _ }) (v := ?v8x9) rfl (by kernel_rfl) (by kernel_rfl) (by kernel_rfl) (fun _ _ _ h => h) (Or.inl ⟨by rfl, ?y8x9⟩) hS ?r8x9
  case y8x9 => (intro w hSw; (try dsimp only at hSw); go_simp; try with_reducible rfl)
  try simp only [Act.put, List.setIfInBounds_toArray, List.set_cons_zero, List.set_cons_succ]
  refine wpAnyH_take (i := 9) (oi := { dst := some 14, op := _, type := _, pos := _, after := _, guard := _ }) (v := ?v9x10) rfl (by kernel_rfl) (by kernel_rfl) (by kernel_rfl) (fun _ _ _ h => h) (Or.inl ⟨by rfl, ?y9x10⟩) hS ?r9x10
  case y9x10 => (intro w hSw; (try dsimp only at hSw); have h7 := (unhide hSw).boxB.cell 7; go_simp; try with_reducible rfl)
  try simp only [Act.put, List.setIfInBounds_toArray, List.set_cons_zero, List.set_cons_succ]
  refine wpAnyH_take (i := 10) (oi := { dst := some 15, op := _, type := _, pos := _, after := _, guard := _ }) (v := ?v10x11) rfl (by kernel_rfl) (by kernel_rfl) (by kernel_rfl) (fun _ _ _ h => h) (Or.inl ⟨by rfl, ?y10x11⟩) hS ?r10x11
  case y10x11 => (intro w hSw; (try dsimp only at hSw); go_simp; try with_reducible rfl)
  try simp only [Act.put, List.setIfInBounds_toArray, List.set_cons_zero, List.set_cons_succ]
  refine wpAnyH_take (i := 11) (oi := { dst := some 16, op := _, type := _, pos := _, after := _, guard := _ }) (v := ?v11x12) rfl (by kernel_rfl) (by kernel_rfl) (by kernel_rfl) (fun _ _ _ h => h) (Or.inl ⟨by rfl, ?y11x12⟩) hS ?r11x12
  case y11x12 => (intro w hSw; (try dsimp only at hSw); go_simp; try with_reducible rfl)
  try simp only [Act.put, List.setIfInBounds_toArray, List.set_cons_zero, List.set_cons_succ]
  refine wpAnyH_take (i := 12) (oi := { dst := some 17, op := _, type := _, pos := _, after := _, guard := _ }) (v := ?v12x13) rfl (by kernel_rfl) (by kernel_rfl) (by kernel_rfl) (fun _ _ _ h => h) (Or.inl ⟨by rfl, ?y12x13⟩) hS ?r12x13
  case y12x13 => (intro w hSw; (try dsimp only at hSw); go_simp; try with_reducible rfl)
  try simp only [Act.put, List.setIfInBounds_toArray, List.set_cons_zero, List.set_cons_succ]
  refine wpAnyH_take (i := 13) (oi := { dst := some 18, op := _, type := _, pos := _, after := _, guard := _ }) (v := ?v13x14) rfl (by kernel_rfl) (by kernel_rfl) (by kernel_rfl) (fun _ _ _ h => h) (Or.inl ⟨by rfl, ?y13x14⟩) hS ?r13x14
  case y13x14 => (intro w hSw; (try dsimp only at hSw); have h0 := (unhide hSw).boxA.cell 0; have h1 := (unhide hSw).boxA.cell 1; have h2 := (unhide hSw).boxA.cell 2; have h3 := (unhide hSw).boxA.cell 3; have h4 := (unhide hSw).boxA.cell 4; have h5 := (unhide hSw).boxA.cell 5; have h6 := (unhide hSw).boxA.cell 6; have h7 := (unhide hSw).boxA.cell 7; have h8 := (unhide hSw).boxA.cell 8; have h9 := (unhide hSw).boxA.cell 9; go_simp; try with_reducible rfl)
  try simp only [Act.put, List.setIfInBounds_toArray, List.set_cons_zero, List.set_cons_succ]
  refine wpAnyH_take (i := 15) (oi := { dst := some 20, op := _, type := _, pos := _, after := _, guard := _ }) (v := ?v15x15) rfl (by kernel_rfl) (by kernel_rfl) (by kernel_rfl) (fun _ _ _ h => h) (Or.inl ⟨by rfl, ?y15x15⟩) hS ?r15x15
  case y15x15 => (intro w hSw; (try dsimp only at hSw); have h0 := (unhide hSw).boxB.cell 0; have h1 := (unhide hSw).boxB.cell 1; have h2 := (unhide hSw).boxB.cell 2; have h3 := (unhide hSw).boxB.cell 3; have h4 := (unhide hSw).boxB.cell 4; have h5 := (unhide hSw).boxB.cell 5; have h6 := (unhide hSw).boxB.cell 6; have h7 := (unhide hSw).boxB.cell 7; have h8 := (unhide hSw).boxB.cell 8; have h9 := (unhide hSw).boxB.cell 9; go_simp; try with_reducible rfl)
  try simp only [Act.put, List.setIfInBounds_toArray, List.set_cons_zero, List.set_cons_succ]
  refine wpAnyH_ready (rs := [14]) (by kernel_rfl) (by simp) ?_
  refine AllReadyH.cons (o := { dst := some 19, op := _, type := _, pos := _, after := _, guard := _ }) rfl (fun K hK => ?_) AllReadyH.nil
  go_simp
  refine (nums_any a _ Ka _ cka _).mono ?_
  rintro e wqhA ⟨rfl, hb⟩
  have HhA := hide ((unhide hS).below hb)
  clear hb
  go_wp2_with fail
  refine hK.out _ _ HhA (fun hA => ?_)
  clear hK K
  try simp only [Act.put, List.setIfInBounds_toArray, List.set_cons_zero, List.set_cons_succ]
  refine wpAnyH_ready (rs := [16]) (by kernel_rfl) (by simp) ?_
  refine AllReadyH.cons (o := { dst := some 21, op := _, type := _, pos := _, after := _, guard := _ }) rfl (fun K hK => ?_) AllReadyH.nil
  go_simp
  refine (nums_any b _ Kb _ ckb _).mono ?_
  rintro e wqhB ⟨rfl, hb⟩
  have HhB := hide ((unhide hA).below hb)
  clear hb
  go_wp2_with fail
  refine hK.out _ _ HhB (fun hB => ?_)
  clear hK K
  try simp only [Act.put, List.setIfInBounds_toArray, List.set_cons_zero, List.set_cons_succ]
  refine wpAnyH_take (i := 17) (oi := { dst := some 22, op := _, type := _, pos := _, after := _, guard := _ }) (v := ?v17x16) rfl (by kernel_rfl) (by kernel_rfl) (by kernel_rfl) (fun _ _ _ h => h) (Or.inl ⟨by rfl, ?y17x16⟩) hB ?r17x16
  case y17x16 => (intro w hSw; (try dsimp only at hSw); go_simp; try with_reducible rfl)
  try simp only [Act.put, List.setIfInBounds_toArray, List.set_cons_zero, List.set_cons_succ]
  refine wpAnyH_take (i := 18) (oi := { dst := some 23, op := _, type := _, pos := _, after := _, guard := _ }) (v := ?v18x17) rfl (by kernel_rfl) (by kernel_rfl) (by kernel_rfl) (fun _ _ _ h => h) (Or.inl ⟨by rfl, ?y18x17⟩) hB ?r18x17
  case y18x17 => (intro w hSw; (try dsimp only at hSw); go_simp; try with_reducible rfl)
  try simp only [Act.put, List.setIfInBounds_toArray, List.set_cons_zero, List.set_cons_succ]
  refine wpAnyH_take (i := 19) (oi := { dst := some 24, op := _, type := _, pos := _, after := _, guard := _ }) (v := ?v19x18) rfl (by kernel_rfl) (by kernel_rfl) (by kernel_rfl) (fun _ _ _ h => h) (Or.inl ⟨by rfl, ?y19x18⟩) hB ?r19x18
  case y19x18 => (intro w hSw; (try dsimp only at hSw); go_simp; try with_reducible rfl)
  try simp only [Act.put, List.setIfInBounds_toArray, List.set_cons_zero, List.set_cons_succ]
  refine wpAnyH_take (i := 20) (oi := { dst := some 25, op := _, type := _, pos := _, after := _, guard := _ }) (v := undef) rfl (by kernel_rfl) (by kernel_rfl) (by kernel_rfl) (fun _ _ _ h => h) (Or.inr ⟨by rfl, rfl⟩) hB ?r20x19
  case' r20x19 => skip
  try simp only [Act.put, List.setIfInBounds_toArray, List.set_cons_zero, List.set_cons_succ]
  refine wpAnyH_take (i := 21) (oi := { dst := some 26, op := _, type := _, pos := _, after := _, guard := _ }) (v := undef) rfl (by kernel_rfl) (by kernel_rfl) (by kernel_rfl) (fun _ _ _ h => h) (Or.inr ⟨by rfl, rfl⟩) hB ?r21x20
  case' r21x20 => skip
  try simp only [Act.put, List.setIfInBounds_toArray, List.set_cons_zero, List.set_cons_succ]
  refine wpAnyH_take (i := 22) (oi := { dst := some 27, op := _, type := _, pos := _, after := _, guard := _ }) (v := undef) rfl (by kernel_rfl) (by kernel_rfl) (by kernel_rfl) (fun _ _ _ h => h) (Or.inr ⟨by rfl, rfl⟩) hB ?r22x21
  case' r22x21 => skip
  try simp only [Act.put, List.setIfInBounds_toArray, List.set_cons_zero, List.set_cons_succ]
  refine wpAnyH_take (i := 23) (oi := { dst := some 28, op := _, type := _, pos := _, after := _, guard := _ }) (v := undef) rfl (by kernel_rfl) (by kernel_rfl) (by kernel_rfl) (fun _ _ _ h => h) (Or.inr ⟨by rfl, rfl⟩) hB ?r23x22
  case' r23x22 => skip
  try simp only [Act.put, List.setIfInBounds_toArray, List.set_cons_zero, List.set_cons_succ]
  refine wpAnyH_take (i := 24) (oi := { dst := some 29, op := _, type := _, pos := _, after := _, guard := _ }) (v := undef) rfl (by kernel_rfl) (by kernel_rfl) (by kernel_rfl) (fun _ _ _ h => h) (Or.inr ⟨by rfl, rfl⟩) hB ?r24x23
  case' r24x23 => skip
  try simp only [Act.put, List.setIfInBounds_toArray, List.set_cons_zero, List.set_cons_succ]
  refine wpAnyH_take (i := 25) (oi := { dst := some 30, op := _, type := _, pos := _, after := _, guard := _ }) (v := ?v25x24) rfl (by kernel_rfl) (by kernel_rfl) (by kernel_rfl) (fun _ _ _ h => h) (Or.inl ⟨by rfl, ?y25x24⟩) hB ?r25x24
  case y25x24 => (intro w hSw; (try dsimp only at hSw); go_simp; try with_reducible rfl)
  try simp only [Act.put, List.setIfInBounds_toArray, List.set_cons_zero, List.set_cons_succ]
  refine wpAnyH_take (i := 26) (oi := { dst := some 31, op := _, type := _, pos := _, after := _, guard := _ }) (v := ?v26x25) rfl (by kernel_rfl) (by kernel_rfl) (by kernel_rfl) (fun _ _ _ h => h) (Or.inl ⟨by rfl, ?y26x25⟩) hB ?r26x25
  case y26x25 => (intro w hSw; (try dsimp only at hSw); go_simp; try with_reducible rfl)
  try simp only [Act.put, List.setIfInBounds_toArray, List.set_cons_zero, List.set_cons_succ]
  refine wpAnyH_take (i := 27) (oi := { dst := some 32, op := _, type := _, pos := _, after := _, guard := _ }) (v := undef) rfl (by kernel_rfl) (by kernel_rfl) (by kernel_rfl) (fun _ _ _ h => h) (Or.inr ⟨by rfl, rfl⟩) hB ?r27x26
  case' r27x26 => skip
  try simp only [Act.put, List.setIfInBounds_toArray, List.set_cons_zero, List.set_cons_succ]
  refine wpAnyH_take (i := 28) (oi := { dst := some 33, op := _, type := _, pos := _, after := _, guard := _ }) (v := undef) rfl (by kernel_rfl) (by kernel_rfl) (by kernel_rfl) (fun _ _ _ h => h) (Or.inr ⟨by rfl, rfl⟩) hB ?r28x27
  case' r28x27 => skip
  try simp only [Act.put, List.setIfInBounds_toArray, List.set_cons_zero, List.set_cons_succ]
  refine wpAnyH_take (i := 29) (oi := { dst := some 34, op := _, type := _, pos := _, after := _, guard := _ }) (v := undef) rfl (by kernel_rfl) (by kernel_rfl) (by kernel_rfl) (fun _ _ _ h => h) (Or.inr ⟨by rfl, rfl⟩) hB ?r29x28
  case' r29x28 => skip
  try simp only [Act.put, List.setIfInBounds_toArray, List.set_cons_zero, List.set_cons_succ]
  refine wpAnyH_take (i := 30) (oi := { dst := some 35, op := _, type := _, pos := _, after := _, guard := _ }) (v := undef) rfl (by kernel_rfl) (by kernel_rfl) (by kernel_rfl) (fun _ _ _ h => h) (Or.inr ⟨by rfl, rfl⟩) hB ?r30x29
  case' r30x29 => skip
  try simp only [Act.put, List.setIfInBounds_toArray, List.set_cons_zero, List.set_cons_succ]
  refine wpAnyH_take (i := 31) (oi := { dst := some 36, op := _, type := _, pos := _, after := _, guard := _ }) (v := undef) rfl (by kernel_rfl) (by kernel_rfl) (by kernel_rfl) (fun _ _ _ h => h) (Or.inr ⟨by rfl, rfl⟩) hB ?r31x30
  case' r31x30 => skip
  try simp only [Act.put, List.setIfInBounds_toArray, List.set_cons_zero, List.set_cons_succ]
  refine wpAnyH_take (i := 32) (oi := { dst := some 37, op := _, type := _, pos := _, after := _, guard := _ }) (v := ?v32x31) rfl (by kernel_rfl) (by kernel_rfl) (by kernel_rfl) (fun _ _ _ h => h) (Or.inl ⟨by rfl, ?y32x31⟩) hB ?r32x31
  case y32x31 => (intro w hSw; (try dsimp only at hSw); go_simp; try with_reducible rfl)
  try simp only [Act.put, List.setIfInBounds_toArray, List.set_cons_zero, List.set_cons_succ]
  refine wpAnyH_take (i := 33) (oi := { dst := some 4, op := _, type := _, pos := _, after := _, guard := _ }) (v := ?v33x32) rfl (by kernel_rfl) (by kernel_rfl) (by kernel_rfl) (fun _ _ _ h => h) (Or.inl ⟨by rfl, ?y33x32⟩) hB ?r33x32
  case y33x32 => (intro w hSw; (try dsimp only at hSw); go_simp; try with_reducible rfl)
  try simp only [Act.put, List.setIfInBounds_toArray, List.set_cons_zero, List.set_cons_succ]
  refine wpAnyH_done (by kernel_rfl) ?_ _
  refine NoPanic.normal ?_
  have HBS := hide (unhide hB).bel
  go_wp2_with fail
  go_ret
  exact ⟨by rw [unhide HR]; rfl, unhide HBS⟩

set_option maxRecDepth 100000 in
set_option maxHeartbeats 4000000 in
theorem same_rest (a b : Nd) (Sa Sb Ka Kb : Option Addr) (csa csb cka ckb : Nat) (w : World)
    (hs1 : a.set.length ≤ csa) (hs2 : csa ≤ 9223372036854775807) (hs3 : b.set.length ≤ csb) (hs4 : csb ≤ 9223372036854775807) (hk1 : a.kids.length ≤ cka) (hk2 : cka ≤ 9223372036854775807) (hk3 : b.kids.length ≤ ckb) (hk4 : ckb ≤ 9223372036854775807) (hsa : Lst w w.heap.size Sa a.set) (hsb : Lst w w.heap.size Sb b.set) (hka : Reads w w.heap.size 1 Ka a.kids.length (a.kids.map Mem.i64)) (hkb : Reads w w.heap.size 1 Kb b.kids.length (b.kids.map Mem.i64))
    (h1 : a.kind = b.kind) (h2 : a.name = b.name) (h3 : (a.num = b.num ∧ a.mn = b.mn ∧ a.mx = b.mx ∧ a.mode = b.mode ∧ (a.kids.length : Int) = (b.kids.length : Int))) : Calls Tryd.prog 29 #[.agg #[.int .i64 a.kind, .int .i64 a.from_, .int .i64 a.to_, .int .i64 a.num, .int .i64 a.mn, .int .i64 a.mx, .int .i64 a.mode, str a.name, .slice Sa a.set.length csa, .slice Ka a.kids.length cka], .agg #[.int .i64 b.kind, .int .i64 b.from_, .int .i64 b.to_, .int .i64 b.num, .int .i64 b.mn, .int .i64 b.mx, .int .i64 b.mode, str b.name, .slice Sb b.set.length csb, .slice Kb b.kids.length ckb]] w fun e w' => e = .returned (.bool (alikeN a b)) ∧ Below w.heap.size w w' := by
  obtain ⟨qR, hqR⟩ : ∃ q, decide (a.set = b.set) = q := ⟨_, rfl⟩
  obtain ⟨qI, hqI⟩ : ∃ q, decide (a.kids = b.kids) = q := ⟨_, rfl⟩
  have HR := hide (show alikeN a b = (qR && qI) by unfold alikeN; rw [← hqR, ← hqI, Bool.eq_iff_iff]; simp [h1, h2, h3.1, h3.2.1, h3.2.2.1, h3.2.2.2.1])
  have HQR := hide hqR
  have HQI := hide hqI
  have e0 : (a.kind == b.kind) = true := by simp [h1]
  have e1 : (a.name == b.name) = true := by simp [h2]
  have e2 : decide (a.num = b.num ∧ a.mn = b.mn ∧ a.mx = b.mx ∧ a.mode = b.mode ∧ (a.kids.length : Int) = (b.kids.length : Int)) = true := decide_eq_true h3
  clear h1 h2 h3 hqR hqI
  cases qR with
  | true =>
    have HM := hide (SMid.new a b Sa Sb Ka Kb csa csb cka ckb w hsa hsb hka hkb)
    have HBW := hide (unhide HM).bel
    have bA := (unhide HM).boxA
    have bB := (unhide HM).boxB
    have a0 := bA.cell 0
    have b0 := bB.cell 0
    have a7 := bA.cell 7
    have b7 := bB.cell 7
    clear bA bB hsa hsb hka hkb
    go_enter Tryd.func29, Tryd.ntmps29
    go_wp2_with fail
    refine wp_region_noPanic ?_
    refine wp_region_held_drew (S := (fun wx => Hid (SMid a b Sa Sb Ka Kb csa csb cka ckb w wx))) (by kernel_rfl) (show Hid (SMid a b Sa Sb Ka Kb csa csb cka ckb w _) from hide ((unhide HM).below (Below.refl _ _).drew)) (fun hS => ?_)
    refine wpAnyH_take (i := 0) (oi := { dst := some 5, op := _, type := _, pos := _, after := _, guard := _ }) (v := ?v0x33) rfl (by kernel_rfl) (by kernel_rfl) (by kernel_rfl) (fun _ _ _ h => h) (Or.inl ⟨by rfl, ?y0x33⟩) hS ?r0x33
    case y0x33 => (intro w hSw; (try dsimp only at hSw); go_simp; try with_reducible rfl)
    try simp only [Act.put, List.setIfInBounds_toArray, List.set_cons_zero, List.set_cons_succ]
    refine wpAnyH_take (i := 1) (oi := { dst := some 6, op := _, type := _, pos := _, after := _, guard := _ }) (v := ?v1x34) rfl (by kernel_rfl) (by kernel_rfl) (by kernel_rfl) (fun _ _ _ h => h) (Or.inl ⟨by rfl, ?y1x34⟩) hS ?r1x34
    case y1x34 => (intro w hSw; (try dsimp only at hSw); have h0 := (unhide hSw).boxA.cell 0; go_simp; try with_reducible rfl)
    try simp only [Act.put, List.setIfInBounds_toArray, List.set_cons_zero, List.set_cons_succ]
    refine wpAnyH_take (i := 2) (oi := { dst := some 7, op := _, type := _, pos := _, after := _, guard := _ }) (v := ?v2x35) rfl (by kernel_rfl) (by kernel_rfl) (by kernel_rfl) (fun _ _ _ h => h) (Or.inl ⟨by rfl, ?y2x35⟩) hS ?r2x35
    case y2x35 => (intro w hSw; (try dsimp only at hSw); go_simp; try with_reducible rfl)
    try simp only [Act.put, List.setIfInBounds_toArray, List.set_cons_zero, List.set_cons_succ]
    refine wpAnyH_take (i := 3) (oi := { dst := some 8, op := _, type := _, pos := _, after := _, guard := _ }) (v := ?v3x36) rfl (by kernel_rfl) (by kernel_rfl) (by kernel_rfl) (fun _ _ _ h => h) (Or.inl ⟨by rfl, ?y3x36⟩) hS ?r3x36
    case y3x36 => (intro w hSw; (try dsimp only at hSw); have h0 := (unhide hSw).boxB.cell 0; go_simp; try with_reducible rfl)
    try simp only [Act.put, List.setIfInBounds_toArray, List.set_cons_zero, List.set_cons_succ]
    refine wpAnyH_take (i := 4) (oi := { dst := some 9, op := _, type := _, pos := _, after := _, guard := _ }) (v := ?v4x37) rfl (by kernel_rfl) (by kernel_rfl) (by kernel_rfl) (fun _ _ _ h => h) (Or.inl ⟨by rfl, ?y4x37⟩) hS ?r4x37
    case y4x37 => (intro w hSw; (try dsimp only at hSw); go_simp; try with_reducible rfl)
    try simp only [Act.put, List.setIfInBounds_toArray, List.set_cons_zero, List.set_cons_succ]
    refine wpAnyH_take (i := 5) (oi := { dst := some 10, op := _, type := _, pos := _, after := _, guard := _ }) (v := ?v5x38) rfl (by kernel_rfl) (by kernel_rfl) (by kernel_rfl) (fun _ _ _ h => h) (Or.inl ⟨by rfl, ?y5x38⟩) hS ?r5x38
    case y5x38 => (intro w hSw; (try dsimp only at hSw); go_simp; try with_reducible rfl)
    try simp only [Act.put, List.setIfInBounds_toArray, List.set_cons_zero, List.set_cons_succ]
    refine wpAnyH_take (i := 6) (oi := { dst := some 11, op := _, type := _, pos := _, after := _, guard := _ }) (v := ?v6x39) rfl (by kernel_rfl) (by kernel_rfl) (by kernel_rfl) (fun _ _ _ h => h) (Or.inl ⟨by rfl, ?y6x39⟩) hS ?r6x39
    case y6x39 => (intro w hSw; (try dsimp only at hSw); go_simp; try with_reducible rfl)
    try simp only [Act.put, List.setIfInBounds_toArray, List.set_cons_zero, List.set_cons_succ]
    refine wpAnyH_take (i := 7) (oi := { dst := some 12, op := _, type := _, pos := _, after := _, guard := _ }) (v := ?v7x40) rfl (by kernel_rfl) (by kernel_rfl) (by kernel_rfl) (fun _ _ _ h => h) (Or.inl ⟨by rfl, ?y7x40⟩) hS ?r7x40
    case y7x40 => (intro w hSw; (try dsimp only at hSw); have h7 := (unhide hSw).boxA.cell 7; go_simp; try with_reducible rfl)
    try simp only [Act.put, List.setIfInBounds_toArray, List.set_cons_zero, List.set_cons_succ]
    refine wpAnyH_take (i := 8) (oi := { dst := some 13, op := _, type := _, pos := _, after := _, guard := _ }) (v := ?v8x41) rfl (by kernel_rfl) (by kernel_rfl) (by kernel_rfl) (fun _ _ _ h => h) (Or.inl ⟨by rfl, ?y8x41⟩) hS ?r8x41
    case y8x41 => (intro w hSw; (try dsimp only at hSw); go_simp; try with_reducible rfl)
    try simp only [Act.put, List.setIfInBounds_toArray, List.set_cons_zero, List.set_cons_succ]
    refine wpAnyH_take (i := 9) (oi := { dst := some 14, op := _, type := _, pos := _, after := _, guard := _ }) (v := ?v9x42) rfl (by kernel_rfl) (by kernel_rfl) (by kernel_rfl) (fun _ _ _ h => h) (Or.inl ⟨by rfl, ?y9x42⟩) hS ?r9x42
    case y9x42 => (intro w hSw; (try dsimp only at hSw); have h7 := (unhide hSw).boxB.cell 7; go_simp; try with_reducible rfl)
    try simp only [Act.put, List.setIfInBounds_toArray, List.set_cons_zero, List.set_cons_succ]
    refine wpAnyH_take (i := 10) (oi := { dst := some 15, op := _, type := _, pos := _, after := _, guard := _ }) (v := ?v10x43) rfl (by kernel_rfl) (by kernel_rfl) (by kernel_rfl) (fun _ _ _ h => h) (Or.inl ⟨by rfl, ?y10x43⟩) hS ?r10x43
    case y10x43 => (intro w hSw; (try dsimp only at hSw); go_simp; try with_reducible rfl)
    try simp only [Act.put, List.setIfInBounds_toArray, List.set_cons_zero, List.set_cons_succ]
    refine wpAnyH_take (i := 11) (oi := { dst := some 16, op := _, type := _, pos := _, after := _, guard := _ }) (v := ?v11x44) rfl (by kernel_rfl) (by kernel_rfl) (by kernel_rfl) (fun _ _ _ h => h) (Or.inl ⟨by rfl, ?y11x44⟩) hS ?r11x44
    case y11x44 => (intro w hSw; (try dsimp only at hSw); go_simp; try with_reducible rfl)
    try simp only [Act.put, List.setIfInBounds_toArray, List.set_cons_zero, List.set_cons_succ]
    refine wpAnyH_take (i := 12) (oi := { dst := some 17, op := _, type := _, pos := _, after := _, guard := _ }) (v := ?v12x45) rfl (by kernel_rfl) (by kernel_rfl) (by kernel_rfl) (fun _ _ _ h => h) (Or.inl ⟨by rfl, ?y12x45⟩) hS ?r12x45
    case y12x45 => (intro w hSw; (try dsimp only at hSw); go_simp; try with_reducible rfl)
    try simp only [Act.put, List.setIfInBounds_toArray, List.set_cons_zero, List.set_cons_succ]
    refine wpAnyH_take (i := 13) (oi := { dst := some 18, op := _, type := _, pos := _, after := _, guard := _ }) (v := ?v13x46) rfl (by kernel_rfl) (by kernel_rfl) (by kernel_rfl) (fun _ _ _ h => h) (Or.inl ⟨by rfl, ?y13x46⟩) hS ?r13x46
    case y13x46 => (intro w hSw; (try dsimp only at hSw); have h0 := (unhide hSw).boxA.cell 0; have h1 := (unhide hSw).boxA.cell 1; have h2 := (unhide hSw).boxA.cell 2; have h3 := (unhide hSw).boxA.cell 3; have h4 := (unhide hSw).boxA.cell 4; have h5 := (unhide hSw).boxA.cell 5; have h6 := (unhide hSw).boxA.cell 6; have h7 := (unhide hSw).boxA.cell 7; have h8 := (unhide hSw).boxA.cell 8; have h9 := (unhide hSw).boxA.cell 9; go_simp; try with_reducible rfl)
    try simp only [Act.put, List.setIfInBounds_toArray, List.set_cons_zero, List.set_cons_succ]
    refine wpAnyH_take (i := 15) (oi := { dst := some 20, op := _, type := _, pos := _, after := _, guard := _ }) (v := ?v15x47) rfl (by kernel_rfl) (by kernel_rfl) (by kernel_rfl) (fun _ _ _ h => h) (Or.inl ⟨by rfl, ?y15x47⟩) hS ?r15x47
    case y15x47 => (intro w hSw; (try dsimp only at hSw); have h0 := (unhide hSw).boxB.cell 0; have h1 := (unhide hSw).boxB.cell 1; have h2 := (unhide hSw).boxB.cell 2; have h3 := (unhide hSw).boxB.cell 3; have h4 := (unhide hSw).boxB.cell 4; have h5 := (unhide hSw).boxB.cell 5; have h6 := (unhide hSw).boxB.cell 6; have h7 := (unhide hSw).boxB.cell 7; have h8 := (unhide hSw).boxB.cell 8; have h9 := (unhide hSw).boxB.cell 9; go_simp; try with_reducible rfl)
    try simp only [Act.put, List.setIfInBounds_toArray, List.set_cons_zero, List.set_cons_succ]
    refine wpAnyH_ready (rs := [14]) (by kernel_rfl) (by simp) ?_
    refine AllReadyH.cons (o := { dst := some 19, op := _, type := _, pos := _, after := _, guard := _ }) rfl (fun K hK => ?_) AllReadyH.nil
    go_simp
    refine (nums_any a _ Ka _ cka _).mono ?_
    rintro e wqhA ⟨rfl, hb⟩
    have HhA := hide ((unhide hS).below hb)
    clear hb
    go_wp2_with fail
    refine hK.out _ _ HhA (fun hA => ?_)
    clear hK K
    try simp only [Act.put, List.setIfInBounds_toArray, List.set_cons_zero, List.set_cons_succ]
    refine wpAnyH_ready (rs := [16]) (by kernel_rfl) (by simp) ?_
    refine AllReadyH.cons (o := { dst := some 21, op := _, type := _, pos := _, after := _, guard := _ }) rfl (fun K hK => ?_) AllReadyH.nil
    go_simp
    refine (nums_any b _ Kb _ ckb _).mono ?_
    rintro e wqhB ⟨rfl, hb⟩
    have HhB := hide ((unhide hA).below hb)
    clear hb
    go_wp2_with fail
    refine hK.out _ _ HhB (fun hB => ?_)
    clear hK K
    try simp only [Act.put, List.setIfInBounds_toArray, List.set_cons_zero, List.set_cons_succ]
    refine wpAnyH_take (i := 17) (oi := { dst := some 22, op := _, type := _, pos := _, after := _, guard := _ }) (v := ?v17x48) rfl (by kernel_rfl) (by kernel_rfl) (by kernel_rfl) (fun _ _ _ h => h) (Or.inl ⟨by rfl, ?y17x48⟩) hB ?r17x48
    case y17x48 => (intro w hSw; (try dsimp only at hSw); go_simp; try with_reducible rfl)
    try simp only [Act.put, List.setIfInBounds_toArray, List.set_cons_zero, List.set_cons_succ]
    refine wpAnyH_take (i := 18) (oi := { dst := some 23, op := _, type := _, pos := _, after := _, guard := _ }) (v := ?v18x49) rfl (by kernel_rfl) (by kernel_rfl) (by kernel_rfl) (fun _ _ _ h => h) (Or.inl ⟨by rfl, ?y18x49⟩) hB ?r18x49
    case y18x49 => (intro w hSw; (try dsimp only at hSw); go_simp; try with_reducible rfl)
    try simp only [Act.put, List.setIfInBounds_toArray, List.set_cons_zero, List.set_cons_succ]
    refine wpAnyH_take (i := 19) (oi := { dst := some 24, op := _, type := _, pos := _, after := _, guard := _ }) (v := ?v19x50) rfl (by kernel_rfl) (by kernel_rfl) (by kernel_rfl) (fun _ _ _ h => h) (Or.inl ⟨by rfl, ?y19x50⟩) hB ?r19x50
    case y19x50 => (intro w hSw; (try dsimp only at hSw); go_simp; try with_reducible rfl)
    try simp only [Act.put, List.setIfInBounds_toArray, List.set_cons_zero, List.set_cons_succ]
    refine wpAnyH_take (i := 20) (oi := { dst := some 25, op := _, type := _, pos := _, after := _, guard := _ }) (v := ?v20x51) rfl (by kernel_rfl) (by kernel_rfl) (by kernel_rfl) (fun _ _ _ h => h) (Or.inl ⟨by rfl, ?y20x51⟩) hB ?r20x51
    case y20x51 => (intro w hSw; (try dsimp only at hSw); go_simp; try with_reducible rfl)
    try simp only [Act.put, List.setIfInBounds_toArray, List.set_cons_zero, List.set_cons_succ]
    refine wpAnyH_take (i := 21) (oi := { dst := some 26, op := _, type := _, pos := _, after := _, guard := _ }) (v := ?v21x52) rfl (by kernel_rfl) (by kernel_rfl) (by kernel_rfl) (fun _ _ _ h => h) (Or.inl ⟨by rfl, ?y21x52⟩) hB ?r21x52
    case y21x52 => (intro w hSw; (try dsimp only at hSw); have h8 := (unhide hSw).boxA.cell 8; go_simp; try with_reducible rfl)
    try simp only [Act.put, List.setIfInBounds_toArray, List.set_cons_zero, List.set_cons_succ]
    refine wpAnyH_take (i := 22) (oi := { dst := some 27, op := _, type := _, pos := _, after := _, guard := _ }) (v := ?v22x53) rfl (by kernel_rfl) (by kernel_rfl) (by kernel_rfl) (fun _ _ _ h => h) (Or.inl ⟨by rfl, ?y22x53⟩) hB ?r22x53
    case y22x53 => (intro w hSw; (try dsimp only at hSw); go_simp; try with_reducible rfl)
    try simp only [Act.put, List.setIfInBounds_toArray, List.set_cons_zero, List.set_cons_succ]
    refine wpAnyH_take (i := 23) (oi := { dst := some 28, op := _, type := _, pos := _, after := _, guard := _ }) (v := ?v23x54) rfl (by kernel_rfl) (by kernel_rfl) (by kernel_rfl) (fun _ _ _ h => h) (Or.inl ⟨by rfl, ?y23x54⟩) hB ?r23x54
    case y23x54 => (intro w hSw; (try dsimp only at hSw); have h8 := (unhide hSw).boxB.cell 8; go_simp; try with_reducible rfl)
    try simp only [Act.put, List.setIfInBounds_toArray, List.set_cons_zero, List.set_cons_succ]
    refine wpAnyH_ready (rs := [24]) (by kernel_rfl) (by simp) ?_
    refine AllReadyH.cons (o := { dst := some 29, op := _, type := _, pos := _, after := _, guard := _ }) rfl (fun K hK => ?_) AllReadyH.nil
    go_simp
    refine (eqR_any a.set b.set Sa Sb csa csb _ hs1 hs2 hs3 hs4 (rgs_at (unhide hB).lsA) (rgs_at (unhide hB).lsB) true (unhide HQR)).mono ?_
    rintro e wqhT hh
    obtain ⟨rfl, hb⟩ := hh.below
    clear hh
    have HhT := hide ((unhide hB).below hb)
    clear hb
    go_wp2_with fail
    refine hK.out _ _ HhT (fun hT => ?_)
    clear hK K
    try simp only [Act.put, List.setIfInBounds_toArray, List.set_cons_zero, List.set_cons_succ]
    refine wpAnyH_take (i := 25) (oi := { dst := some 30, op := _, type := _, pos := _, after := _, guard := _ }) (v := ?v25x55) rfl (by kernel_rfl) (by kernel_rfl) (by kernel_rfl) (fun _ _ _ h => h) (Or.inl ⟨by rfl, ?y25x55⟩) hT ?r25x55
    case y25x55 => (intro w hSw; (try dsimp only at hSw); go_simp; try with_reducible rfl)
    try simp only [Act.put, List.setIfInBounds_toArray, List.set_cons_zero, List.set_cons_succ]
    refine wpAnyH_take (i := 26) (oi := { dst := some 31, op := _, type := _, pos := _, after := _, guard := _ }) (v := ?v26x56) rfl (by kernel_rfl) (by kernel_rfl) (by kernel_rfl) (fun _ _ _ h => h) (Or.inl ⟨by rfl, ?y26x56⟩) hT ?r26x56
    case y26x56 => (intro w hSw; (try dsimp only at hSw); go_simp; try with_reducible rfl)
    try simp only [Act.put, List.setIfInBounds_toArray, List.set_cons_zero, List.set_cons_succ]
    refine wpAnyH_take (i := 27) (oi := { dst := some 32, op := _, type := _, pos := _, after := _, guard := _ }) (v := ?v27x57) rfl (by kernel_rfl) (by kernel_rfl) (by kernel_rfl) (fun _ _ _ h => h) (Or.inl ⟨by rfl, ?y27x57⟩) hT ?r27x57
    case y27x57 => (intro w hSw; (try dsimp only at hSw); go_simp; try with_reducible rfl)
    try simp only [Act.put, List.setIfInBounds_toArray, List.set_cons_zero, List.set_cons_succ]
    refine wpAnyH_take (i := 28) (oi := { dst := some 33, op := _, type := _, pos := _, after := _, guard := _ }) (v := ?v28x58) rfl (by kernel_rfl) (by kernel_rfl) (by kernel_rfl) (fun _ _ _ h => h) (Or.inl ⟨by rfl, ?y28x58⟩) hT ?r28x58
    case y28x58 => (intro w hSw; (try dsimp only at hSw); have h9 := (unhide hSw).boxA.cell 9; go_simp; try with_reducible rfl)
    try simp only [Act.put, List.setIfInBounds_toArray, List.set_cons_zero, List.set_cons_succ]
    refine wpAnyH_take (i := 29) (oi := { dst := some 34, op := _, type := _, pos := _, after := _, guard := _ }) (v := ?v29x59) rfl (by kernel_rfl) (by kernel_rfl) (by kernel_rfl) (fun _ _ _ h => h) (Or.inl ⟨by rfl, ?y29x59⟩) hT ?r29x59
    case y29x59 => (intro w hSw; (try dsimp only at hSw); go_simp; try with_reducible rfl)
    try simp only [Act.put, List.setIfInBounds_toArray, List.set_cons_zero, List.set_cons_succ]
    refine wpAnyH_take (i := 30) (oi := { dst := some 35, op := _, type := _, pos := _, after := _, guard := _ }) (v := ?v30x60) rfl (by kernel_rfl) (by kernel_rfl) (by kernel_rfl) (fun _ _ _ h => h) (Or.inl ⟨by rfl, ?y30x60⟩) hT ?r30x60
    case y30x60 => (intro w hSw; (try dsimp only at hSw); have h9 := (unhide hSw).boxB.cell 9; go_simp; try with_reducible rfl)
    try simp only [Act.put, List.setIfInBounds_toArray, List.set_cons_zero, List.set_cons_succ]
    refine wpAnyH_ready (rs := [31]) (by kernel_rfl) (by simp) ?_
    refine AllReadyH.cons (o := { dst := some 36, op := _, type := _, pos := _, after := _, guard := _ }) rfl (fun K hK => ?_) AllReadyH.nil
    go_simp
    refine (eqI_any a.kids b.kids Ka Kb cka ckb _ hk1 hk2 hk3 hk4 (ints_at (unhide hT).kA) (ints_at (unhide hT).kB) qI (unhide HQI)).mono ?_
    rintro e wqhU hh
    obtain ⟨rfl, hb⟩ := hh.below
    clear hh
    have HhU := hide ((unhide hT).below hb)
    clear hb
    go_wp2_with fail
    refine hK.out _ _ HhU (fun hU => ?_)
    clear hK K
    try simp only [Act.put, List.setIfInBounds_toArray, List.set_cons_zero, List.set_cons_succ]
    refine wpAnyH_take (i := 32) (oi := { dst := some 37, op := _, type := _, pos := _, after := _, guard := _ }) (v := ?v32x61) rfl (by kernel_rfl) (by kernel_rfl) (by kernel_rfl) (fun _ _ _ h => h) (Or.inl ⟨by rfl, ?y32x61⟩) hU ?r32x61
    case y32x61 => (intro w hSw; (try dsimp only at hSw); go_simp; try with_reducible rfl)
    try simp only [Act.put, List.setIfInBounds_toArray, List.set_cons_zero, List.set_cons_succ]
    refine wpAnyH_take (i := 33) (oi := { dst := some 4, op := _, type := _, pos := _, after := _, guard := _ }) (v := ?v33x62) rfl (by kernel_rfl) (by kernel_rfl) (by kernel_rfl) (fun _ _ _ h => h) (Or.inl ⟨by rfl, ?y33x62⟩) hU ?r33x62
    case y33x62 => (intro w hSw; (try dsimp only at hSw); go_simp; try with_reducible rfl)
    try simp only [Act.put, List.setIfInBounds_toArray, List.set_cons_zero, List.set_cons_succ]
    refine wpAnyH_done (by kernel_rfl) ?_ _
    refine NoPanic.normal ?_
    have HBS := hide (unhide hU).bel
    go_wp2_with fail
    go_ret
    exact ⟨by rw [unhide HR]; rfl, unhide HBS⟩
  | false =>
    have HM := hide (SMid.new a b Sa Sb Ka Kb csa csb cka ckb w hsa hsb hka hkb)
    have HBW := hide (unhide HM).bel
    have bA := (unhide HM).boxA
    have bB := (unhide HM).boxB
    have a0 := bA.cell 0
    have b0 := bB.cell 0
    have a7 := bA.cell 7
    have b7 := bB.cell 7
    clear bA bB hsa hsb hka hkb
    go_enter Tryd.func29, Tryd.ntmps29
    go_wp2_with fail
    refine wp_region_noPanic ?_
    refine wp_region_held_drew (S := (fun wx => Hid (SMid a b Sa Sb Ka Kb csa csb cka ckb w wx))) (by kernel_rfl) (show Hid (SMid a b Sa Sb Ka Kb csa csb cka ckb w _) from hide ((unhide HM).below (Below.refl _ _).drew)) (fun hS => ?_)
    refine wpAnyH_take (i := 0) (oi := { dst := some 5, op := _, type := _, pos := _, after := _, guard := _ }) (v := ?v0x63) rfl (by kernel_rfl) (by kernel_rfl) (by kernel_rfl) (fun _ _ _ h => h) (Or.inl ⟨by rfl, ?y0x63⟩) hS ?r0x63
    case y0x63 => (intro w hSw; (try dsimp only at hSw); go_simp; try with_reducible rfl)
    try simp only [Act.put, List.setIfInBounds_toArray, List.set_cons_zero, List.set_cons_succ]
    refine wpAnyH_take (i := 1) (oi := { dst := some 6, op := _, type := _, pos := _, after := _, guard := _ }) (v := ?v1x64) rfl (by kernel_rfl) (by kernel_rfl) (by kernel_rfl) (fun _ _ _ h => h) (Or.inl ⟨by rfl, ?y1x64⟩) hS ?r1x64
    case y1x64 => (intro w hSw; (try dsimp only at hSw); have h0 := (unhide hSw).boxA.cell 0; go_simp; try with_reducible rfl)
    try simp only [Act.put, List.setIfInBounds_toArray, List.set_cons_zero, List.set_cons_succ]
    refine wpAnyH_take (i := 2) (oi := { dst := some 7, op := _, type := _, pos := _, after := _, guard := _ }) (v := ?v2x65) rfl (by kernel_rfl) (by kernel_rfl) (by kernel_rfl) (fun _ _ _ h => h) (Or.inl ⟨by rfl, ?y2x65⟩) hS ?r2x65
    case y2x65 => (intro w hSw; (try dsimp only at hSw); go_simp; try with_reducible rfl)
    try simp only [Act.put, List.setIfInBounds_toArray, List.set_cons_zero, List.set_cons_succ]
    refine wpAnyH_take (i := 3) (oi := { dst := some 8, op := _, type := _, pos := _, after := _, guard := _ }) (v := ?v3x66) rfl (by kernel_rfl) (by kernel_rfl) (by kernel_rfl) (fun _ _ _ h => h) (Or.inl ⟨by rfl, ?y3x66⟩) hS ?r3x66
    case y3x66 => (intro w hSw; (try dsimp only at hSw); have h0 := (unhide hSw).boxB.cell 0; go_simp; try with_reducible rfl)
    try simp only [Act.put, List.setIfInBounds_toArray, List.set_cons_zero, List.set_cons_succ]
    refine wpAnyH_take (i := 4) (oi := { dst := some 9, op := _, type := _, pos := _, after := _, guard := _ }) (v := ?v4x67) rfl (by kernel_rfl) (by kernel_rfl) (by kernel_rfl) (fun _ _ _ h => h) (Or.inl ⟨by rfl, ?y4x67⟩) hS ?r4x67
    case y4x67 => (intro w hSw; (try dsimp only at hSw); go_simp; try with_reducible rfl)
    try simp only [Act.put, List.setIfInBounds_toArray, List.set_cons_zero, List.set_cons_succ]
    refine wpAnyH_take (i := 5) (oi := { dst := some 10, op := _, type := _, pos := _, after := _, guard := _ }) (v := ?v5x68) rfl (by kernel_rfl) (by kernel_rfl) (by kernel_rfl) (fun _ _ _ h => h) (Or.inl ⟨by rfl, ?y5x68⟩) hS ?r5x68
    case y5x68 => (intro w hSw; (try dsimp only at hSw); go_simp; try with_reducible rfl)
    try simp only [Act.put, List.setIfInBounds_toArray, List.set_cons_zero, List.set_cons_succ]
    refine wpAnyH_take (i := 6) (oi := { dst := some 11, op := _, type := _, pos := _, after := _, guard := _ }) (v := ?v6x69) rfl (by kernel_rfl) (by kernel_rfl) (by kernel_rfl) (fun _ _ _ h => h) (Or.inl ⟨by rfl, ?y6x69⟩) hS ?r6x69
    case y6x69 => (intro w hSw; (try dsimp only at hSw); go_simp; try with_reducible rfl)
    try simp only [Act.put, List.setIfInBounds_toArray, List.set_cons_zero, List.set_cons_succ]
    refine wpAnyH_take (i := 7) (oi := { dst := some 12, op := _, type := _, pos := _, after := _, guard := _ }) (v := ?v7x70) rfl (by kernel_rfl) (by kernel_rfl) (by kernel_rfl) (fun _ _ _ h => h) (Or.inl ⟨by rfl, ?y7x70⟩) hS ?r7x70
    case y7x70 => (intro w hSw; (try dsimp only at hSw); have h7 := (unhide hSw).boxA.cell 7; go_simp; try with_reducible rfl)
    try simp only [Act.put, List.setIfInBounds_toArray, List.set_cons_zero, List.set_cons_succ]
    refine wpAnyH_take (i := 8) (oi := { dst := some 13, op := _, type := _, pos := _, after := _, guard := _ }) (v := ?v8x71) rfl (by kernel_rfl) (by kernel_rfl) (by kernel_rfl) (fun _ _ _ h => h) (Or.inl ⟨by rfl, ?y8x71⟩) hS ?r8x71
    case y8x71 => (intro w hSw; (try dsimp only at hSw); go_simp; try with_reducible rfl)
    try simp only [Act.put, List.setIfInBounds_toArray, List.set_cons_zero, List.set_cons_succ]
    refine wpAnyH_take (i := 9) (oi := { dst := some 14, op := _, type := _, pos := _, after := _, guard := _ }) (v := ?v9x72) rfl (by kernel_rfl) (by kernel_rfl) (by kernel_rfl) (fun _ _ _ h => h) (Or.inl ⟨by rfl, ?y9x72⟩) hS ?r9x72
    case y9x72 => (intro w hSw; (try dsimp only at hSw); have h7 := (unhide hSw).boxB.cell 7; go_simp; try with_reducible rfl)
    try simp only [Act.put, List.setIfInBounds_toArray, List.set_cons_zero, List.set_cons_succ]
    refine wpAnyH_take (i := 10) (oi := { dst := some 15, op := _, type := _, pos := _, after := _, guard := _ }) (v := ?v10x73) rfl (by kernel_rfl) (by kernel_rfl) (by kernel_rfl) (fun _ _ _ h => h) (Or.inl ⟨by rfl, ?y10x73⟩) hS ?r10x73
    case y10x73 => (intro w hSw; (try dsimp only at hSw); go_simp; try with_reducible rfl)
    try simp only [Act.put, List.setIfInBounds_toArray, List.set_cons_zero, List.set_cons_succ]
    refine wpAnyH_take (i := 11) (oi := { dst := some 16, op := _, type := _, pos := _, after := _, guard := _ }) (v := ?v11x74) rfl (by kernel_rfl) (by kernel_rfl) (by kernel_rfl) (fun _ _ _ h => h) (Or.inl ⟨by rfl, ?y11x74⟩) hS ?r11x74
    case y11x74 => (intro w hSw; (try dsimp only at hSw); go_simp; try with_reducible rfl)
    try simp only [Act.put, List.setIfInBounds_toArray, List.set_cons_zero, List.set_cons_succ]
    refine wpAnyH_take (i := 12) (oi := { dst := some 17, op := _, type := _, pos := _, after := _, guard := _ }) (v := ?v12x75) rfl (by kernel_rfl) (by kernel_rfl) (by kernel_rfl) (fun _ _ _ h => h) (Or.inl ⟨by rfl, ?y12x75⟩) hS ?r12x75
    case y12x75 => (intro w hSw; (try dsimp only at hSw); go_simp; try with_reducible rfl)
    try simp only [Act.put, List.setIfInBounds_toArray, List.set_cons_zero, List.set_cons_succ]
    refine wpAnyH_take (i := 13) (oi := { dst := some 18, op := _, type := _, pos := _, after := _, guard := _ }) (v := ?v13x76) rfl (by kernel_rfl) (by kernel_rfl) (by kernel_rfl) (fun _ _ _ h => h) (Or.inl ⟨by rfl, ?y13x76⟩) hS ?r13x76
    case y13x76 => (intro w hSw; (try dsimp only at hSw); have h0 := (unhide hSw).boxA.cell 0; have h1 := (unhide hSw).boxA.cell 1; have h2 := (unhide hSw).boxA.cell 2; have h3 := (unhide hSw).boxA.cell 3; have h4 := (unhide hSw).boxA.cell 4; have h5 := (unhide hSw).boxA.cell 5; have h6 := (unhide hSw).boxA.cell 6; have h7 := (unhide hSw).boxA.cell 7; have h8 := (unhide hSw).boxA.cell 8; have h9 := (unhide hSw).boxA.cell 9; go_simp; try with_reducible rfl)
    try simp only [Act.put, List.setIfInBounds_toArray, List.set_cons_zero, List.set_cons_succ]
    refine wpAnyH_take (i := 15) (oi := { dst := some 20, op := _, type := _, pos := _, after := _, guard := _ }) (v := ?v15x77) rfl (by kernel_rfl) (by kernel_rfl) (by kernel_rfl) (fun _ _ _ h => h) (Or.inl ⟨by rfl, ?y15x77⟩) hS ?r15x77
    case y15x77 => (intro w hSw; (try dsimp only at hSw); have h0 := (unhide hSw).boxB.cell 0; have h1 := (unhide hSw).boxB.cell 1; have h2 := (unhide hSw).boxB.cell 2; have h3 := (unhide hSw).boxB.cell 3; have h4 := (unhide hSw).boxB.cell 4; have h5 := (unhide hSw).boxB.cell 5; have h6 := (unhide hSw).boxB.cell 6; have h7 := (unhide hSw).boxB.cell 7; have h8 := (unhide hSw).boxB.cell 8; have h9 := (unhide hSw).boxB.cell 9; go_simp; try with_reducible rfl)
    try simp only [Act.put, List.setIfInBounds_toArray, List.set_cons_zero, List.set_cons_succ]
    refine wpAnyH_ready (rs := [14]) (by kernel_rfl) (by simp) ?_
    refine AllReadyH.cons (o := { dst := some 19, op := _, type := _, pos := _, after := _, guard := _ }) rfl (fun K hK => ?_) AllReadyH.nil
    go_simp
    refine (nums_any a _ Ka _ cka _).mono ?_
    rintro e wqhA ⟨rfl, hb⟩
    have HhA := hide ((unhide hS).below hb)
    clear hb
    go_wp2_with fail
    refine hK.out _ _ HhA (fun hA => ?_)
    clear hK K
    try simp only [Act.put, List.setIfInBounds_toArray, List.set_cons_zero, List.set_cons_succ]
    refine wpAnyH_ready (rs := [16]) (by kernel_rfl) (by simp) ?_
    refine AllReadyH.cons (o := { dst := some 21, op := _, type := _, pos := _, after := _, guard := _ }) rfl (fun K hK => ?_) AllReadyH.nil
    go_simp
    refine (nums_any b _ Kb _ ckb _).mono ?_
    rintro e wqhB ⟨rfl, hb⟩
    have HhB := hide ((unhide hA).below hb)
    clear hb
    go_wp2_with fail
    refine hK.out _ _ HhB (fun hB => ?_)
    clear hK K
    try simp only [Act.put, List.setIfInBounds_toArray, List.set_cons_zero, List.set_cons_succ]
    refine wpAnyH_take (i := 17) (oi := { dst := some 22, op := _, type := _, pos := _, after := _, guard := _ }) (v := ?v17x78) rfl (by kernel_rfl) (by kernel_rfl) (by kernel_rfl) (fun _ _ _ h => h) (Or.inl ⟨by rfl, ?y17x78⟩) hB ?r17x78
    case y17x78 => (intro w hSw; (try dsimp only at hSw); go_simp; try with_reducible rfl)
    try simp only [Act.put, List.setIfInBounds_toArray, List.set_cons_zero, List.set_cons_succ]
    refine wpAnyH_take (i := 18) (oi := { dst := some 23, op := _, type := _, pos := _, after := _, guard := _ }) (v := ?v18x79) rfl (by kernel_rfl) (by kernel_rfl) (by kernel_rfl) (fun _ _ _ h => h) (Or.inl ⟨by rfl, ?y18x79⟩) hB ?r18x79
    case y18x79 => (intro w hSw; (try dsimp only at hSw); go_simp; try with_reducible rfl)
    try simp only [Act.put, List.setIfInBounds_toArray, List.set_cons_zero, List.set_cons_succ]
    refine wpAnyH_take (i := 19) (oi := { dst := some 24, op := _, type := _, pos := _, after := _, guard := _ }) (v := ?v19x80) rfl (by kernel_rfl) (by kernel_rfl) (by kernel_rfl) (fun _ _ _ h => h) (Or.inl ⟨by rfl, ?y19x80⟩) hB ?r19x80
    case y19x80 => (intro w hSw; (try dsimp only at hSw); go_simp; try with_reducible rfl)
    try simp only [Act.put, List.setIfInBounds_toArray, List.set_cons_zero, List.set_cons_succ]
    refine wpAnyH_take (i := 20) (oi := { dst := some 25, op := _, type := _, pos := _, after := _, guard := _ }) (v := ?v20x81) rfl (by kernel_rfl) (by kernel_rfl) (by kernel_rfl) (fun _ _ _ h => h) (Or.inl ⟨by rfl, ?y20x81⟩) hB ?r20x81
    case y20x81 => (intro w hSw; (try dsimp only at hSw); go_simp; try with_reducible rfl)
    try simp only [Act.put, List.setIfInBounds_toArray, List.set_cons_zero, List.set_cons_succ]
    refine wpAnyH_take (i := 21) (oi := { dst := some 26, op := _, type := _, pos := _, after := _, guard := _ }) (v := ?v21x82) rfl (by kernel_rfl) (by kernel_rfl) (by kernel_rfl) (fun _ _ _ h => h) (Or.inl ⟨by rfl, ?y21x82⟩) hB ?r21x82
    case y21x82 => (intro w hSw; (try dsimp only at hSw); have h8 := (unhide hSw).boxA.cell 8; go_simp; try with_reducible rfl)
    try simp only [Act.put, List.setIfInBounds_toArray, List.set_cons_zero, List.set_cons_succ]
    refine wpAnyH_take (i := 22) (oi := { dst := some 27, op := _, type := _, pos := _, after := _, guard := _ }) (v := ?v22x83) rfl (by kernel_rfl) (by kernel_rfl) (by kernel_rfl) (fun _ _ _ h => h) (Or.inl ⟨by rfl, ?y22x83⟩) hB ?r22x83
    case y22x83 => (intro w hSw; (try dsimp only at hSw); go_simp; try with_reducible rfl)
    try simp only [Act.put, List.setIfInBounds_toArray, List.set_cons_zero, List.set_cons_succ]
    refine wpAnyH_take (i := 23) (oi := { dst := some 28, op := _, type := _, pos := _, after := _, guard := _ }) (v := ?v23x84) rfl (by kernel_rfl) (by kernel_rfl) (by kernel_rfl) (fun _ _ _ h => h) (Or.inl ⟨by rfl, ?y23x84⟩) hB ?r23x84
    case y23x84 => (intro w hSw; (try dsimp only at hSw); have h8 := (unhide hSw).boxB.cell 8; go_simp; try with_reducible rfl)
    try simp only [Act.put, List.setIfInBounds_toArray, List.set_cons_zero, List.set_cons_succ]
    refine wpAnyH_ready (rs := [24]) (by kernel_rfl) (by simp) ?_
    refine AllReadyH.cons (o := { dst := some 29, op := _, type := _, pos := _, after := _, guard := _ }) rfl (fun K hK => ?_) AllReadyH.nil
    go_simp
    refine (eqR_any a.set b.set Sa Sb csa csb _ hs1 hs2 hs3 hs4 (rgs_at (unhide hB).lsA) (rgs_at (unhide hB).lsB) false (unhide HQR)).mono ?_
    rintro e wqhT hh
    obtain ⟨rfl, hb⟩ := hh.below
    clear hh
    have HhT := hide ((unhide hB).below hb)
    clear hb
    go_wp2_with fail
    refine hK.out _ _ HhT (fun hT => ?_)
    clear hK K
    try simp only [Act.put, List.setIfInBounds_toArray, List.set_cons_zero, List.set_cons_succ]
    refine wpAnyH_take (i := 25) (oi := { dst := some 30, op := _, type := _, pos := _, after := _, guard := _ }) (v := ?v25x85) rfl (by kernel_rfl) (by kernel_rfl) (by kernel_rfl) (fun _ _ _ h => h) (Or.inl ⟨by rfl, ?y25x85⟩) hT ?r25x85
    case y25x85 => (intro w hSw; (try dsimp only at hSw); go_simp; try with_reducible rfl)
    try simp only [Act.put, List.setIfInBounds_toArray, List.set_cons_zero, List.set_cons_succ]
    refine wpAnyH_take (i := 26) (oi := { dst := some 31, op := _, type := _, pos := _, after := _, guard := _ }) (v := ?v26x86) rfl (by kernel_rfl) (by kernel_rfl) (by kernel_rfl) (fun _ _ _ h => h) (Or.inl ⟨by rfl, ?y26x86⟩) hT ?r26x86
    case y26x86 => (intro w hSw; (try dsimp only at hSw); go_simp; try with_reducible rfl)
    try simp only [Act.put, List.setIfInBounds_toArray, List.set_cons_zero, List.set_cons_succ]
    refine wpAnyH_take (i := 27) (oi := { dst := some 32, op := _, type := _, pos := _, after := _, guard := _ }) (v := undef) rfl (by kernel_rfl) (by kernel_rfl) (by kernel_rfl) (fun _ _ _ h => h) (Or.inr ⟨by rfl, rfl⟩) hT ?r27x87
    case' r27x87 => skip
    try simp only [Act.put, List.setIfInBounds_toArray, List.set_cons_zero, List.set_cons_succ]
    refine wpAnyH_take (i := 28) (oi := { dst := some 33, op := _, type := _, pos := _, after := _, guard := _ }) (v := undef) rfl (by kernel_rfl) (by kernel_rfl) (by kernel_rfl) (fun _ _ _ h => h) (Or.inr ⟨by rfl, rfl⟩) hT ?r28x88
    case' r28x88 => skip
    try simp only [Act.put, List.setIfInBounds_toArray, List.set_cons_zero, List.set_cons_succ]
    refine wpAnyH_take (i := 29) (oi := { dst := some 34, op := _, type := _, pos := _, after := _, guard := _ }) (v := undef) rfl (by kernel_rfl) (by kernel_rfl) (by kernel_rfl) (fun _ _ _ h => h) (Or.inr ⟨by rfl, rfl⟩) hT ?r29x89
    case' r29x89 => skip
    try simp only [Act.put, List.setIfInBounds_toArray, List.set_cons_zero, List.set_cons_succ]
    refine wpAnyH_take (i := 30) (oi := { dst := some 35, op := _, type := _, pos := _, after := _, guard := _ }) (v := undef) rfl (by kernel_rfl) (by kernel_rfl) (by kernel_rfl) (fun _ _ _ h => h) (Or.inr ⟨by rfl, rfl⟩) hT ?r30x90
    case' r30x90 => skip
    try simp only [Act.put, List.setIfInBounds_toArray, List.set_cons_zero, List.set_cons_succ]
    refine wpAnyH_take (i := 31) (oi := { dst := some 36, op := _, type := _, pos := _, after := _, guard := _ }) (v := undef) rfl (by kernel_rfl) (by kernel_rfl) (by kernel_rfl) (fun _ _ _ h => h) (Or.inr ⟨by rfl, rfl⟩) hT ?r31x91
    case' r31x91 => skip
    try simp only [Act.put, List.setIfInBounds_toArray, List.set_cons_zero, List.set_cons_succ]
    refine wpAnyH_take (i := 32) (oi := { dst := some 37, op := _, type := _, pos := _, after := _, guard := _ }) (v := ?v32x92) rfl (by kernel_rfl) (by kernel_rfl) (by kernel_rfl) (fun _ _ _ h => h) (Or.inl ⟨by rfl, ?y32x92⟩) hT ?r32x92
    case y32x92 => (intro w hSw; (try dsimp only at hSw); go_simp; try with_reducible rfl)
    try simp only [Act.put, List.setIfInBounds_toArray, List.set_cons_zero, List.set_cons_succ]
    refine wpAnyH_take (i := 33) (oi := { dst := some 4, op := _, type := _, pos := _, after := _, guard := _ }) (v := ?v33x93) rfl (by kernel_rfl) (by kernel_rfl) (by kernel_rfl) (fun _ _ _ h => h) (Or.inl ⟨by rfl, ?y33x93⟩) hT ?r33x93
    case y33x93 => (intro w hSw; (try dsimp only at hSw); go_simp; try with_reducible rfl)
    try simp only [Act.put, List.setIfInBounds_toArray, List.set_cons_zero, List.set_cons_succ]
    refine wpAnyH_done (by kernel_rfl) ?_ _
    refine NoPanic.normal ?_
    have HBS := hide (unhide hT).bel
    go_wp2_with fail
    go_ret
    exact ⟨by rw [unhide HR]; rfl, unhide HBS⟩

/-- **Node.same** -/
theorem same1_any (a b : Nd) (Sa Sb Ka Kb : Option Addr) (csa csb cka ckb : Nat) (w : World)
    (hs1 : a.set.length ≤ csa) (hs2 : csa ≤ 9223372036854775807) (hs3 : b.set.length ≤ csb) (hs4 : csb ≤ 9223372036854775807) (hk1 : a.kids.length ≤ cka) (hk2 : cka ≤ 9223372036854775807) (hk3 : b.kids.length ≤ ckb) (hk4 : ckb ≤ 9223372036854775807) (hsa : Lst w w.heap.size Sa a.set) (hsb : Lst w w.heap.size Sb b.set) (hka : Reads w w.heap.size 1 Ka a.kids.length (a.kids.map Mem.i64)) (hkb : Reads w w.heap.size 1 Kb b.kids.length (b.kids.map Mem.i64)) :
    Calls Tryd.prog 29 #[.agg #[.int .i64 a.kind, .int .i64 a.from_, .int .i64 a.to_, .int .i64 a.num, .int .i64 a.mn, .int .i64 a.mx, .int .i64 a.mode, str a.name, .slice Sa a.set.length csa, .slice Ka a.kids.length cka], .agg #[.int .i64 b.kind, .int .i64 b.from_, .int .i64 b.to_, .int .i64 b.num, .int .i64 b.mn, .int .i64 b.mx, .int .i64 b.mode, str b.name, .slice Sb b.set.length csb, .slice Kb b.kids.length ckb]] w fun e w' => e = .returned (.bool (alikeN a b)) ∧ Below w.heap.size w w' := by
  by_cases h1 : a.kind = b.kind
  rotate_left
  · exact same_kind a b Sa Sb Ka Kb csa csb cka ckb w hs1 hs2 hs3 hs4 hk1 hk2 hk3 hk4 hsa hsb hka hkb h1
  by_cases h2 : a.name = b.name
  rotate_left
  · exact same_name a b Sa Sb Ka Kb csa csb cka ckb w hs1 hs2 hs3 hs4 hk1 hk2 hk3 hk4 hsa hsb hka hkb h1 h2
  by_cases h3 : (a.num = b.num ∧ a.mn = b.mn ∧ a.mx = b.mx ∧ a.mode = b.mode ∧ (a.kids.length : Int) = (b.kids.length : Int))
  · exact same_rest a b Sa Sb Ka Kb csa csb cka ckb w hs1 hs2 hs3 hs4 hk1 hk2 hk3 hk4 hsa hsb hka hkb h1 h2 h3
  · exact same_nums a b Sa Sb Ka Kb csa csb cka ckb w hs1 hs2 hs3 hs4 hk1 hk2 hk3 hk4 hsa hsb hka hkb h1 h2 h3
end Go.Proofs.YtckgbalmpddblaaDoor.As
