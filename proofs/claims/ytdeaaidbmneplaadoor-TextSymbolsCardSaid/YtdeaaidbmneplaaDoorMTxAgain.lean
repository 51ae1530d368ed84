/-
  What stands between two places comes again at a third one (Text.Again), walked.
-/
import Derived.Test.YtdeaaidbmneplaaDoorMTxEqual
import Derived.StillTailTactics
set_option linter.unusedSimpArgs false
set_option linter.unusedVariables false
namespace Go.Proofs.YtdeaaidbmneplaaDoor.Tx
open Go.RowKit Go.Proofs.YtdeaaidbmneplaaDoor.Mem
attribute [local go_sem] Go.Proofs.YtdeaaidbmneplaaDoor.Rs.run_not_true Go.Proofs.YtdeaaidbmneplaaDoor.Rs.run_not_false
def cutA (A : Option Addr) (f cap : Nat) : Option Addr := if cap = f then A else A.map (·.add (f * 1))
set_option maxRecDepth 100000 in
theorem slice_at (A : Option Addr) (n cap f t : Nat) (h1 : f ≤ t) (h2 : t ≤ cap) (W : World) : Sem.run Tryd.prog (Instr.slice 24 (.slice A n cap) (some (.int .i64 (f : Int))) (some (.int .i64 (t : Int))) none) W = .ok (.slice (cutA A f cap) (t - f) (cap - f)) W := by
  have hu : Tryd.prog.underlying 24 = some (.slice (Tryd.prog.elem 24)) := by kernel_rfl
  have hz := Tryd.sizeOf3
  rw [run_slice_lh (P := Tryd.prog) W 24 A n cap hu .i64 .i64 (f : Int) (t : Int) (by omega) (by omega) (by omega)]
  have he : Tryd.prog.elem 24 = 3 := by kernel_rfl
  rw [he]
  simp only [go_sem, Result.andThen_ok, sliced, Int.toNat_natCast]
  rfl
theorem reads_cut {l : List Int} {A : Option Addr} {cap f t : Nat} {w : World} (h : SV l A cap w) (h1 : f < t) (h2 : t ≤ l.length) :
    ∃ b off, cutA A f cap = some ⟨b, off, none⟩ ∧ b < w.heap.size ∧ ∀ j u, (((l.drop f).take (t - f)).map Mem.i64)[j]? = some u → w.cell? ⟨b, off + j, none⟩ = some u := by
  obtain ⟨b, off, rfl, hb, hc⟩ := h.reads.flat (by omega)
  have hr := h.room
  refine ⟨b, off + f, ?_, hb, fun j u hu => ?_⟩
  · unfold cutA
    rw [if_neg (by omega), Option.map_some, add_flat, Nat.mul_one]
  · rw [List.getElem?_map, List.getElem?_take] at hu
    split at hu
    · rw [List.getElem?_drop, ← List.getElem?_map] at hu
      have := hc (f + j) u hu
      rwa [← Nat.add_assoc] at this
    · cases hu
def AgG (o : Option Int) (w : World) (e : Ending) (w' : World) : Prop := e = .returned (.tuple #[.int .i64 (o.getD 0), .bool o.isSome]) ∧ Below w.heap.size w w'
variable {l : List Int} {A : Option Addr} {cap : Nat} {w : World}
structure AB (l : List Int) (A : Option Addr) (cap : Nat) (mode : Int) (w wx : World) : Prop where
  eb : EB l A cap w wx
  md : Blk wx (w.heap.size + 1) 3 #[.int .i64 mode]
theorem AB.below {mode : Int} {wx wy : World} (h : AB l A cap mode w wx) (hb : Below wx.heap.size wx wy) : AB l A cap mode w wy := ⟨h.eb.below hb, h.md.below hb h.md.lt⟩
theorem AB.new {mode : Int} (h : SV l A cap w) (hT : Tl w) : AB l A cap mode w ((w.alloc (.cells #[.slice A l.length cap] 26)).alloc (.cells #[.int .i64 mode] 3)) := by
  have hk := Blk.new (w.alloc (.cells #[.slice A l.length cap] 26)) 3 #[.int .i64 mode]
  rw [World.size_alloc] at hk
  exact ⟨(EB.new h hT).below (below_box _ _), hk⟩
theorem has_b {k : Int} {n : Nat} {q : Bool} (h : decide (0 ≤ k ∧ k ≤ n) = q) (W : World) : Calls Tryd.prog 25 #[.agg #[.slice A n cap], .int .i64 k] W fun e w' => e = .returned (.bool q) ∧ Below W.heap.size W w' := h ▸ has_any A n cap k W
set_option maxHeartbeats 1000000 in
theorem ag_1 (f t a mode : Int) (hS : SV l A cap w) (hT : Tl w) (h1 : t < f) : Calls Tryd.prog 20 #[.agg #[.slice A l.length cap], .int .i64 f, .int .i64 t, .int .i64 a, .int .i64 mode] w (AgG none w) := by
  have HS := hide (AB.new (mode := mode) hS hT)
  clear hS hT
  go_enter Tryd.func20, Tryd.ntmps20
  go_wp2_with fail
  (try simp only [Exit.inBlock, Exit.then])
  exact bodyPost_ret (v := .tuple #[.int .i64 0, .bool false]) (by simp [results, Tryd.f20]) rfl ⟨rfl, (unhide HS).eb.bel⟩
set_option maxHeartbeats 2000000 in
theorem ag_2 (f t a mode : Int) (hS : SV l A cap w) (hT : Tl w) (h1 : f ≤ t) (h2 : ¬ (0 ≤ f ∧ f ≤ l.length)) : Calls Tryd.prog 20 #[.agg #[.slice A l.length cap], .int .i64 f, .int .i64 t, .int .i64 a, .int .i64 mode] w (AgG none w) := by
  have HS := hide (AB.new (mode := mode) hS hT)
  have C1 := hide (has_b (A := A) (cap := cap) (decide_eq_false h2))
  have g1 : ¬ t < f := by omega
  clear hS hT h2
  go_enter Tryd.func20, Tryd.ntmps20
  go_wp2_with fail
  generalize (w.alloc (.cells #[.slice A l.length cap] 26)).alloc (.cells #[.int .i64 mode] 3) = X at *
  refine ((unhide C1) _).mono ?_
  rintro e w1 ⟨rfl, hB⟩
  have HS1 := hide ((unhide HS).below hB)
  clear hB HS
  go_wp2_with fail
  (try simp only [Exit.inBlock, Exit.then])
  exact bodyPost_ret (v := .tuple #[.int .i64 0, .bool false]) (by simp [results, Tryd.f20]) rfl ⟨rfl, (unhide HS1).eb.bel⟩
set_option maxHeartbeats 2000000 in
theorem ag_3 (f t a mode : Int) (hS : SV l A cap w) (hT : Tl w) (h1 : f ≤ t) (h2 : 0 ≤ f ∧ f ≤ l.length) (h3 : ¬ (0 ≤ t ∧ t ≤ l.length)) : Calls Tryd.prog 20 #[.agg #[.slice A l.length cap], .int .i64 f, .int .i64 t, .int .i64 a, .int .i64 mode] w (AgG none w) := by
  have HS := hide (AB.new (mode := mode) hS hT)
  have C1 := hide (has_b (A := A) (cap := cap) (decide_eq_true h2))
  have C2 := hide (has_b (A := A) (cap := cap) (decide_eq_false h3))
  have g1 : ¬ t < f := by omega
  clear hS hT h2 h3
  go_enter Tryd.func20, Tryd.ntmps20
  go_wp2_with fail
  generalize (w.alloc (.cells #[.slice A l.length cap] 26)).alloc (.cells #[.int .i64 mode] 3) = X at *
  refine ((unhide C1) _).mono ?_
  rintro e w1 ⟨rfl, hB⟩
  have HS1 := hide ((unhide HS).below hB)
  have c1 := (unhide HS1).eb.box.cell 0
  clear hB HS
  go_wp2_with fail
  refine ((unhide C2) _).mono ?_
  rintro e w2 ⟨rfl, hB⟩
  have HS2 := hide ((unhide HS1).below hB)
  clear hB HS1 c1
  go_wp2_with fail
  (try simp only [Exit.inBlock, Exit.then])
  exact bodyPost_ret (v := .tuple #[.int .i64 0, .bool false]) (by simp [results, Tryd.f20]) rfl ⟨rfl, (unhide HS2).eb.bel⟩
set_option maxHeartbeats 2000000 in
theorem ag_4 (f t a mode : Int) (hS : SV l A cap w) (hT : Tl w) (h1 : f ≤ t) (h2 : 0 ≤ f ∧ f ≤ l.length) (h3 : 0 ≤ t ∧ t ≤ l.length) (h4 : ¬ (0 ≤ a ∧ a ≤ l.length)) : Calls Tryd.prog 20 #[.agg #[.slice A l.length cap], .int .i64 f, .int .i64 t, .int .i64 a, .int .i64 mode] w (AgG none w) := by
  have HS := hide (AB.new (mode := mode) hS hT)
  have C1 := hide (has_b (A := A) (cap := cap) (decide_eq_true h2))
  have C2 := hide (has_b (A := A) (cap := cap) (decide_eq_true h3))
  have C3 := hide (has_b (A := A) (cap := cap) (decide_eq_false h4))
  have g1 : ¬ t < f := by omega
  clear hS hT h2 h3 h4
  go_enter Tryd.func20, Tryd.ntmps20
  go_wp2_with fail
  generalize (w.alloc (.cells #[.slice A l.length cap] 26)).alloc (.cells #[.int .i64 mode] 3) = X at *
  refine ((unhide C1) _).mono ?_
  rintro e w1 ⟨rfl, hB⟩
  have HS1 := hide ((unhide HS).below hB)
  have c1 := (unhide HS1).eb.box.cell 0
  clear hB HS
  go_wp2_with fail
  refine ((unhide C2) _).mono ?_
  rintro e w2 ⟨rfl, hB⟩
  have HS2 := hide ((unhide HS1).below hB)
  have c2 := (unhide HS2).eb.box.cell 0
  clear hB HS1 c1
  go_wp2_with fail
  refine ((unhide C3) _).mono ?_
  rintro e w3 ⟨rfl, hB⟩
  have HS3 := hide ((unhide HS2).below hB)
  clear hB HS2 c2
  go_wp2_with fail
  (try simp only [Exit.inBlock, Exit.then])
  exact bodyPost_ret (v := .tuple #[.int .i64 0, .bool false]) (by simp [results, Tryd.f20]) rfl ⟨rfl, (unhide HS3).eb.bel⟩
set_option maxHeartbeats 2000000 in
theorem ag_5 (f t a : Nat) (mode : Int) (hS : SV l A cap w) (hT : Tl w) (h1 : f ≤ t) (h3 : t ≤ l.length) (h4 : a ≤ l.length) (h5 : l.length < a + (t - f)) : Calls Tryd.prog 20 #[.agg #[.slice A l.length cap], .int .i64 (f : Int), .int .i64 (t : Int), .int .i64 (a : Int), .int .i64 mode] w (AgG none w) := by
  have hsm := hS.small
  have HS := hide (AB.new (mode := mode) hS hT)
  have C1 := hide (has_b (A := A) (cap := cap) (k := (f : Int)) (n := l.length) (q := true) (decide_eq_true (by omega)))
  have C2 := hide (has_b (A := A) (cap := cap) (k := (t : Int)) (n := l.length) (q := true) (decide_eq_true (by omega)))
  have C3 := hide (has_b (A := A) (cap := cap) (k := (a : Int)) (n := l.length) (q := true) (decide_eq_true (by omega)))
  have C4 := hide (has_b (A := A) (cap := cap) (k := (a : Int) + (t : Int) - (f : Int)) (n := l.length) (q := false) (decide_eq_false (by omega)))
  have g1 : ¬ t < f := by omega
  have g2 : decide ((t : Int) < (f : Int)) = false := by rw [decide_eq_false_iff_not]; omega
  have q1 : IntKind.i64.wrap ((a : Int) + (t : Int)) = (a : Int) + (t : Int) := Rs.wrap_id _ (by omega) (by omega)
  have q2 : IntKind.i64.wrap ((a : Int) + (t : Int) - (f : Int)) = (a : Int) + (t : Int) - (f : Int) := Rs.wrap_id _ (by omega) (by omega)
  clear hS hT
  go_enter Tryd.func20, Tryd.ntmps20
  go_wp2_with fail
  generalize (w.alloc (.cells #[.slice A l.length cap] 26)).alloc (.cells #[.int .i64 mode] 3) = X at *
  refine ((unhide C1) _).mono ?_
  rintro e w1 ⟨rfl, hB⟩
  have HS1 := hide ((unhide HS).below hB)
  have c1 := (unhide HS1).eb.box.cell 0
  clear hB HS
  go_wp2_with fail
  refine ((unhide C2) _).mono ?_
  rintro e w2 ⟨rfl, hB⟩
  have HS2 := hide ((unhide HS1).below hB)
  have c2 := (unhide HS2).eb.box.cell 0
  clear hB HS1 c1
  go_wp2_with fail
  refine ((unhide C3) _).mono ?_
  rintro e w3 ⟨rfl, hB⟩
  have HS3 := hide ((unhide HS2).below hB)
  have c3 := (unhide HS3).eb.box.cell 0
  clear hB HS2 c2
  go_wp2_with fail
  refine ((unhide C4) _).mono ?_
  rintro e w4 ⟨rfl, hB⟩
  have HS4 := hide ((unhide HS3).below hB)
  clear hB HS3 c3
  go_wp2_with fail
  (try simp only [Exit.inBlock, Exit.then])
  exact bodyPost_ret (v := .tuple #[.int .i64 0, .bool false]) (by simp [results, Tryd.f20]) rfl ⟨rfl, (unhide HS4).eb.bel⟩
theorem eq_rows (f t a : Nat) (mode : Int) {wx : World} (h : AB l A cap mode w wx) (h1 : f ≤ t) (h3 : t ≤ l.length) (h5 : a + (t - f) ≤ l.length) :
    Calls Tryd.prog 31 #[.slice (cutA A f cap) (t - f) (cap - f), .slice (cutA A a cap) (t - f) (cap - a), .func (.func 29) #[] #[.pointer (some ⟨w.heap.size + 1, 0, none⟩)]] wx
      fun e w' => e = .returned (.bool (runL mode (l.drop f) (l.drop a) (t - f))) ∧ AB l A cap mode w w' := by
  rcases Nat.eq_or_lt_of_le h1 with rfl | hlt
  · rw [Nat.sub_self]
    exact (equal_none _ _ _ _ _ wx).mono fun e w' h2 => ⟨h2.1, h.below h2.2⟩
  · obtain ⟨b1, o1, e1, hb1, hc1⟩ := reads_cut h.eb.sv hlt h3
    obtain ⟨b2, o2, e2, hb2, hc2⟩ := reads_cut (f := a) (t := a + (t - f)) h.eb.sv (by omega) h5
    rw [show a + (t - f) - a = t - f by omega] at hc2
    have hr := h.eb.sv.room
    have ht := h.eb.sv.top
    have hs := h.eb.sv.small
    rw [e1, e2]
    refine (equal_some mode ((l.drop f).take (t - f)) ((l.drop a).take (t - f)) (t - f) b1 o1 (cap - f) b2 o2 (cap - a) (w.heap.size + 1) wx (by rw [List.length_take, List.length_drop]; omega) (by rw [List.length_take, List.length_drop]; omega) (by omega) (by omega) (by omega) (by omega) (by omega)
      (fun x hx => sm_bd h.eb.sv.sm x (List.mem_of_mem_drop (List.mem_of_mem_take hx))) (fun x hx => sm_bd h.eb.sv.sm x (List.mem_of_mem_drop (List.mem_of_mem_take hx))) hb1 hb2 hc1 hc2 (h.md.cell 0) h.eb.tl).mono fun e w' h2 => ⟨?_, h.below h2.2⟩
    rw [h2.1, runL_congr (xs' := l.drop f) (ys' := l.drop a) (t - f) fun j hj => ⟨atZ_take hj, atZ_take hj⟩]
attribute [local go_sem high] slice_at
set_option maxRecDepth 100000 in
set_option maxHeartbeats 2000000 in
theorem ag_6 (f t a : Nat) (mode : Int) (q : Bool) (hS : SV l A cap w) (hT : Tl w) (h1 : f ≤ t) (h3 : t ≤ l.length) (h5 : a + (t - f) ≤ l.length) (hq : runL mode (l.drop f) (l.drop a) (t - f) = q) (o : Option Int) (ho1 : q = true → o = some ((a : Int) + (t : Int) - (f : Int))) (ho2 : q = false → o = none) :
    Calls Tryd.prog 20 #[.agg #[.slice A l.length cap], .int .i64 (f : Int), .int .i64 (t : Int), .int .i64 (a : Int), .int .i64 mode] w (AgG o w) := by
  have HO1 := hide ho1
  have HO2 := hide ho2
  clear ho1 ho2
  have hsm := hS.small
  have hrm := hS.room
  have HS := hide (AB.new (mode := mode) hS hT)
  have C1 := hide (has_b (A := A) (cap := cap) (k := (f : Int)) (n := l.length) (q := true) (decide_eq_true (by omega)))
  have C2 := hide (has_b (A := A) (cap := cap) (k := (t : Int)) (n := l.length) (q := true) (decide_eq_true (by omega)))
  have C3 := hide (has_b (A := A) (cap := cap) (k := (a : Int)) (n := l.length) (q := true) (decide_eq_true (by omega)))
  obtain ⟨m, hm⟩ : ∃ m, a + (t - f) = m := ⟨_, rfl⟩
  have C4 := hide (has_b (A := A) (cap := cap) (k := (m : Int)) (n := l.length) (q := true) (decide_eq_true (by omega)))
  have C5 := hide (fun wx (h : AB l A cap mode w wx) => eq_rows f t a mode h h1 h3 h5)
  rw [hq] at C5
  have g1 : ¬ t < f := by omega
  have g2 : decide ((t : Int) < (f : Int)) = false := by rw [decide_eq_false_iff_not]; omega
  have q1 : IntKind.i64.wrap ((a : Int) + (t : Int)) = (a : Int) + (t : Int) := Rs.wrap_id _ (by omega) (by omega)
  have q2 : IntKind.i64.wrap ((a : Int) + (t : Int) - (f : Int)) = (m : Int) := by rw [Rs.wrap_id _ (by omega) (by omega)]; omega
  have HE := hide (show (m : Int) = (a : Int) + (t : Int) - (f : Int) by omega)
  have k1 : t ≤ cap := by omega
  have k2 : a ≤ m := by omega
  have k3 : m ≤ cap := by omega
  have HM := hide (show m - a = t - f by omega)
  clear hS hT hm hq
  go_enter Tryd.func20, Tryd.ntmps20
  go_wp2_with fail
  generalize (w.alloc (.cells #[.slice A l.length cap] 26)).alloc (.cells #[.int .i64 mode] 3) = X at *
  refine ((unhide C1) _).mono ?_
  rintro e w1 ⟨rfl, hB⟩
  have HS1 := hide ((unhide HS).below hB)
  have c1 := (unhide HS1).eb.box.cell 0
  clear hB HS
  go_wp2_with fail
  refine ((unhide C2) _).mono ?_
  rintro e w2 ⟨rfl, hB⟩
  have HS2 := hide ((unhide HS1).below hB)
  have c2 := (unhide HS2).eb.box.cell 0
  clear hB HS1 c1
  go_wp2_with fail
  refine ((unhide C3) _).mono ?_
  rintro e w3 ⟨rfl, hB⟩
  have HS3 := hide ((unhide HS2).below hB)
  have c3 := (unhide HS3).eb.box.cell 0
  clear hB HS2 c2
  go_wp2_with fail
  refine ((unhide C4) _).mono ?_
  rintro e w4 ⟨rfl, hB⟩
  have HS4 := hide ((unhide HS3).below hB)
  have c4 := (unhide HS4).eb.box.cell 0
  clear hB HS3 c3
  go_wp2_with fail
  go_still_tail 11, (by kernel_rfl)
  change wpList _ _ _ _ _ w4.drew
  have HS5 := hide ((unhide HS4).below (Below.refl _ _).drew)
  rw [unhide HM]
  go_wp2_with fail
  refine ((unhide C5) _ (unhide HS5)).mono ?_
  rintro e w5 ⟨rfl, hs5⟩
  have HB5 := hide hs5.eb.bel
  clear hs5 HS5 HS4 c4 C5
  cases q with
  | true =>
    go_wp2_with fail
    (try simp only [Exit.inBlock, Exit.then])
    exact bodyPost_ret (v := .tuple #[.int .i64 (m : Int), .bool true]) (by simp [results, Tryd.f20]) rfl ⟨by rw [(unhide HO1) (by trivial), unhide HE]; rfl, unhide HB5⟩
  | false =>
    go_wp2_with fail
    (try simp only [Exit.inBlock, Exit.then])
    exact bodyPost_ret (v := .tuple #[.int .i64 0, .bool false]) (by simp [results, Tryd.f20]) rfl ⟨by rw [(unhide HO2) (by trivial)]; rfl, unhide HB5⟩
theorem again_any (f t a mode : Int) (hS : SV l A cap w) (hT : Tl w) : Calls Tryd.prog 20 #[.agg #[.slice A l.length cap], .int .i64 f, .int .i64 t, .int .i64 a, .int .i64 mode] w (AgG (againZ l f t a mode) w) := by
  by_cases h : 0 ≤ f ∧ f ≤ t ∧ t ≤ l.length ∧ 0 ≤ a ∧ a ≤ l.length
  · obtain ⟨f, rfl⟩ : ∃ n : Nat, f = (n : Int) := ⟨f.toNat, by omega⟩
    obtain ⟨t, rfl⟩ : ∃ n : Nat, t = (n : Int) := ⟨t.toNat, by omega⟩
    obtain ⟨a, rfl⟩ : ∃ n : Nat, a = (n : Int) := ⟨a.toNat, by omega⟩
    by_cases h5 : a + (t - f) ≤ l.length
    · rw [again_nat (by omega) (by omega) h5, show (a : Int) + ((t : Int) - (f : Int)) = (a : Int) + (t : Int) - (f : Int) by omega]
      exact ag_6 f t a mode _ hS hT (by omega) (by omega) h5 rfl _ (fun h => by rw [h]; rfl) (fun h => by rw [h]; rfl)
    · rw [again_none (by omega)]
      exact ag_5 f t a mode hS hT (by omega) (by omega) (by omega) (by omega)
  · rw [again_none (by omega)]
    by_cases h1 : t < f
    · exact ag_1 f t a mode hS hT h1
    by_cases h2 : 0 ≤ f ∧ f ≤ l.length
    · by_cases h3 : 0 ≤ t ∧ t ≤ l.length
      · exact ag_4 f t a mode hS hT (by omega) h2 h3 (by omega)
      · exact ag_3 f t a mode hS hT (by omega) h2 h3
    · exact ag_2 f t a mode hS hT (by omega) h2
end Go.Proofs.YtdeaaidbmneplaaDoor.Tx
