/-
  The reference's Undo and Set, walked. Conditions: at most 1000 lists, of at most 100000 numbers.
-/
import Derived.Test.YtjnljhigaapalaaUnRef
set_option linter.unusedVariables false
set_option linter.unusedSimpArgs false
namespace Go.Proofs.Ytjnljhigaapalaa.Un
open Go.RowKit Go.Proofs.Ytjnljhigaapalaa.Mem
open Go.Proofs.Ytjnljhigaapalaa.Ev (CV intA below_box ret_b run_not_true run_not_false own_reads own_below)
section
variable {P : Program}
theorem results_ct {fn : Func} {p u : Tmp} {ty : TypeId} (h : fn.results = #[.cell p ty, .tmp u]) (tmps : Array Value) (w : World) (g : Nat) (cs : Array Value) (d : TypeDesc) (v : Value)
    (hp : tmps.getD p undef = .pointer (some ⟨g, 0, none⟩)) (hv : tmps.getD u undef = v) (hg : Blk w g ty cs)
    (hu : P.underlying ty = some d) (hd : (match d with | .struct _ | .array _ _ => true | _ => false) = true) (hi : (P.info? ty).map (·.size) = some cs.size) :
    (results fn tmps).run P w = .ok (.tuple #[.agg cs, v]) w := by
  have hp' : tmps[p]?.getD undef = .pointer (some ⟨g, 0, none⟩) := by simpa using hp
  have hv' : tmps[u]?.getD undef = v := by simpa using hv
  simp [results, h, hp', hv', asAddr, run_loadVar_row w g ty ty cs (0, 0) d hg hu hd hi]
end
theorem zero_B : (∀ w, (zeroValue 30).run Try.prog w = .ok (.agg #[.slice none 0 0]) w) ∧ (Try.prog.info? 30).map (·.size) = some 1 := zero_of_info (by kernel_rfl)
set_option maxRecDepth 100000 in
theorem slice_lists (A : Option Addr) (n cap f : Nat) (h1 : f ≤ n) (h2 : n ≤ cap) (W : World) : Sem.run Try.prog (Instr.slice 28 (.slice A n cap) none (some (.int .i64 (f : Int))) none) W = .ok (.slice A f cap) W := by
  have hu : Try.prog.underlying 28 = some (.slice (Try.prog.elem 28)) := by kernel_rfl
  have hz := Try.sizeOf32
  rw [run_slice_h (P := Try.prog) W 28 A n cap hu .i64 (f : Int) (by omega) (by omega)]
  have he : Try.prog.elem 28 = 32 := by kernel_rfl
  rw [he]
  simp only [go_sem, Result.andThen_ok, sliced, Int.toNat_natCast]
  rw [hz]
  show Result.ok _ _ = _
  cases A with
  | none => simp
  | some ad => simp [Addr.add]
section
attribute [local go_sem high] slice_lists
set_option maxRecDepth 100000 in
set_option maxHeartbeats 2000000 in
theorem rundo_any {L : List (List Int)} {A : Option Addr} {c : Nat} {P : Nat → Prop} {w : World} (h : RV L A c P w) (m : Int) (hn : L.length ≤ 100000) : Calls Try.prog 12 #[.agg #[.slice A L.length c], .int .i64 m] w fun e w' => e = .returned (.tuple #[.agg #[.slice A (undoL L m).length c], .bool (decide (0 ≤ m) && decide (m < (L.length : Int)))]) ∧ RV (undoL L m) A c P w' ∧ Below w.heap.size w w' := by
  obtain ⟨vs, h⟩ := h
  have h2 := zero_B.1
  have hr := h.room
  have ht := h.top
  have H := hide h
  have bb := (Blk.new w 30 #[.slice A L.length c]).alloc (.cells #[.slice none 0 0] 30)
  have br := Blk.new (w.alloc (.cells #[.slice A L.length c] 30)) 30 #[.slice none 0 0]
  rw [World.size_alloc] at br
  have hb := (below_box w (.cells #[.slice A L.length c] 30)).alloc (by simp) (.cells #[.slice none 0 0] 30)
  have c0 : ((w.alloc (.cells #[.slice A L.length c] 30)).alloc (.cells #[.slice none 0 0] 30)).cell? ⟨w.heap.size, 0, none⟩ = some (.slice A L.length c) := bb.cell 0
  by_cases hok : 0 ≤ m ∧ m < L.length
  · obtain ⟨k, rfl⟩ : ∃ k : Nat, m = k := ⟨m.toNat, by omega⟩
    have e0 : (decide (0 ≤ (k : Int)) && decide ((k : Int) < (L.length : Int))) = true := by simp; omega
    have eL : undoL L (k : Int) = L.take (k + 1) := by unfold undoL; rw [if_pos e0]; rfl
    have el : (L.take (k + 1)).length = k + 1 := by rw [List.length_take]; omega
    rw [e0, eL, el]
    have HT := hide (h.take (m := k + 1) (by omega))
    have d0 : decide ((k : Int) < 0) = false := by simp
    have d1 : decide ((L.length : Int) ≤ (k : Int)) = false := by simp; omega
    have d2 : decide (L.length ≤ k) = false := by simp; omega
    have ws : IntKind.i64.wrap ((k : Int) + 1) = ((k + 1 : Nat) : Int) := by rw [IntKind.wrap_i64]; omega
    have hk1 : k + 1 ≤ L.length := by omega
    generalize L.length = n at *
    clear h hb bb br hok e0 eL el
    go_enter Try.func12, Try.ntmps12
    go_wp2_with fail
    have hg := Blk.new (w.alloc (.cells #[.slice A (k + 1) c] 30)) 30 #[.slice A (k + 1) c]
    rw [World.size_alloc] at hg
    have hb := (below_box w (.cells #[.slice A (k + 1) c] 30)).alloc (by simp) (.cells #[.slice A (k + 1) c] 30)
    exact bodyPost_ret (results_ct rfl _ _ (w.heap.size + 1) _ _ _ rfl rfl hg Try.underlying30 rfl (by kernel_rfl)) rfl ⟨rfl, ⟨_, (unhide HT).below hb⟩, hb⟩
  · have e0 : (decide (0 ≤ m) && decide (m < (L.length : Int))) = false := by
      rw [Bool.eq_false_iff]; intro h; simp only [Bool.and_eq_true, decide_eq_true_eq] at h; exact hok h
    have eL : undoL L m = L := by unfold undoL; rw [e0]; rfl
    rw [e0, eL]
    have hm : m < 0 ∨ (L.length : Int) ≤ m := by omega
    clear e0 eL hb bb br c0 hok
    by_cases h0 : m < 0
    · have d0 : decide (m < 0) = true := by simpa using h0
      generalize L.length = n at *
      clear h hm
      go_enter Try.func12, Try.ntmps12
      go_wp2_with fail
      have hg := Blk.new (w.alloc (.cells #[.slice A n c] 30)) 30 #[.slice A n c]
      rw [World.size_alloc] at hg
      have hb := (below_box w (.cells #[.slice A n c] 30)).alloc (by simp) (.cells #[.slice A n c] 30)
      exact bodyPost_ret (results_ct rfl _ _ (w.heap.size + 1) _ _ _ rfl rfl hg Try.underlying30 rfl (by kernel_rfl)) rfl ⟨rfl, ⟨_, (unhide H).below hb⟩, hb⟩
    · have d0 : decide (m < 0) = false := by simpa using h0
      have d1 : decide ((L.length : Int) ≤ m) = true := by simp; omega
      generalize L.length = n at *
      clear h hm
      go_enter Try.func12, Try.ntmps12
      go_wp2_with fail
      have hg := Blk.new (w.alloc (.cells #[.slice A n c] 30)) 30 #[.slice A n c]
      rw [World.size_alloc] at hg
      have hb := (below_box w (.cells #[.slice A n c] 30)).alloc (by simp) (.cells #[.slice A n c] 30)
      exact bodyPost_ret (results_ct rfl _ _ (w.heap.size + 1) _ _ _ rfl rfl hg Try.underlying30 rfl (by kernel_rfl)) rfl ⟨rfl, ⟨_, (unhide H).below hb⟩, hb⟩
end
end Go.Proofs.Ytjnljhigaapalaa.Un
