/-
  math/bits.Mul at 1, and the library's Repeat at one int, walked. Conditions: from 1 to 100000 times.
-/
import Derived.Test.YtjnljhigaapalaaEvCaps
import Derived.Laws.Bits64b
import Derived.Laws.MakeOwn
import Derived.Laws.CopyOwn
import Derived.Deep.RegionHeld3
set_option linter.unusedVariables false
set_option linter.unusedSimpArgs false
namespace Go.Proofs.Ytjnljhigaapalaa.Ev
open Go.RowKit Go.Proofs.Ytjnljhigaapalaa.Mem
theorem maskN (a : Nat) (ha : a < 4294967296) : bits .and .u64 (a : Int) 4294967295 = (a : Int) := by
  have h := bits_and_u64_nat a 4294967295 (by omega) (by omega)
  have e : a &&& 4294967295 = a % 4294967296 := Nat.and_two_pow_sub_one_eq_mod a 32
  rw [e, Nat.mod_eq_of_lt ha] at h
  exact h
set_option maxHeartbeats 1000000 in
theorem mul64_one (c : Nat) (hc : c ≤ 100000) (w : World) : Calls Try.prog 25 #[.int .u64 1, .int .u64 (c : Int)] w fun e w' => e = .returned (.tuple #[.int .u64 0, .int .u64 (c : Int)]) ∧ w' = w := by
  have m1 : bits .and .u64 (1 : Int) 4294967295 = 1 := by simpa using maskN 1 (by omega)
  have m2 : bits .and .u64 (c : Int) 4294967295 = (c : Int) := maskN c (by omega)
  have m0 : bits .and .u64 (0 : Int) 4294967295 = 0 := by simpa using maskN 0 (by omega)
  have q1 : (c : Int) / 4294967296 = 0 := by omega
  have q2 : (1 : Int) / 4294967296 = 0 := by omega
  have w1 : IntKind.u64.wrap (c : Int) = (c : Int) := by rw [IntKind.wrap_u64]; omega
  have w0 : IntKind.u64.wrap 0 = 0 := by rw [IntKind.wrap_u64]; omega
  go_enter Try.func25, Try.ntmps25
  go_wp2
  go_ret2
  exact ⟨rfl, rfl⟩
set_option maxHeartbeats 1000000 in
theorem mul_one (c : Nat) (hc : c ≤ 100000) (w : World) : Calls Try.prog 22 #[.int .u64 1, .int .u64 (c : Int)] w fun e w' => e = .returned (.tuple #[.int .u64 0, .int .u64 (c : Int)]) ∧ w' = w := by
  have C := hide (mul64_one c hc w)
  go_enter Try.func22, Try.ntmps22
  go_wp2_with fail
  refine (unhide C).mono ?_
  rintro e w1 ⟨rfl, rfl⟩
  go_wp2
  go_ret2
  exact ⟨rfl, rfl⟩
def intA (l : List Int) : Array Value := (l.map Mem.i64).toArray
theorem made_ints (n : Nat) : madeCells #[.int .i64 0] n = intA (List.replicate n 0) := by
  unfold madeCells intA
  apply Array.ext
  · simp
  · intro i h1 h2
    have : i % 1 = 0 := Nat.mod_one i
    simp [Mem.i64, this]
theorem make_ints (n : Nat) (hn : n ≤ 100000) (W : World) : Sem.run Try.prog (Instr.makeSlice 32 (.int .i64 (n : Int)) (.int .i64 (n : Int))) W = .ok (.slice (some ⟨W.heap.size, 0, none⟩) n n) (W.alloc (.cells (intA (List.replicate n 0)) 3)) := by
  obtain ⟨i0, hi, hz0, hz1, hz2⟩ := info_parts info_int
  have := run_makeSlice (P := Try.prog) W 32 3 i0 (.int .i64 0) Try.underlying32 hi hz0 .i64 .i64 (n : Int) (n : Int) (by omega) (Int.le_refl _) (by rw [hz1]; simp; omega) (by rw [hz2]; omega) (by omega)
  rw [this, hz1, Int.toNat_natCast, Nat.mul_one]
  exact congrArg (fun z => Result.ok _ (W.alloc (.cells z 3))) (made_ints n)
def rowZ (x : Int) (n k : Nat) : List Value := List.replicate k (Mem.i64 x) ++ List.replicate (n - k) (Mem.i64 0)
theorem rowZ_len {x : Int} {n k : Nat} (h : k ≤ n) : (rowZ x n k).length = n := by unfold rowZ; simp; omega
theorem rowZ_zero (x : Int) (n : Nat) : (rowZ x n 0).toArray = intA (List.replicate n 0) := by unfold rowZ intA; simp
theorem rowZ_at {x : Int} {n k j : Nat} (h : j < k) : (rowZ x n k)[j]? = some (Mem.i64 x) := by
  unfold rowZ
  rw [List.getElem?_append_left (by simpa using h), List.getElem?_replicate, if_pos h]
theorem rowZ_splice {x : Int} {n k m : Nat} (h : k + m ≤ n) : splice (rowZ x n k) k (List.replicate m (Mem.i64 x)) = rowZ x n (k + m) := by
  unfold splice rowZ
  apply List.ext_getElem?
  intro j
  simp only [List.getElem?_append, List.getElem?_take, List.getElem?_drop, List.getElem?_replicate, List.length_take, List.length_append, List.length_replicate, List.length_drop]
  have e1 : min k (k + (n - k)) = k := by omega
  rw [e1]
  repeat' split
  all_goals first | rfl | omega
theorem rowZ_all (x : Int) (n : Nat) : rowZ x n n = (List.replicate n x).map Mem.i64 := by unfold rowZ; simp
theorem one_rep (x : Int) (m : Nat) : ∀ u ∈ List.replicate m (Mem.i64 x), u.oneCell' = true := by
  intro u hu
  rw [(List.mem_replicate.1 hu).2]
  rfl
def PRel (x : Int) (n : Nat) (w : World) (i : Value) (wr : World) : Prop := ∃ k : Nat, i = .int .i64 k ∧ 1 ≤ k ∧ k ≤ n ∧ Hid (wr.heap[w.heap.size]? = some (.cells (rowZ x n k).toArray 3 (0, 0))) ∧ Below w.heap.size w wr
attribute [local go_sem high] make_ints
theorem prel_end {x : Int} {n k : Nat} {w wr : World} (hk : k = n) (h : wr.heap[w.heap.size]? = some (.cells (rowZ x n k).toArray 3 (0, 0))) : Blk wr w.heap.size 3 (intA (List.replicate n x)) := by
  subst hk
  rw [rowZ_all] at h
  exact h
theorem src_one {x : Int} {p : Nat} {w : World} (h : w.cell? ⟨p, 0, none⟩ = some (.int .i64 x)) (hl : p < w.heap.size) (o : Obj) : ∀ j, j < 1 → (w.alloc o).cell? (Addr.add ⟨p, 0, none⟩ j) = some (.int .i64 x) := by
  intro j hj
  obtain rfl : j = 0 := by omega
  exact (World.cell?_alloc_lt w o ⟨p, 0, none⟩ hl).trans h
theorem src_row {x : Int} {n k m g : Nat} {w : World} (h : w.heap[g]? = some (.cells (rowZ x n k).toArray 3 (0, 0))) (hm : m ≤ k) : ∀ j, j < m → w.cell? (Addr.add ⟨g, 0, none⟩ j) = some (.int .i64 x) := by
  intro j hj
  rw [add_flat, Nat.zero_add]
  refine (cell_of_row _ _ _ _ _ _ h).trans ?_
  rw [List.getElem?_toArray]
  exact rowZ_at (by omega)
theorem wp_copy_row {P : Program} {w : World} {ops : Array Oper} {rest : List Oper} {o : Oper} {a : Act} {Q : Exit → Act → World → Prop} (hgd : o.guard = none) (d s : Operand)
    (ho : o.op = .call { callee := .builtin .copy, args := #[d, s], argTypes := #[32, 32] }) (x : Int) (n k m g : Nat) {dl dc sl sc : Nat} {ad : Addr} (hd : a.eval d = .slice (some ⟨g, k, none⟩) dl dc) (hs : a.eval s = .slice (some ad) sl sc)
    (hm : m = min sl dl) (hkm : k + m ≤ n) (hg : w.heap[g]? = some (.cells (rowZ x n k).toArray 3 (0, 0))) (hsrc : ∀ j, j < m → w.cell? (ad.add j) = some (.int .i64 x)) {B : Nat} {w0 : World} (hb : Below B w0 w) (hB : B ≤ g)
    (hP : P.underlying 32 = some (.slice 3)) (hi : (P.info? 3).map (·.size) = some 1)
    (h : ∀ w', Hid (w'.heap[g]? = some (.cells (rowZ x n (k + m)).toArray 3 (0, 0))) → Below B w0 w' → wpList P ops Q rest (a.put o.dst (.int .i64 (m : Int))) w') : wpList P ops Q (o :: rest) a w := by
  refine wpList_copy_splice hgd d s 32 32 ho 3 hP hi (some ⟨g, k, none⟩) (some ad) dl dc sl sc hd hs g k (rowZ x n k) 3 hg (List.replicate m (Mem.i64 x)) (by rw [List.length_replicate]; exact hm) (fun _ => ⟨rfl, ad, rfl, fun j v hj => ?_⟩) (by rw [rowZ_len (by omega), List.length_replicate]; exact hkm) (one_rep x m) B w0 hb hB (fun w' h1 h2 => ?_)
  · have hj0 : j < m := by have := (List.getElem?_eq_some_iff.1 hj).1; simpa using this
    have e : v = Mem.i64 x := by rw [List.getElem?_replicate, if_pos hj0] at hj; exact (Option.some.inj hj).symm
    subst e
    exact hsrc j hj0
  · rw [rowZ_splice hkm] at h1
    rw [List.length_replicate]
    exact h w' h1 h2
theorem step_copy_row {P : Program} {w : World} {ops : Array Oper} {o : Oper} {a : Act} {K : Act → World → Prop} {Q : Exit → Act → World → Prop} {E : Prop} (hgd : o.guard = none) (d s : Operand)
    (ho : o.op = .call { callee := .builtin .copy, args := #[d, s], argTypes := #[32, 32] }) (x : Int) (n k m g : Nat) {dl dc sl sc : Nat} {ad : Addr} (hd : a.eval d = .slice (some ⟨g, k, none⟩) dl dc) (hs : a.eval s = .slice (some ad) sl sc)
    (hm : m = min sl dl) (hkm : k + m ≤ n) (hg : w.heap[g]? = some (.cells (rowZ x n k).toArray 3 (0, 0))) (hsrc : ∀ j, j < m → w.cell? (ad.add j) = some (.int .i64 x)) {B : Nat} {w0 : World} (hb : Below B w0 w) (hB : B ≤ g)
    (hP : P.underlying 32 = some (.slice 3)) (hi : (P.info? 3).map (·.size) = some 1)
    (h : ∀ w', Hid (w'.heap[g]? = some (.cells (rowZ x n (k + m)).toArray 3 (0, 0))) → Below B w0 w' → K (a.put o.dst (.int .i64 (m : Int))) w') : if Region.wanted o (yielded ops a.tmps) = true then Oper.wp P o a w K Q else E := by
  refine step_copy_splice hgd d s 32 32 ho 3 hP hi (some ⟨g, k, none⟩) (some ad) dl dc sl sc hd hs g k (rowZ x n k) 3 hg (List.replicate m (Mem.i64 x)) (by rw [List.length_replicate]; exact hm) (fun _ => ⟨rfl, ad, rfl, fun j v hj => ?_⟩) (by rw [rowZ_len (by omega), List.length_replicate]; exact hkm) (one_rep x m) B w0 hb hB (fun w' h1 h2 => ?_)
  · have hj0 : j < m := by have := (List.getElem?_eq_some_iff.1 hj).1; simpa using this
    have e : v = Mem.i64 x := by rw [List.getElem?_replicate, if_pos hj0] at hj; exact (Option.some.inj hj).symm
    subst e
    exact hsrc j hj0
  · rw [rowZ_splice hkm] at h1
    rw [List.length_replicate]
    exact h w' h1 h2
theorem min_one {n : Nat} (h : 1 ≤ n) : 1 = min 1 n := by omega
theorem u_ints : Try.prog.underlying 32 = some (.slice 3) := Try.underlying32
theorem i_int : (Try.prog.info? 3).map (·.size) = some 1 := by kernel_rfl
set_option maxRecDepth 100000 in
set_option maxHeartbeats 4000000 in
theorem repeat_any (x : Int) (p n : Nat) (w : World) (h1 : 1 ≤ n) (h2 : n ≤ 100000) (hx : w.cell? ⟨p, 0, none⟩ = some (.int .i64 x)) :
    Calls Try.prog 19 #[.slice (some ⟨p, 0, none⟩) 1 1, .int .i64 (n : Int)] w fun e w' => e = .returned (.slice (some ⟨w.heap.size, 0, none⟩) n n) ∧ Blk w' w.heap.size 3 (intA (List.replicate n x)) ∧ Below w.heap.size w w' := by
  have C := hide (mul_one n h2 w)
  have d0 : decide ((n : Int) < 0) = false := by rw [decide_eq_false_iff_not]; omega
  have d1 : decide (9223372036854775807 < (n : Int)) = false := by rw [decide_eq_false_iff_not]; omega
  have d2 : decide (9223372036854775807 < n) = false := by rw [decide_eq_false_iff_not]; omega
  have wu : IntKind.u64.wrap (n : Int) = (n : Int) := by rw [IntKind.wrap_u64]; omega
  have wi : IntKind.i64.wrap (n : Int) = (n : Int) := by rw [IntKind.wrap_i64]; omega
  have hn : n ≤ 100000 := by omega
  have HXC := hide hx
  have HXL := hide (cell_lt hx)
  have H1 := hide h1
  have H1' := hide (show 0 + 1 ≤ n by omega)
  have H2 := hide h2
  clear hx h1 h2
  go_enter Try.func19, Try.ntmps19
  go_wp2_with fail
  refine (unhide C).mono ?_
  rintro e w1 ⟨rfl, rfl⟩
  clear C
  have hg0 : Blk (w1.alloc (.cells (intA (List.replicate n 0)) 3)) w1.heap.size 3 (rowZ x n 0).toArray := by rw [rowZ_zero]; exact Blk.new w1 3 (intA (List.replicate n 0))
  have HG0 := hide hg0
  clear hg0
  go_wp2_with (refine wp_copy_row rfl (.tmp 31) (.tmp 32) rfl x n 0 1 w1.heap.size rfl rfl (min_one (unhide H1)) (unhide H1') (unhide HG0) (src_one (unhide HXC) (unhide HXL) _) (below_box _ _) (Nat.le_refl _) u_ints i_int ?_; intro w2 HG2 hB2)
  have HG3 := hide (show PRel x n w1 (.int .i64 1) w2 from ⟨1, rfl, Nat.le_refl _, unhide H1, HG2, hB2⟩)
  clear HG2 hB2 HG0
  go_wp2_with fail
  go_loopw [8] (fun i wr => PRel x n w1 i wr) (fun i _ => n - (intOf i).toNat)
  case atStart => exact unhide HG3
  case round =>
    obtain ⟨k, rfl, hk1, hk, hgw, hb⟩ := hrel
    go_hideQ
    have HB := hide hb
    clear hb
    by_cases hlt : k < n
    · obtain ⟨m, hm⟩ : ∃ m, m = min k (n - k) := ⟨_, rfl⟩
      have hm1 : 1 ≤ m := by omega
      have hkm : k + m ≤ n := by omega
      have hki : (k : Int) < (n : Int) := by omega
      have hkn : ¬ k = n := by omega
      have hnk : ¬ n = k := by omega
      have hki2 : (k : Int) ≤ (n : Int) := by omega
      have ws : IntKind.i64.wrap ((k : Int) + (m : Int)) = (k : Int) + (m : Int) := by rw [IntKind.wrap_i64]; omega
      have HM := hide hm
      have HGD := hide (show wr.drew.heap[w1.heap.size]? = some (.cells (rowZ x n k).toArray 3 (0, 0)) from hgw.out)
      have HSR := hide (src_row (w := wr.drew) (m := m) (unhide HGD) (by omega))
      have HBD := hide (unhide HB).drew
      have HKM := hide hkm
      clear hm
      go_wp2_with fail
      go_region_held3 (fun wx => Hid (Below w1.heap.size w1 wx))
        (first | exact HBD | exact hidden hB2)
        (first | (refine step_copy_row rfl (.tmp 41) (.tmp 44) rfl x n k m w1.heap.size rfl rfl (unhide HM) (unhide HKM) (unhide HGD) (unhide HSR) (unhide HBD) (Nat.le_refl _) u_ints i_int ?_; intro w2 HG2 hB2))
      go_wp2_with fail
      have hR : PRel x n w1 (.int .i64 ((k : Int) + (m : Int))) w2 := ⟨k + m, by go_num, by omega, hkm, HG2, hB2⟩
      have hme : n - (intOf (.int .i64 ((k : Int) + (m : Int)))).toNat < n - k := by simp [intOf]; omega
      first | exact ⟨hR, hme⟩ | exact ⟨⟨_, _, _, hR, rfl, rfl, rfl⟩, hme⟩ | (go_roundw; exact hR; exact hme)
    · obtain rfl : k = n := by omega
      go_wp2
      go_ret
      exact ⟨rfl, prel_end rfl hgw.out, unhide HB⟩
end Go.Proofs.Ytjnljhigaapalaa.Ev
