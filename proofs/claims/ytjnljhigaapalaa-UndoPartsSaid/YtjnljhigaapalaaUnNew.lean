/-
  New, walked: a book of so many numbers, all of them one; or the error. No conditions.
-/
import Derived.Test.YtjnljhigaapalaaUnSmall
set_option linter.unusedVariables false
set_option linter.unusedSimpArgs false
namespace Go.Proofs.Ytjnljhigaapalaa.Un
open Go.RowKit Go.Proofs.Ytjnljhigaapalaa.Mem
open Go.Proofs.Ytjnljhigaapalaa.Ev (intA own_reads own_below ret_b run_not_true run_not_false mul_one make_ints repeat_any below_box rowZ rowZ_zero wp_copy_row u_ints i_int prel_end)
section
attribute [local go_sem high] make_ints
set_option maxRecDepth 100000 in
set_option maxHeartbeats 2000000 in
theorem repeat_zero (x : Int) (p : Nat) (w : World) (hx : w.cell? ⟨p, 0, none⟩ = some (.int .i64 x)) :
    Calls Try.prog 19 #[.slice (some ⟨p, 0, none⟩) 1 1, .int .i64 (0 : Int)] w fun e w' => e = .returned (.slice (some ⟨w.heap.size, 0, none⟩) 0 0) ∧ Blk w' w.heap.size 3 (intA (List.replicate 0 x)) ∧ Below w.heap.size w w' := by
  have C := hide (mul_one 0 (by omega) w)
  have wu : IntKind.u64.wrap (0 : Int) = (0 : Int) := by rw [IntKind.wrap_u64]; omega
  have mk : Sem.run Try.prog (Instr.makeSlice 32 (.int .i64 0) (.int .i64 0)) w = .ok (.slice (some ⟨w.heap.size, 0, none⟩) 0 0) (w.alloc (.cells (intA (List.replicate 0 0)) 3)) := make_ints 0 (by omega) w
  go_enter Try.func19, Try.ntmps19
  go_wp2_with fail
  refine (unhide C).mono ?_
  rintro e w1 ⟨rfl, rfl⟩
  clear C
  have hg0 : Blk (w1.alloc (.cells (intA (List.replicate 0 0)) 3)) w1.heap.size 3 (rowZ x 0 0).toArray := by rw [rowZ_zero]; exact Blk.new w1 3 (intA (List.replicate 0 0))
  have HG0 := hide hg0
  clear hg0 hx
  go_wp2_with (refine wp_copy_row rfl (.tmp 31) (.tmp 32) rfl x 0 0 0 w1.heap.size rfl rfl (by omega) (by omega) (unhide HG0) (fun j hj => absurd hj (by omega)) (below_box _ _) (Nat.le_refl _) u_ints i_int ?_; intro w2 HG2 hB2)
  have HB2 := hide hB2
  clear hB2 HG0 mk
  go_wp2_with fail
  go_loopw [8] (fun i wr => i = .int .i64 0 ∧ wr = w2) (fun i _ => 0)
  case atStart => exact ⟨rfl, rfl⟩
  case round =>
    obtain ⟨rfl, rfl⟩ := hrel
    go_hideQ
    go_wp2
    go_ret
    exact ⟨rfl, prel_end rfl HG2.out, unhide HB2⟩
end
theorem repeat_all (x : Int) (p n : Nat) (w : World) (h2 : n ≤ 100000) (hx : w.cell? ⟨p, 0, none⟩ = some (.int .i64 x)) :
    Calls Try.prog 19 #[.slice (some ⟨p, 0, none⟩) 1 1, .int .i64 (n : Int)] w fun e w' => e = .returned (.slice (some ⟨w.heap.size, 0, none⟩) n n) ∧ Blk w' w.heap.size 3 (intA (List.replicate n x)) ∧ Below w.heap.size w w' := by
  rcases Nat.eq_zero_or_pos n with rfl | h
  · exact repeat_zero x p w hx
  · exact repeat_any x p n w h h2 hx
theorem build_book (A : Option Addr) (n c : Nat) (w : World) : Sem.run Try.prog (Instr.build 52 #[(0, .slice A n c)]) w = .ok (.agg #[.slice A n c, .slice none 0 0]) w := run_build w 52 _ _ (by kernel_rfl)
section
attribute [local go_sem] build_book
set_option maxRecDepth 100000 in
set_option maxHeartbeats 1000000 in
theorem new_in (K : Nat → Prop) (base n : Nat) (x : Int) (w : World) (hn : n ≤ 65536) (hlo : ∀ k, k < base → K k) (hhi : ∀ k, K k → k < w.heap.size) (hb : base ≤ w.heap.size) :
    Calls Try.prog 7 #[.int .i64 (n : Int), .int .i64 x] w fun e w' => (∃ bb, e = .returned (.tuple #[.pointer (some ⟨bb, 0, none⟩), .int .i64 0]) ∧ BV K base bb (List.replicate n x) [] w') ∧ Below w.heap.size w w' := by
  have hx := (Blk.new w 3 #[.int .i64 x]).cell 0
  have C := hide (repeat_all x w.heap.size n _ (by omega) hx)
  have d0 : decide ((n : Int) < 0) = false := by simp
  have d1 : decide (65536 < (n : Int)) = false := by simp; omega
  have HN := hide hn
  clear hx hn
  go_enter Try.func7, Try.ntmps7
  go_wp2_with fail
  refine (unhide C).mono ?_
  rintro e w1 ⟨rfl, hbk, hbl⟩
  rw [World.size_alloc] at hbk hbl ⊢
  have HBK := hide hbk
  have HBL := hide ((below_box w (.cells #[.int .i64 x] 3)).trans (hbl.mono (by omega)))
  clear C hbk hbl
  go_wp2_with fail
  go_ret2
  have hb1 := unhide HBL
  have hz := hb1.size
  have hg := (unhide HBK).lt
  refine ⟨⟨w1.heap.size, rfl, w.heap.size + 1, .slice none 0 0, ?_⟩, hb1.alloc hz _⟩
  refine ⟨?_, (unhide HBK).alloc _, ⟨rfl, .inl ⟨rfl, rfl⟩⟩, fun h => ?_, fun h => ?_, fun g hg => (by cases hg), fun c hc => (by cases hc), hlo, fun k hk => ?_, by rw [List.length_replicate]; exact unhide HN⟩
  · rw [List.length_replicate]
    exact Blk.new _ _ _
  · have := hhi _ h; omega
  · have := hhi _ h; omega
  · have := hhi _ hk
    rw [World.size_alloc]
    omega
end
set_option maxHeartbeats 400000 in
theorem new_out (n x : Int) (w : World) (hn : n < 0 ∨ 65536 < n) : Calls Try.prog 7 #[.int .i64 n, .int .i64 x] w fun e w' => e = .returned (.tuple #[.pointer none, .int .i64 10]) ∧ w' = w := by
  by_cases h0 : n < 0
  · clear hn
    go_enter Try.func7, Try.ntmps7
    go_wp2
    go_ret2
    exact ⟨rfl, rfl⟩
  · have h1 : 65536 < n := by omega
    clear hn
    go_enter Try.func7, Try.ntmps7
    go_wp2
    go_ret2
    exact ⟨rfl, rfl⟩
end Go.Proofs.Ytjnljhigaapalaa.Un
