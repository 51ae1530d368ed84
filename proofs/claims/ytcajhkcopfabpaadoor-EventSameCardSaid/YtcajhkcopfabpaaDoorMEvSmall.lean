/-
  The small functions of layer event, walked (within, wrong, capsOf, Name, numbersOf); how a state and its place
-/
import Derived.Test.YtcajhkcopfabpaaDoorMSymMem
import Derived.Test.YtcajhkcopfabpaaDoorProg
import Derived.DeepKeys
import Derived.Deep.WholeRow
import Derived.Laws.Tables
import Derived.IntWalk
import Derived.LoopTactic
import Derived.BigQuiet
import Derived.Deep.QuietTactic
import Derived.KernelRfl
set_option linter.unusedSimpArgs false
set_option linter.unusedVariables false
namespace Go.Proofs.YtcajhkcopfabpaaDoor.Ev
open Go.RowKit Go.Proofs.YtcajhkcopfabpaaDoor.Mem
structure St where
  kind : Int
  node : Int
  phase : Int
  pos : Int
  start : Int
  depth : Int
  origin : Int
  caps : List Int
abbrev str (l : List UInt8) : Value := .string ⟨l.toArray⟩
structure CV (l : List Int) (A : Option Addr) (cap : Nat) (w : World) : Prop where
  room : l.length ≤ cap
  top : cap ≤ 9223372036854775807
  reads : Reads w w.heap.size 1 A l.length (l.map Mem.i64)
theorem CV.below {l : List Int} {A : Option Addr} {cap : Nat} {w w' : World} (h : CV l A cap w) (hb : Below w.heap.size w w') : CV l A cap w' := ⟨h.room, h.top, (h.reads.below hb).more hb.size⟩
theorem ret_b {a b : Bool} (h : a = b) : Ending.returned (.bool a) = .returned (.bool b) := by rw [h]
theorem below_box (w : World) (o : Obj) : Below w.heap.size w (w.alloc o) := (Below.refl _ _).alloc (Nat.le_refl _) _
theorem run_not_true {P : Program} (w : World) : Sem.run P (Op.unary UnOp.not (.bool true)) w = .ok (.bool false) w := rfl
theorem run_not_false {P : Program} (w : World) : Sem.run P (Op.unary UnOp.not (.bool false)) w = .ok (.bool true) w := rfl
def nmT : List (List UInt8) := [[], [98, 101, 103, 105, 110], [115, 116, 101, 112], [109, 105, 115, 115], [104, 101, 108, 100], [116, 117, 114, 110], [102, 111, 114, 107], [97, 103, 97, 105, 110], [111, 112, 101, 110], [99, 108, 111, 115, 101], [105, 110, 116, 111], [111, 117, 116], [100, 114, 111, 112], [109, 97, 116, 99, 104], [110, 111, 110, 101]]
def loT : List Int := [1, 0, 0, 0, 0, 0, -1]
def hiT : List Int := [14, 16384, 16384, 65536, 65536, 65536, 1048576]
def loF (k : Nat) : Int := loT.getD k 0
def hiF (k : Nat) : Int := hiT.getD k 0
def nmF (k : Nat) : List UInt8 := nmT.getD k []
def nameZ (k : Int) : List UInt8 := if 1 ≤ k ∧ k ≤ 14 then nmF k.toNat else []
structure Nm (w : World) : Prop where
  nm : ∀ k : Nat, k < 15 → w.cell? ⟨2, k, none⟩ = some (str (nmF k))
theorem Nm.below {w w' : World} {B : Nat} (h : Nm w) (hb : Below B w w') (hB : w.heap.size ≤ B) : Nm w' :=
  ⟨fun k hk => (hb.cell (p := ⟨2, k, none⟩) (Nat.lt_of_lt_of_le (cell_lt (h.nm k hk)) hB)).trans (h.nm k hk)⟩
set_option maxHeartbeats 1000000 in
theorem within_any (x a b : Int) (w : World) : Calls Tryd.prog 8 #[.int .i64 x, .int .i64 a, .int .i64 b] w fun e w' => e = .returned (.bool (decide (a ≤ x) && decide (x ≤ b))) ∧ w' = w := by
  by_cases h0 : a ≤ x
  · have HE := hide (show decide (x ≤ b) = (decide (a ≤ x) && decide (x ≤ b)) by simp [h0])
    go_enter Tryd.func8, Tryd.ntmps8
    go_wp2
    go_ret
    exact ⟨ret_b (unhide HE), rfl⟩
  · have HE := hide (show false = (decide (a ≤ x) && decide (x ≤ b)) by simp [h0])
    have h1 : x < a := by omega
    go_enter Tryd.func8, Tryd.ntmps8
    go_wp2
    go_ret
    exact ⟨ret_b (unhide HE), rfl⟩
def wrongB (x : Int) : Bool := decide (x < -1) || decide (65536 < x)
set_option maxHeartbeats 1000000 in
theorem wrong_any (x : Int) (w : World) : Calls Tryd.prog 16 #[.int .i64 x] w fun e w' => e = .returned (.bool (wrongB x)) ∧ w' = w := by
  by_cases h0 : x < -1
  · have HE := hide (show true = wrongB x by unfold wrongB; simp [h0])
    go_enter Tryd.func16, Tryd.ntmps16
    go_wp2
    go_ret
    exact ⟨ret_b (unhide HE), rfl⟩
  · have HE := hide (show decide (65536 < x) = wrongB x by unfold wrongB; simp [h0])
    go_enter Tryd.func16, Tryd.ntmps16
    go_wp2
    go_ret
    exact ⟨ret_b (unhide HE), rfl⟩
set_option maxHeartbeats 1000000 in
theorem capsOf_any (g : Int) (h0 : 0 ≤ g) (h1 : g ≤ 99) (w : World) : Calls Tryd.prog 17 #[.int .i64 g] w fun e w' => e = .returned (.int .i64 (2 * (g + 1))) ∧ w' = w := by
  have e1 : IntKind.i64.wrap (g + 1) = g + 1 := by rw [IntKind.wrap_i64]; omega
  have e2 : IntKind.i64.wrap (2 * (g + 1)) = 2 * (g + 1) := by rw [IntKind.wrap_i64]; omega
  go_enter Tryd.func17, Tryd.ntmps17
  go_wp2
  go_ret
  exact ⟨rfl, rfl⟩
set_option maxHeartbeats 1000000 in
theorem name_any (k : Int) (w : World) (hT : Nm w) : Calls Tryd.prog 14 #[.int .i64 k] w fun e w' => e = .returned (str (nameZ k)) ∧ w' = w := by
  by_cases h0 : k < 1
  · have HE := hide (show nameZ k = [] by unfold nameZ; rw [if_neg (by omega)])
    clear hT
    go_enter Tryd.func14, Tryd.ntmps14
    go_wp2
    go_ret
    exact ⟨by rw [unhide HE]; rfl, rfl⟩
  · by_cases h1 : 14 < k
    · have HE := hide (show nameZ k = [] by unfold nameZ; rw [if_neg (by omega)])
      clear hT
      go_enter Tryd.func14, Tryd.ntmps14
      go_wp2
      go_ret
      exact ⟨by rw [unhide HE]; rfl, rfl⟩
    · obtain ⟨n, rfl⟩ : ∃ n : Nat, k = (n : Int) := ⟨k.toNat, by omega⟩
      have HE := hide (show nameZ (n : Int) = nmF n by unfold nameZ; rw [if_pos (by omega), Int.toNat_natCast])
      have c0 := hT.nm n (by omega)
      have d1 : (n : Int) < 15 := by omega
      have d2 : n < 15 := by omega
      have d3 : 1 ≤ n := by omega
      have d4 : n ≤ 14 := by omega
      generalize nmF n = s at *
      clear hT
      go_enter Tryd.func14, Tryd.ntmps14
      go_wp2
      go_ret
      exact ⟨by rw [unhide HE]; rfl, rfl⟩
abbrev seven (a b c d e f g : Int) : Array Value := #[.int .i64 a, .int .i64 b, .int .i64 c, .int .i64 d, .int .i64 e, .int .i64 f, .int .i64 g]
theorem build_numbers (a b c d e f g : Int) (w : World) : Sem.run Tryd.prog (Instr.build 39 #[(0, .int .i64 a), (1, .int .i64 b), (2, .int .i64 c), (3, .int .i64 d), (4, .int .i64 e), (5, .int .i64 f), (6, .int .i64 g)]) w = .ok (.agg (seven a b c d e f g)) w := run_build w 39 _ _ (by kernel_rfl)
theorem zero_numbers : (∀ w, (zeroValue 39).run Tryd.prog w = .ok (.agg (seven 0 0 0 0 0 0 0)) w) ∧ (Tryd.prog.info? 39).map (·.size) = some 7 := zero_of_info (by kernel_rfl)
section
attribute [local go_sem] build_numbers
set_option maxRecDepth 100000 in
set_option maxHeartbeats 1000000 in
theorem nums_any (s : St) (A : Option Addr) (n c : Nat) (w : World) : Calls Tryd.prog 15 #[.agg #[.int .i64 s.kind, .int .i64 s.node, .int .i64 s.phase, .int .i64 s.pos, .int .i64 s.start, .int .i64 s.depth, .int .i64 s.origin, .slice A n c]] w fun e w' => e = .returned (.agg (seven s.kind s.node s.phase s.pos s.start s.depth s.origin)) ∧ Below w.heap.size w w' := by
  have h2 := zero_numbers.1
  go_enter Tryd.func15, Tryd.ntmps15
  go_wp2
  refine bodyPost_ret (results_cell_row rfl _ _ (w.heap.size + 1) 39 (seven s.kind s.node s.phase s.pos s.start s.depth s.origin) (0, 0) _ rfl (by simpa using heap_alloc_new (w.alloc _) _) Tryd.underlying39 rfl (by kernel_rfl)) rfl ⟨rfl, ((Below.refl _ _).alloc (Nat.le_refl _) _).alloc (by simp) _⟩
end
theorem eqIn_seven (a b c d e f g a' b' c' d' e' f' g' : Int) (w : World) : Sem.run Tryd.prog (Op.equalIn 10000 39 (.agg (seven a b c d e f g)) (.agg (seven a' b' c' d' e' f' g'))) w = .ok (decide (a = a' ∧ b = b' ∧ c = c' ∧ d = d' ∧ e = e' ∧ f = f' ∧ g = g')) w := by
  have u3 := Tryd.underlying3
  have a3 := Tryd.isAgg3
  have z3 := Tryd.sizeOf3
  obtain ⟨i0, hi0⟩ := Option.isSome_iff_exists.1 (show (Tryd.prog.info? 3).isSome = true by kernel_rfl)
  rw [show (10000 : Nat) = 9999 + 1 from rfl, run_equalIn_array w 9999 _ _ Tryd.underlying39 hi0]
  rw [show Tryd.prog.cellsOf 3 = 1 by kernel_rfl, show List.range 7 = [0, 1, 2, 3, 4, 5, 6] from rfl]
  simp only [Op.eqItems]
  go_simp
  by_cases h0 : a = a'
  · by_cases h1 : b = b'
    · by_cases h2 : c = c'
      · by_cases h3 : d = d'
        · by_cases h4 : e = e'
          · by_cases h5 : f = f'
            · by_cases h6 : g = g'
              · simp [h0, h1, h2, h3, h4, h5, h6]
              · simp [h0, h1, h2, h3, h4, h5, h6]
            · simp [h0, h1, h2, h3, h4, h5]
          · simp [h0, h1, h2, h3, h4]
        · simp [h0, h1, h2, h3]
      · simp [h0, h1, h2]
    · simp [h0, h1]
  · simp [h0]
theorem guard_seven (op : BinOp) (x y : Operand) (a b c d e f g a' b' c' d' e' f' g' : Int) (w : World) : Sem.run Tryd.prog (eqGuard op 39 x y (.agg (seven a b c d e f g)) (.agg (seven a' b' c' d' e' f' g'))) w = .ok () w := run_eqGuard_agg w op 39 x y _ _ (by kernel_rfl)
end Go.Proofs.YtcajhkcopfabpaaDoor.Ev
