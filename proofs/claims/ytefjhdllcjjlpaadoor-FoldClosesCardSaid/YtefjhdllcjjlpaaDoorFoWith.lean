/-
  The reference's with, walked.
-/
import Derived.Test.YtefjhdllcjjlpaaDoorRows
import Derived.Test.YtefjhdllcjjlpaaDoorSymMem
import Derived.Test.YtefjhdllcjjlpaaDoorFoPure
import Derived.Laws.Tables
import Derived.Deep.MidRow
import Derived.IntWalk
import Derived.Lib.Walk
import Derived.RegionTactic
import Derived.Deep.QuietTactic
import Derived.BigQuiet
import Derived.Deep.CutRange
set_option linter.unusedVariables false
set_option linter.unusedSimpArgs false
namespace Go.Proofs.YtefjhdllcjjlpaaDoor.Fo
open Go.RowKit Go.Proofs.YtefjhdllcjjlpaaDoor.Mem

theorem build4 (a b c d : Int) (w : World) : Sem.run Tryd.prog (Instr.build 56 #[(0, .int .i64 a), (1, .int .i64 b), (2, .int .i64 c), (3, .int .i64 d)]) w = .ok (.agg #[.int .i64 a, .int .i64 b, .int .i64 c, .int .i64 d]) w := run_build w 56 _ _ (by kernel_rfl)
theorem build2 (a b : Int) (w : World) : Sem.run Tryd.prog (Instr.build 58 #[(0, .int .i64 a), (1, .int .i64 b)]) w = .ok (.agg #[.int .i64 a, .int .i64 b]) w := run_build w 58 _ _ (by kernel_rfl)
def cellsT : Array Value := #[.int .i64 65, .int .i64 90, .int .i64 1, .int .i64 32, .int .i64 192, .int .i64 214, .int .i64 1, .int .i64 32, .int .i64 216, .int .i64 222, .int .i64 1, .int .i64 32, .int .i64 256, .int .i64 302, .int .i64 2, .int .i64 1, .int .i64 306, .int .i64 310, .int .i64 2, .int .i64 1, .int .i64 313, .int .i64 327, .int .i64 2, .int .i64 1, .int .i64 330, .int .i64 374, .int .i64 2, .int .i64 1, .int .i64 377, .int .i64 381, .int .i64 2, .int .i64 1, .int .i64 913, .int .i64 929, .int .i64 1, .int .i64 32, .int .i64 931, .int .i64 939, .int .i64 1, .int .i64 32, .int .i64 1024, .int .i64 1039, .int .i64 1, .int .i64 80, .int .i64 1040, .int .i64 1071, .int .i64 1, .int .i64 32, .int .i64 1120, .int .i64 1152, .int .i64 2, .int .i64 1, .int .i64 1329, .int .i64 1366, .int .i64 1, .int .i64 48, .int .i64 7680, .int .i64 7828, .int .i64 2, .int .i64 1, .int .i64 9398, .int .i64 9423, .int .i64 1, .int .i64 26, .int .i64 65313, .int .i64 65338, .int .i64 1, .int .i64 32, .int .i64 66560, .int .i64 66599, .int .i64 1, .int .i64 40]
def cellsS : Array Value := #[.int .i64 181, .int .i64 956, .int .i64 376, .int .i64 255, .int .i64 383, .int .i64 115, .int .i64 962, .int .i64 963, .int .i64 8490, .int .i64 107, .int .i64 8491, .int .i64 229]
theorem buildT (w : World) : Sem.run Tryd.prog (Instr.build 57 #[(0, .agg #[.int .i64 65, .int .i64 90, .int .i64 1, .int .i64 32]), (1, .agg #[.int .i64 192, .int .i64 214, .int .i64 1, .int .i64 32]), (2, .agg #[.int .i64 216, .int .i64 222, .int .i64 1, .int .i64 32]), (3, .agg #[.int .i64 256, .int .i64 302, .int .i64 2, .int .i64 1]), (4, .agg #[.int .i64 306, .int .i64 310, .int .i64 2, .int .i64 1]), (5, .agg #[.int .i64 313, .int .i64 327, .int .i64 2, .int .i64 1]), (6, .agg #[.int .i64 330, .int .i64 374, .int .i64 2, .int .i64 1]), (7, .agg #[.int .i64 377, .int .i64 381, .int .i64 2, .int .i64 1]), (8, .agg #[.int .i64 913, .int .i64 929, .int .i64 1, .int .i64 32]), (9, .agg #[.int .i64 931, .int .i64 939, .int .i64 1, .int .i64 32]), (10, .agg #[.int .i64 1024, .int .i64 1039, .int .i64 1, .int .i64 80]), (11, .agg #[.int .i64 1040, .int .i64 1071, .int .i64 1, .int .i64 32]), (12, .agg #[.int .i64 1120, .int .i64 1152, .int .i64 2, .int .i64 1]), (13, .agg #[.int .i64 1329, .int .i64 1366, .int .i64 1, .int .i64 48]), (14, .agg #[.int .i64 7680, .int .i64 7828, .int .i64 2, .int .i64 1]), (15, .agg #[.int .i64 9398, .int .i64 9423, .int .i64 1, .int .i64 26]), (16, .agg #[.int .i64 65313, .int .i64 65338, .int .i64 1, .int .i64 32]), (17, .agg #[.int .i64 66560, .int .i64 66599, .int .i64 1, .int .i64 40])]) w = .ok (.agg cellsT) w := run_build w 57 _ _ (by kernel_rfl)
theorem buildS (w : World) : Sem.run Tryd.prog (Instr.build 59 #[(0, .agg #[.int .i64 181, .int .i64 956]), (1, .agg #[.int .i64 376, .int .i64 255]), (2, .agg #[.int .i64 383, .int .i64 115]), (3, .agg #[.int .i64 962, .int .i64 963]), (4, .agg #[.int .i64 8490, .int .i64 107]), (5, .agg #[.int .i64 8491, .int .i64 229])]) w = .ok (.agg cellsS) w := run_build w 59 _ _ (by kernel_rfl)
attribute [local go_sem] build4 build2 buildT buildS

theorem zeroT : ∃ zs : Array Value, zs.size = 72 ∧ ∀ w, Sem.run Tryd.prog (zeroValue 57) w = .ok (.agg zs) w := by
  have h : (Tryd.prog.info? 57).map (fun i => i.zero) = some (some (.agg (Array.replicate 72 (.int .i64 0)))) := by kernel_rfl
  refine ⟨Array.replicate 72 (.int .i64 0), by simp, fun w => ?_⟩
  cases hi : Tryd.prog.info? 57 with
  | none => rw [hi] at h; cases h
  | some i =>
    rw [hi] at h
    simp only [Option.map_some, Option.some.injEq] at h
    simp [zeroValue, typeInfo, hi, h]
theorem there_new {W : World} {zs : Array Value} {t : TypeId} {g n : Nat} (h : Blk W g t zs) (hn : n ≤ zs.size) : W.there g 0 n := fun j hj =>
  ⟨by rw [Nat.zero_add, h.cell j, Array.getElem?_eq_getElem (by omega)]; rfl, by rw [Nat.zero_add]; exact h.frozen j⟩
theorem store_all {W : World} {zs cs : Array Value} {t : TypeId} {g : Nat} (h : Blk W g t zs) (hs : cs.size = zs.size) (h1 : ∀ v ∈ cs.toList, v.oneCell' = true) :
    Sem.run Tryd.prog (storeCells ⟨g, 0, none⟩ cs.toList) W = .ok () (W.setCells g 0 cs.toList) := by
  have := run_storeCells_cells (P := Tryd.prog) g 0 cs.toList 0 W (fun j hj => by simpa using (there_new h (Nat.le_refl _) j (by rw [← hs]; simpa using hj)).1) (fun j hj => by simpa using (there_new h (Nat.le_refl _) j (by rw [← hs]; simpa using hj)).2) h1
  simpa using this
theorem below_setCells {B g : Nat} {a : World} : ∀ (vs : List Value) (o : Nat) (w : World), Below B a w → B ≤ g → Below B a (w.setCells g o vs)
  | [], _, _, h, _ => h
  | v :: vs, o, w, h, hg => below_setCells vs (o + 1) (w.setCell ⟨g, o, none⟩ v) (h.setCell hg v) hg
theorem cells_all {W : World} {zs cs : Array Value} {t : TypeId} {g : Nat} (h : Blk W g t zs) (hs : cs.size = zs.size) (j : Nat) (u : Value) (hj : cs[j]? = some u) : (W.setCells g 0 cs.toList).cell? ⟨g, j, none⟩ = some u := by
  have hlt : j < cs.size := (Array.getElem?_eq_some_iff.1 hj).1
  have := World.cell?_setCells_in g cs.toList 0 W (fun i hi => by simpa using (there_new h (Nat.le_refl _) i (by rw [← hs]; simpa using hi)).1) j (by simpa using hlt)
  rw [Nat.zero_add] at this
  rw [this]
  rw [Array.getElem?_eq_getElem hlt] at hj
  simpa using hj

/-- the two tables lie in blocks g and h -/
def Tabs (g h : Nat) (W : World) : Prop := (∀ (j : Nat) (u : Value), cellsT[j]? = some u → W.cell? ⟨g, j, none⟩ = some u) ∧ (∀ (j : Nat) (u : Value), cellsS[j]? = some u → W.cell? ⟨h, j, none⟩ = some u)

theorem atS : ∀ k, k < 6 → ∃ p, S[k]? = some p ∧ cellsS[k * 2]? = some (.int .i64 p.1) ∧ cellsS[k * 2 + 1]? = some (.int .i64 p.2)
  | 0, _ => ⟨(181, 956), rfl, rfl, rfl⟩
  | 1, _ => ⟨(376, 255), rfl, rfl, rfl⟩
  | 2, _ => ⟨(383, 115), rfl, rfl, rfl⟩
  | 3, _ => ⟨(962, 963), rfl, rfl, rfl⟩
  | 4, _ => ⟨(8490, 107), rfl, rfl, rfl⟩
  | 5, _ => ⟨(8491, 229), rfl, rfl, rfl⟩
  | k + 6, h => by omega
theorem atT : ∀ k, k < 18 → ∃ r, T[k]? = some r ∧ cellsT[k * 4]? = some (.int .i64 r.lo) ∧ cellsT[k * 4 + 1]? = some (.int .i64 r.hi) ∧ cellsT[k * 4 + 2]? = some (.int .i64 r.step) ∧ cellsT[k * 4 + 3]? = some (.int .i64 r.far)
  | 0, _ => ⟨⟨65, 90, 1, 32⟩, rfl, rfl, rfl, rfl, rfl⟩
  | 1, _ => ⟨⟨192, 214, 1, 32⟩, rfl, rfl, rfl, rfl, rfl⟩
  | 2, _ => ⟨⟨216, 222, 1, 32⟩, rfl, rfl, rfl, rfl, rfl⟩
  | 3, _ => ⟨⟨256, 302, 2, 1⟩, rfl, rfl, rfl, rfl, rfl⟩
  | 4, _ => ⟨⟨306, 310, 2, 1⟩, rfl, rfl, rfl, rfl, rfl⟩
  | 5, _ => ⟨⟨313, 327, 2, 1⟩, rfl, rfl, rfl, rfl, rfl⟩
  | 6, _ => ⟨⟨330, 374, 2, 1⟩, rfl, rfl, rfl, rfl, rfl⟩
  | 7, _ => ⟨⟨377, 381, 2, 1⟩, rfl, rfl, rfl, rfl, rfl⟩
  | 8, _ => ⟨⟨913, 929, 1, 32⟩, rfl, rfl, rfl, rfl, rfl⟩
  | 9, _ => ⟨⟨931, 939, 1, 32⟩, rfl, rfl, rfl, rfl, rfl⟩
  | 10, _ => ⟨⟨1024, 1039, 1, 80⟩, rfl, rfl, rfl, rfl, rfl⟩
  | 11, _ => ⟨⟨1040, 1071, 1, 32⟩, rfl, rfl, rfl, rfl, rfl⟩
  | 12, _ => ⟨⟨1120, 1152, 2, 1⟩, rfl, rfl, rfl, rfl, rfl⟩
  | 13, _ => ⟨⟨1329, 1366, 1, 48⟩, rfl, rfl, rfl, rfl, rfl⟩
  | 14, _ => ⟨⟨7680, 7828, 2, 1⟩, rfl, rfl, rfl, rfl, rfl⟩
  | 15, _ => ⟨⟨9398, 9423, 1, 26⟩, rfl, rfl, rfl, rfl, rfl⟩
  | 16, _ => ⟨⟨65313, 65338, 1, 32⟩, rfl, rfl, rfl, rfl, rfl⟩
  | 17, _ => ⟨⟨66560, 66599, 1, 40⟩, rfl, rfl, rfl, rfl, rfl⟩
  | k + 18, h => by omega
theorem far_bound {r : Row} (h : r ∈ T) : 0 ≤ r.far ∧ r.far ≤ 80 := by
  simp [T] at h
  rcases h with rfl | rfl | rfl | rfl | rfl | rfl | rfl | rfl | rfl | rfl | rfl | rfl | rfl | rfl | rfl | rfl | rfl | rfl <;> simp
def WMid (w W : World) (a b i : Value) (wx : World) : Prop := a = .pointer (some ⟨w.heap.size, 0, none⟩) ∧ b = .pointer (some ⟨W.heap.size, 0, none⟩) ∧ i = .int .i64 0 ∧ Tabs w.heap.size W.heap.size wx ∧ Below w.heap.size w wx
def SRel (x : Int) (w : World) (i : Value) (wr : World) : Prop := ∃ k : Nat, i = .int .i64 k ∧ k ≤ 6 ∧ S.find? (fun p => p.1 == x) = (S.drop k).find? (fun p => p.1 == x) ∧ w = wr
def TRel (x : Int) (w : World) (i : Value) (wr : World) : Prop := ∃ k : Nat, i = .int .i64 k ∧ k ≤ 18 ∧ T.find? (inRow x) = (T.drop k).find? (inRow x) ∧ w = wr

set_option maxHeartbeats 2000000 in
set_option maxRecDepth 100000 in
theorem with_any (x : Int) (w : World) (hlo : -9223372036854775808 ≤ x) (hhi : x ≤ 9223372036854775000) : Calls Tryd.prog 21 #[.int .i64 x] w fun e w' => e = .returned (.int .i64 (withP x)) ∧ Below w.heap.size w w' := by
  obtain ⟨zs, hzs, hz⟩ := zeroT
  have hne : ¬ zs = #[] := fun e => by rw [e] at hzs; simp at hzs
  have hs1 : cellsT.size = zs.size := by rw [hzs]; rfl
  have hone : ∀ v ∈ cellsT.toList, v.oneCell' = true := by decide +kernel
  have hblk := Blk.new w 57 zs
  have hst := store_all hblk hs1 hone
  have HC1 := hide (cells_all hblk hs1)
  have HB1 := hide (below_setCells cellsT.toList 0 (w.alloc (.cells zs 57)) ((Below.refl w.heap.size w).alloc (Nat.le_refl _) _) (Nat.le_refl _))
  clear hzs hs1 hone hblk
  go_enter Tryd.func21, Tryd.ntmps21
  go_upto_region 2 with fail
  clear hst
  generalize (w.alloc (.cells zs 57)).setCells w.heap.size 0 cellsT.toList = W1 at HC1 HB1 ⊢
  have hs2 : cellsS.size = (#[.int .i64 0, .int .i64 0, .int .i64 0, .int .i64 0, .int .i64 0, .int .i64 0, .int .i64 0, .int .i64 0, .int .i64 0, .int .i64 0, .int .i64 0, .int .i64 0] : Array Value).size := by rfl
  have hone2 : ∀ v ∈ cellsS.toList, v.oneCell' = true := by decide +kernel
  have hblk2 := Blk.new W1 59 #[.int .i64 0, .int .i64 0, .int .i64 0, .int .i64 0, .int .i64 0, .int .i64 0, .int .i64 0, .int .i64 0, .int .i64 0, .int .i64 0, .int .i64 0, .int .i64 0]
  have hst2 := store_all hblk2 hs2 hone2
  have hT : Tabs w.heap.size W1.heap.size ((W1.alloc (.cells #[.int .i64 0, .int .i64 0, .int .i64 0, .int .i64 0, .int .i64 0, .int .i64 0, .int .i64 0, .int .i64 0, .int .i64 0, .int .i64 0, .int .i64 0, .int .i64 0] 59)).setCells W1.heap.size 0 cellsS.toList) := by
    refine ⟨fun j u hj => ?_, cells_all hblk2 hs2⟩
    have hb := below_setCells (g := W1.heap.size) cellsS.toList 0 _ ((Below.refl W1.heap.size W1).alloc (Nat.le_refl _) (.cells #[.int .i64 0, .int .i64 0, .int .i64 0, .int .i64 0, .int .i64 0, .int .i64 0, .int .i64 0, .int .i64 0, .int .i64 0, .int .i64 0, .int .i64 0, .int .i64 0] 59)) (Nat.le_refl _)
    have hc := (unhide HC1) j u hj
    exact (hb.cell (p := ⟨w.heap.size, j, none⟩) (cell_lt hc)).trans hc
  have hB : Below w.heap.size w ((W1.alloc (.cells #[.int .i64 0, .int .i64 0, .int .i64 0, .int .i64 0, .int .i64 0, .int .i64 0, .int .i64 0, .int .i64 0, .int .i64 0, .int .i64 0, .int .i64 0, .int .i64 0] 59)).setCells W1.heap.size 0 cellsS.toList) :=
    below_setCells cellsS.toList 0 _ ((unhide HB1).alloc (unhide HB1).size _) (unhide HB1).size
  have HT := hide hT
  have HB := hide hB
  clear hs2 hone2 hblk2 hT hB
  go_upto_region 3 with fail
  clear hst2
  go_cut [3, 4, 5] from 7 to 32 (fun a b i wx => WMid w W1 a b i wx)
  case first =>
    go_wp2_with fail
    go_meet
    exact ⟨rfl, rfl, rfl, unhide HT, unhide HB⟩
  case rest =>
    obtain ⟨rfl, rfl, rfl, hT, hB⟩ := hcut
    clear HT HB HC1 HB1 hz hne
    have HB := hide hB
    clear hB
    generalize w.heap.size = g at hT ⊢
    generalize W1.heap.size = h at hT ⊢
    have HT := hide hT
    clear hT
    go_wp2
    go_loopw [5] (fun i wr => SRel x wc i wr) (fun i _ => 6 - (intOf i).toNat)
    case atStart => exact ⟨0, rfl, by omega, rfl, rfl⟩
    case round =>
      obtain ⟨k, rfl, hk, hf, rfl⟩ := hrel
      by_cases hlt : k < 6
      · obtain ⟨p, hp, e1, e2⟩ := atS k hlt
        have c1 := (unhide HT).2 _ _ e1
        have c2 := (unhide HT).2 _ _ e2
        have hd : S.drop k = p :: S.drop (k + 1) := by
          have hl := (List.getElem?_eq_some_iff.1 hp)
          rw [List.drop_eq_getElem_cons hl.1, hl.2]
        have hlt' : (k : Int) < 6 := by omega
        have HF := hide hf
        have HD := hide hd
        clear hf hd hp e1 e2
        by_cases hx : p.1 = x
        · have hw := hide (show withP x = p.2 by unfold withP; rw [unhide HF, unhide HD, List.find?_cons, show (p.1 == x) = true by simpa using hx])
          have hx2 : (p.1 == x) = true := by simpa using hx
          clear hx
          go_wp2
          go_ret
          exact ⟨by rw [unhide hw]; rfl, unhide HB⟩
        · have hx2 : (p.1 == x) = false := by simpa using hx
          have HX := hide hx2
          go_wp2
          go_roundw
          case rel => exact ⟨k + 1, by go_num, by omega, by rw [unhide HF, unhide HD, List.find?_cons, unhide HX], rfl⟩
          case measure => simp [intOf]; omega
      · obtain rfl : k = 6 := by omega
        have hns := hide (show S.find? (fun p => p.1 == x) = none by rw [hf]; rfl)
        clear hf
        go_wp2
        go_loopw [6] (fun i wr => TRel x wc i wr) (fun i _ => 18 - (intOf i).toNat)
        case atStart => exact ⟨0, rfl, by omega, rfl, rfl⟩
        case round =>
          obtain ⟨k, rfl, hk, hf, rfl⟩ := hrel
          by_cases hlt : k < 18
          · obtain ⟨r, hr, e0, e1, e2, e3⟩ := atT k hlt
            have c0 := (unhide HT).1 _ _ e0
            have c1 := (unhide HT).1 _ _ e1
            have c2 := (unhide HT).1 _ _ e2
            have c3 := (unhide HT).1 _ _ e3
            have hd : T.drop k = r :: T.drop (k + 1) := by
              have hl := (List.getElem?_eq_some_iff.1 hr)
              rw [List.drop_eq_getElem_cons hl.1, hl.2]
            have hfb := far_bound (List.mem_of_getElem? hr)
            have hlt' : (k : Int) < 18 := by omega
            have hk0 : (0 : Int) ≤ (k : Int) := by omega
            have hwr : IntKind.i64.wrap (x + r.far) = x + r.far := by simp [IntKind.wrap, IntKind.bits, IntKind.signed]; omega
            have HF := hide hf
            have HD := hide hd
            clear hf hd hr e0 e1 e2 e3
            by_cases h1 : r.lo ≤ x
            · by_cases h2 : x ≤ r.hi
              · by_cases h3 : r.step = 1
                · have d3 : (r.step == 1) = true := by simpa using h3
                  have H3 := hide h3
                  clear h3
                  have HW := hide (show withP x = x + r.far by
                    unfold withP
                    rw [unhide hns, unhide HF, unhide HD, List.find?_cons, show inRow x r = true by simp [inRow, h1, h2, unhide H3]])
                  go_wp2
                  go_ret
                  exact ⟨by rw [unhide HW]; rfl, unhide HB⟩
                · have d3 : (r.step == 1) = false := by simpa using h3
                  by_cases h4 : x.tmod 2 = r.lo.tmod 2
                  · have d4 : (x.tmod 2 == r.lo.tmod 2) = true := by simpa using h4
                    have H4 := hide h4
                    clear h4
                    have HW := hide (show withP x = x + r.far by
                      unfold withP
                      rw [unhide hns, unhide HF, unhide HD, List.find?_cons, show inRow x r = true by simp [inRow, h1, h2, unhide H4]])
                    go_wp2
                    go_ret
                    exact ⟨by rw [unhide HW]; rfl, unhide HB⟩
                  · have d4 : (x.tmod 2 == r.lo.tmod 2) = false := by simpa using h4
                    have HN := hide (show inRow x r = false by simp [inRow, h1, h2, h3, h4])
                    go_wp2
                    go_roundw
                    case rel => exact ⟨k + 1, by go_num, by omega, by rw [unhide HF, unhide HD, List.find?_cons, unhide HN], rfl⟩
                    case measure => simp [intOf]; omega
              · have HN := hide (show inRow x r = false by simp [inRow, h2])
                go_wp2
                all_goals go_roundw
                all_goals first | exact ⟨k + 1, by go_num, by omega, by rw [unhide HF, unhide HD, List.find?_cons, unhide HN], rfl⟩ | (simp [intOf]; omega)
            · have HN := hide (show inRow x r = false by simp [inRow, h1])
              go_wp2
              all_goals go_roundw
              all_goals first | exact ⟨k + 1, by go_num, by omega, by rw [unhide HF, unhide HD, List.find?_cons, unhide HN], rfl⟩ | (simp [intOf]; omega)
          · obtain rfl : k = 18 := by omega
            have HW := hide (show withP x = x by
              unfold withP
              rw [unhide hns, hf]; rfl)
            clear hf
            go_wp2
            go_ret
            exact ⟨by rw [unhide HW]; rfl, unhide HB⟩
end Go.Proofs.YtefjhdllcjjlpaaDoor.Fo
