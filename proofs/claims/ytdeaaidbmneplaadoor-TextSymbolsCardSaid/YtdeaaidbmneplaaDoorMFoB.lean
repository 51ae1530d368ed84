/-
  The reference's Fold, walked.
-/
import Derived.Test.YtdeaaidbmneplaaDoorRows
import Derived.Test.YtdeaaidbmneplaaDoorMSymMem
import Derived.Test.YtdeaaidbmneplaaDoorMPuA
import Derived.Laws.Tables
import Derived.Deep.MidRow
import Derived.IntWalk
import Derived.Lib.Walk
import Derived.Deep.QuietTactic
import Derived.BigQuiet
import Derived.Deep.CutRange
import Derived.Laws.Slices
set_option linter.unusedSimpArgs false
set_option linter.unusedVariables false
namespace Go.Proofs.YtdeaaidbmneplaaDoor.Fo
section
open Go.RowKit Go.Proofs.YtdeaaidbmneplaaDoor.Mem
theorem build4 (a b c d : Int) (w : World) : Sem.run Tryd.prog (Instr.build 101 #[(0, .int .i64 a), (1, .int .i64 b), (2, .int .i64 c), (3, .int .i64 d)]) w = .ok (.agg #[.int .i64 a, .int .i64 b, .int .i64 c, .int .i64 d]) w := run_build w 101 _ _ (by kernel_rfl)
theorem build2 (a b : Int) (w : World) : Sem.run Tryd.prog (Instr.build 103 #[(0, .int .i64 a), (1, .int .i64 b)]) w = .ok (.agg #[.int .i64 a, .int .i64 b]) w := run_build w 103 _ _ (by kernel_rfl)
def cellsT : Array Value := #[.int .i64 65, .int .i64 90, .int .i64 1, .int .i64 32, .int .i64 192, .int .i64 214, .int .i64 1, .int .i64 32, .int .i64 216, .int .i64 222, .int .i64 1, .int .i64 32, .int .i64 256, .int .i64 302, .int .i64 2, .int .i64 1, .int .i64 306, .int .i64 310, .int .i64 2, .int .i64 1, .int .i64 313, .int .i64 327, .int .i64 2, .int .i64 1, .int .i64 330, .int .i64 374, .int .i64 2, .int .i64 1, .int .i64 377, .int .i64 381, .int .i64 2, .int .i64 1, .int .i64 913, .int .i64 929, .int .i64 1, .int .i64 32, .int .i64 931, .int .i64 939, .int .i64 1, .int .i64 32, .int .i64 1024, .int .i64 1039, .int .i64 1, .int .i64 80, .int .i64 1040, .int .i64 1071, .int .i64 1, .int .i64 32, .int .i64 1120, .int .i64 1152, .int .i64 2, .int .i64 1, .int .i64 1329, .int .i64 1366, .int .i64 1, .int .i64 48, .int .i64 7680, .int .i64 7828, .int .i64 2, .int .i64 1, .int .i64 9398, .int .i64 9423, .int .i64 1, .int .i64 26, .int .i64 65313, .int .i64 65338, .int .i64 1, .int .i64 32, .int .i64 66560, .int .i64 66599, .int .i64 1, .int .i64 40]
def cellsS : Array Value := #[.int .i64 181, .int .i64 956, .int .i64 376, .int .i64 255, .int .i64 383, .int .i64 115, .int .i64 962, .int .i64 963, .int .i64 8490, .int .i64 107, .int .i64 8491, .int .i64 229]
theorem buildT (w : World) : Sem.run Tryd.prog (Instr.build 102 #[(0, .agg #[.int .i64 65, .int .i64 90, .int .i64 1, .int .i64 32]), (1, .agg #[.int .i64 192, .int .i64 214, .int .i64 1, .int .i64 32]), (2, .agg #[.int .i64 216, .int .i64 222, .int .i64 1, .int .i64 32]), (3, .agg #[.int .i64 256, .int .i64 302, .int .i64 2, .int .i64 1]), (4, .agg #[.int .i64 306, .int .i64 310, .int .i64 2, .int .i64 1]), (5, .agg #[.int .i64 313, .int .i64 327, .int .i64 2, .int .i64 1]), (6, .agg #[.int .i64 330, .int .i64 374, .int .i64 2, .int .i64 1]), (7, .agg #[.int .i64 377, .int .i64 381, .int .i64 2, .int .i64 1]), (8, .agg #[.int .i64 913, .int .i64 929, .int .i64 1, .int .i64 32]), (9, .agg #[.int .i64 931, .int .i64 939, .int .i64 1, .int .i64 32]), (10, .agg #[.int .i64 1024, .int .i64 1039, .int .i64 1, .int .i64 80]), (11, .agg #[.int .i64 1040, .int .i64 1071, .int .i64 1, .int .i64 32]), (12, .agg #[.int .i64 1120, .int .i64 1152, .int .i64 2, .int .i64 1]), (13, .agg #[.int .i64 1329, .int .i64 1366, .int .i64 1, .int .i64 48]), (14, .agg #[.int .i64 7680, .int .i64 7828, .int .i64 2, .int .i64 1]), (15, .agg #[.int .i64 9398, .int .i64 9423, .int .i64 1, .int .i64 26]), (16, .agg #[.int .i64 65313, .int .i64 65338, .int .i64 1, .int .i64 32]), (17, .agg #[.int .i64 66560, .int .i64 66599, .int .i64 1, .int .i64 40])]) w = .ok (.agg cellsT) w := run_build w 102 _ _ (by kernel_rfl)
theorem buildS (w : World) : Sem.run Tryd.prog (Instr.build 104 #[(0, .agg #[.int .i64 181, .int .i64 956]), (1, .agg #[.int .i64 376, .int .i64 255]), (2, .agg #[.int .i64 383, .int .i64 115]), (3, .agg #[.int .i64 962, .int .i64 963]), (4, .agg #[.int .i64 8490, .int .i64 107]), (5, .agg #[.int .i64 8491, .int .i64 229])]) w = .ok (.agg cellsS) w := run_build w 104 _ _ (by kernel_rfl)
attribute [local go_sem] build4 build2 buildT buildS
theorem zeroT : ∃ zs : Array Value, zs.size = 72 ∧ ∀ w, Sem.run Tryd.prog (zeroValue 102) w = .ok (.agg zs) w := by
  have h : (Tryd.prog.info? 102).map (fun i => i.zero) = some (some (.agg (Array.replicate 72 (.int .i64 0)))) := by kernel_rfl
  refine ⟨Array.replicate 72 (.int .i64 0), by simp, fun w => ?_⟩
  cases hi : Tryd.prog.info? 102 with
  | none => rw [hi] at h; cases h
  | some i =>
    rw [hi] at h
    simp only [Option.map_some, Option.some.injEq] at h
    simp [zeroValue, typeInfo, hi, h]
theorem there_new {W : World} {zs : Array Value} {t : TypeId} {g n : Nat} (h : Blk W g t zs) (hn : n ≤ zs.size) : W.there g 0 n := fun j hj =>
  ⟨by rw [Nat.zero_add, h.cell j, Array.getElem?_eq_getElem (by omega)]; rfl, by rw [Nat.zero_add]; exact h.frozen j⟩
theorem store_all {W : World} {zs cs : Array Value} {t : TypeId} {g : Nat} (h : Blk W g t zs) (hs : cs.size = zs.size) (h1 : ∀ v ∈ cs.toList, v.oneCell' = true) :
    Sem.run Tryd.prog (storeCells ⟨g, 0, none⟩ cs.toList) W = .ok () (W.setCells g 0 cs.toList) := by
  have := run_storeCells_cells (P := Tryd.prog) g 0 cs.toList 0 W (fun j hj => by simpa using (there_new h (Nat.le_refl _) j (by rw [← hs]; simpa using hj)).1) (fun j hj => by simpa using (there_new h (Nat.le_refl _) j (by rw [← hs]; simpa using hj)).2) h1
  simpa using this
theorem below_setCells {B g : Nat} {a : World} : ∀ (vs : List Value) (o : Nat) (w : World), Below B a w → B ≤ g → Below B a (w.setCells g o vs)
  | [], _, _, h, _ => h
  | v :: vs, o, w, h, hg => below_setCells vs (o + 1) (w.setCell ⟨g, o, none⟩ v) (h.setCell hg v) hg
theorem cells_all {W : World} {zs cs : Array Value} {t : TypeId} {g : Nat} (h : Blk W g t zs) (hs : cs.size = zs.size) (j : Nat) (u : Value) (hj : cs[j]? = some u) : (W.setCells g 0 cs.toList).cell? ⟨g, j, none⟩ = some u := by
  have hlt : j < cs.size := (Array.getElem?_eq_some_iff.1 hj).1
  have := World.cell?_setCells_in g cs.toList 0 W (fun i hi => by simpa using (there_new h (Nat.le_refl _) i (by rw [← hs]; simpa using hi)).1) j (by simpa using hlt)
  rw [Nat.zero_add] at this
  rw [this]
  rw [Array.getElem?_eq_getElem hlt] at hj
  simpa using hj
def Tabs (g h : Nat) (W : World) : Prop := (∀ (j : Nat) (u : Value), cellsT[j]? = some u → W.cell? ⟨g, j, none⟩ = some u) ∧ (∀ (j : Nat) (u : Value), cellsS[j]? = some u → W.cell? ⟨h, j, none⟩ = some u)
theorem atS : ∀ k, k < 6 → ∃ p, S[k]? = some p ∧ cellsS[k * 2]? = some (.int .i64 p.1) ∧ cellsS[k * 2 + 1]? = some (.int .i64 p.2)
  | 0, _ => ⟨(181, 956), rfl, rfl, rfl⟩
  | 1, _ => ⟨(376, 255), rfl, rfl, rfl⟩
  | 2, _ => ⟨(383, 115), rfl, rfl, rfl⟩
  | 3, _ => ⟨(962, 963), rfl, rfl, rfl⟩
  | 4, _ => ⟨(8490, 107), rfl, rfl, rfl⟩
  | 5, _ => ⟨(8491, 229), rfl, rfl, rfl⟩
  | k + 6, h => by omega
theorem atT : ∀ k, k < 18 → ∃ r, T[k]? = some r ∧ cellsT[k * 4]? = some (.int .i64 r.lo) ∧ cellsT[k * 4 + 1]? = some (.int .i64 r.hi) ∧ cellsT[k * 4 + 2]? = some (.int .i64 r.step) ∧ cellsT[k * 4 + 3]? = some (.int .i64 r.far)
  | 0, _ => ⟨⟨65, 90, 1, 32⟩, rfl, rfl, rfl, rfl, rfl⟩
  | 1, _ => ⟨⟨192, 214, 1, 32⟩, rfl, rfl, rfl, rfl, rfl⟩
  | 2, _ => ⟨⟨216, 222, 1, 32⟩, rfl, rfl, rfl, rfl, rfl⟩
  | 3, _ => ⟨⟨256, 302, 2, 1⟩, rfl, rfl, rfl, rfl, rfl⟩
  | 4, _ => ⟨⟨306, 310, 2, 1⟩, rfl, rfl, rfl, rfl, rfl⟩
  | 5, _ => ⟨⟨313, 327, 2, 1⟩, rfl, rfl, rfl, rfl, rfl⟩
  | 6, _ => ⟨⟨330, 374, 2, 1⟩, rfl, rfl, rfl, rfl, rfl⟩
  | 7, _ => ⟨⟨377, 381, 2, 1⟩, rfl, rfl, rfl, rfl, rfl⟩
  | 8, _ => ⟨⟨913, 929, 1, 32⟩, rfl, rfl, rfl, rfl, rfl⟩
  | 9, _ => ⟨⟨931, 939, 1, 32⟩, rfl, rfl, rfl, rfl, rfl⟩
  | 10, _ => ⟨⟨1024, 1039, 1, 80⟩, rfl, rfl, rfl, rfl, rfl⟩
  | 11, _ => ⟨⟨1040, 1071, 1, 32⟩, rfl, rfl, rfl, rfl, rfl⟩
  | 12, _ => ⟨⟨1120, 1152, 2, 1⟩, rfl, rfl, rfl, rfl, rfl⟩
  | 13, _ => ⟨⟨1329, 1366, 1, 48⟩, rfl, rfl, rfl, rfl, rfl⟩
  | 14, _ => ⟨⟨7680, 7828, 2, 1⟩, rfl, rfl, rfl, rfl, rfl⟩
  | 15, _ => ⟨⟨9398, 9423, 1, 26⟩, rfl, rfl, rfl, rfl, rfl⟩
  | 16, _ => ⟨⟨65313, 65338, 1, 32⟩, rfl, rfl, rfl, rfl, rfl⟩
  | 17, _ => ⟨⟨66560, 66599, 1, 40⟩, rfl, rfl, rfl, rfl, rfl⟩
  | k + 18, h => by omega
theorem far_bound {r : Row} (h : r ∈ T) : 0 ≤ r.far ∧ r.far ≤ 80 := by
  simp [T] at h
  rcases h with rfl | rfl | rfl | rfl | rfl | rfl | rfl | rfl | rfl | rfl | rfl | rfl | rfl | rfl | rfl | rfl | rfl | rfl <;> simp
def WMid (w W : World) (a b i : Value) (wx : World) : Prop := a = .pointer (some ⟨w.heap.size, 0, none⟩) ∧ b = .pointer (some ⟨W.heap.size, 0, none⟩) ∧ i = .int .i64 0 ∧ Tabs w.heap.size W.heap.size wx ∧ Below w.heap.size w wx
def SRel (x : Int) (w : World) (i : Value) (wr : World) : Prop := ∃ k : Nat, i = .int .i64 k ∧ k ≤ 6 ∧ S.find? (fun p => p.1 == x) = (S.drop k).find? (fun p => p.1 == x) ∧ w = wr
def TRel (x : Int) (w : World) (i : Value) (wr : World) : Prop := ∃ k : Nat, i = .int .i64 k ∧ k ≤ 18 ∧ T.find? (inRow x) = (T.drop k).find? (inRow x) ∧ w = wr
set_option maxHeartbeats 2000000 in
set_option maxRecDepth 100000 in
theorem with_any (x : Int) (w : World) (hlo : -9223372036854775808 ≤ x) (hhi : x ≤ 9223372036854775000) : Calls Tryd.prog 54 #[.int .i64 x] w fun e w' => e = .returned (.int .i64 (withP x)) ∧ Below w.heap.size w w' := by
  obtain ⟨zs, hzs, hz⟩ := zeroT
  have hne : ¬ zs = #[] := fun e => by rw [e] at hzs; simp at hzs
  have hs1 : cellsT.size = zs.size := by rw [hzs]; rfl
  have hone : ∀ v ∈ cellsT.toList, v.oneCell' = true := by decide +kernel
  have hblk := Blk.new w 102 zs
  have hst := store_all hblk hs1 hone
  have HC1 := hide (cells_all hblk hs1)
  have HB1 := hide (below_setCells cellsT.toList 0 (w.alloc (.cells zs 102)) ((Below.refl w.heap.size w).alloc (Nat.le_refl _) _) (Nat.le_refl _))
  clear hzs hs1 hone hblk
  go_enter Tryd.func54, Tryd.ntmps54
  go_upto_region 2 with fail
  clear hst
  generalize (w.alloc (.cells zs 102)).setCells w.heap.size 0 cellsT.toList = W1 at HC1 HB1 ⊢
  have hs2 : cellsS.size = (#[.int .i64 0, .int .i64 0, .int .i64 0, .int .i64 0, .int .i64 0, .int .i64 0, .int .i64 0, .int .i64 0, .int .i64 0, .int .i64 0, .int .i64 0, .int .i64 0] : Array Value).size := by rfl
  have hone2 : ∀ v ∈ cellsS.toList, v.oneCell' = true := by decide +kernel
  have hblk2 := Blk.new W1 104 #[.int .i64 0, .int .i64 0, .int .i64 0, .int .i64 0, .int .i64 0, .int .i64 0, .int .i64 0, .int .i64 0, .int .i64 0, .int .i64 0, .int .i64 0, .int .i64 0]
  have hst2 := store_all hblk2 hs2 hone2
  have hT : Tabs w.heap.size W1.heap.size ((W1.alloc (.cells #[.int .i64 0, .int .i64 0, .int .i64 0, .int .i64 0, .int .i64 0, .int .i64 0, .int .i64 0, .int .i64 0, .int .i64 0, .int .i64 0, .int .i64 0, .int .i64 0] 104)).setCells W1.heap.size 0 cellsS.toList) := by
    refine ⟨fun j u hj => ?_, cells_all hblk2 hs2⟩
    have hb := below_setCells (g := W1.heap.size) cellsS.toList 0 _ ((Below.refl W1.heap.size W1).alloc (Nat.le_refl _) (.cells #[.int .i64 0, .int .i64 0, .int .i64 0, .int .i64 0, .int .i64 0, .int .i64 0, .int .i64 0, .int .i64 0, .int .i64 0, .int .i64 0, .int .i64 0, .int .i64 0] 104)) (Nat.le_refl _)
    have hc := (unhide HC1) j u hj
    exact (hb.cell (p := ⟨w.heap.size, j, none⟩) (cell_lt hc)).trans hc
  have hB : Below w.heap.size w ((W1.alloc (.cells #[.int .i64 0, .int .i64 0, .int .i64 0, .int .i64 0, .int .i64 0, .int .i64 0, .int .i64 0, .int .i64 0, .int .i64 0, .int .i64 0, .int .i64 0, .int .i64 0] 104)).setCells W1.heap.size 0 cellsS.toList) :=
    below_setCells cellsS.toList 0 _ ((unhide HB1).alloc (unhide HB1).size _) (unhide HB1).size
  have HT := hide hT
  have HB := hide hB
  clear hs2 hone2 hblk2 hT hB
  go_upto_region 3 with fail
  clear hst2
  go_cut [3, 4, 5] from 7 to 32 (fun a b i wx => WMid w W1 a b i wx)
  case first =>
    go_wp2_with fail
    go_meet
    exact ⟨rfl, rfl, rfl, unhide HT, unhide HB⟩
  case rest =>
    obtain ⟨rfl, rfl, rfl, hT, hB⟩ := hcut
    clear HT HB HC1 HB1 hz hne
    have HB := hide hB
    clear hB
    generalize w.heap.size = g at hT ⊢
    generalize W1.heap.size = h at hT ⊢
    have HT := hide hT
    clear hT
    go_wp2
    go_loopw [5] (fun i wr => SRel x wc i wr) (fun i _ => 6 - (intOf i).toNat)
    case atStart => exact ⟨0, rfl, by omega, rfl, rfl⟩
    case round =>
      obtain ⟨k, rfl, hk, hf, rfl⟩ := hrel
      by_cases hlt : k < 6
      · obtain ⟨p, hp, e1, e2⟩ := atS k hlt
        have c1 := (unhide HT).2 _ _ e1
        have c2 := (unhide HT).2 _ _ e2
        have hd : S.drop k = p :: S.drop (k + 1) := by
          have hl := (List.getElem?_eq_some_iff.1 hp)
          rw [List.drop_eq_getElem_cons hl.1, hl.2]
        have hlt' : (k : Int) < 6 := by omega
        have HF := hide hf
        have HD := hide hd
        clear hf hd hp e1 e2
        by_cases hx : p.1 = x
        · have hw := hide (show withP x = p.2 by unfold withP; rw [unhide HF, unhide HD, List.find?_cons, show (p.1 == x) = true by simpa using hx])
          have hx2 : (p.1 == x) = true := by simpa using hx
          clear hx
          go_wp2
          go_ret
          exact ⟨by rw [unhide hw]; rfl, unhide HB⟩
        · have hx2 : (p.1 == x) = false := by simpa using hx
          have HX := hide hx2
          go_wp2
          go_roundw
          case rel => exact ⟨k + 1, by go_num, by omega, by rw [unhide HF, unhide HD, List.find?_cons, unhide HX], rfl⟩
          case measure => simp [intOf]; omega
      · obtain rfl : k = 6 := by omega
        have hns := hide (show S.find? (fun p => p.1 == x) = none by rw [hf]; rfl)
        clear hf
        go_wp2
        go_loopw [6] (fun i wr => TRel x wc i wr) (fun i _ => 18 - (intOf i).toNat)
        case atStart => exact ⟨0, rfl, by omega, rfl, rfl⟩
        case round =>
          obtain ⟨k, rfl, hk, hf, rfl⟩ := hrel
          by_cases hlt : k < 18
          · obtain ⟨r, hr, e0, e1, e2, e3⟩ := atT k hlt
            have c0 := (unhide HT).1 _ _ e0
            have c1 := (unhide HT).1 _ _ e1
            have c2 := (unhide HT).1 _ _ e2
            have c3 := (unhide HT).1 _ _ e3
            have hd : T.drop k = r :: T.drop (k + 1) := by
              have hl := (List.getElem?_eq_some_iff.1 hr)
              rw [List.drop_eq_getElem_cons hl.1, hl.2]
            have hfb := far_bound (List.mem_of_getElem? hr)
            have hlt' : (k : Int) < 18 := by omega
            have hk0 : (0 : Int) ≤ (k : Int) := by omega
            have hwr : IntKind.i64.wrap (x + r.far) = x + r.far := by simp [IntKind.wrap, IntKind.bits, IntKind.signed]; omega
            have HF := hide hf
            have HD := hide hd
            clear hf hd hr e0 e1 e2 e3
            by_cases h1 : r.lo ≤ x
            · by_cases h2 : x ≤ r.hi
              · by_cases h3 : r.step = 1
                · have d3 : (r.step == 1) = true := by simpa using h3
                  have H3 := hide h3
                  clear h3
                  have HW := hide (show withP x = x + r.far by
                    unfold withP
                    rw [unhide hns, unhide HF, unhide HD, List.find?_cons, show inRow x r = true by simp [inRow, h1, h2, unhide H3]])
                  go_wp2
                  go_ret
                  exact ⟨by rw [unhide HW]; rfl, unhide HB⟩
                · have d3 : (r.step == 1) = false := by simpa using h3
                  by_cases h4 : x.tmod 2 = r.lo.tmod 2
                  · have d4 : (x.tmod 2 == r.lo.tmod 2) = true := by simpa using h4
                    have H4 := hide h4
                    clear h4
                    have HW := hide (show withP x = x + r.far by
                      unfold withP
                      rw [unhide hns, unhide HF, unhide HD, List.find?_cons, show inRow x r = true by simp [inRow, h1, h2, unhide H4]])
                    go_wp2
                    go_ret
                    exact ⟨by rw [unhide HW]; rfl, unhide HB⟩
                  · have d4 : (x.tmod 2 == r.lo.tmod 2) = false := by simpa using h4
                    have HN := hide (show inRow x r = false by simp [inRow, h1, h2, h3, h4])
                    go_wp2
                    go_roundw
                    case rel => exact ⟨k + 1, by go_num, by omega, by rw [unhide HF, unhide HD, List.find?_cons, unhide HN], rfl⟩
                    case measure => simp [intOf]; omega
              · have HN := hide (show inRow x r = false by simp [inRow, h2])
                go_wp2
                all_goals go_roundw
                all_goals first | exact ⟨k + 1, by go_num, by omega, by rw [unhide HF, unhide HD, List.find?_cons, unhide HN], rfl⟩ | (simp [intOf]; omega)
            · have HN := hide (show inRow x r = false by simp [inRow, h1])
              go_wp2
              all_goals go_roundw
              all_goals first | exact ⟨k + 1, by go_num, by omega, by rw [unhide HF, unhide HD, List.find?_cons, unhide HN], rfl⟩ | (simp [intOf]; omega)
          · obtain rfl : k = 18 := by omega
            have HW := hide (show withP x = x by
              unfold withP
              rw [unhide hns, hf]; rfl)
            clear hf
            go_wp2
            go_ret
            exact ⟨by rw [unhide HW]; rfl, unhide HB⟩
end
section
open Go.RowKit Go.Proofs.YtdeaaidbmneplaaDoor.Mem
def i64 (x : Int) : Value := .int .i64 x
def CutI (w : World) (zs : List Int) (v : Value) (w' : World) : Prop := w'.ownsRow w.heap.size 3 1 v zs.length (zs.map i64) ∧ Below w.heap.size w w'
theorem own_base {W : World} {base e size n : Nat} {v : Value} {xs : List Value} (h : W.ownsRow base e size v n xs) : ∀ k, v.ownBlock = some k → base ≤ k := by
  intro k hk
  rcases h.2 with ⟨rfl, _⟩ | ⟨g, cap, cur, rfl, hb, _, _⟩
  · simp [Value.ownBlock] at hk
  · obtain rfl : g = k := by simpa [Value.ownBlock] using hk
    exact hb
theorem own_below {W W' : World} {base e size n : Nat} {v : Value} {xs : List Value} (h : W.ownsRow base e size v n xs) (hb : Below W.heap.size W W') : W'.ownsRow base e size v n xs := by
  refine ⟨h.1, ?_⟩
  rcases h.2 with h | ⟨g, cap, cur, rfl, h1, h2, h3⟩
  · exact .inl h
  · refine .inr ⟨g, cap, cur, rfl, h1, (hb.block g ?_).trans h2, h3⟩
    rcases Nat.lt_or_ge g W.heap.size with hlt | hge
    · exact hlt
    · rw [Array.getElem?_eq_none hge] at h2; cases h2
theorem CutI.on {w W W' : World} {zs : List Int} {v : Value} (h : CutI w zs v W) (hb : Below W.heap.size W W') : CutI w zs v W' := ⟨own_below h.1 hb, h.2.trans (hb.mono h.2.size)⟩
theorem own_reads {W : World} {base e size n : Nat} {v : Value} {xs : List Value} (h : W.ownsRow base e size v n xs) : ∃ A cap, v = .slice A n cap ∧ Reads W W.heap.size size A n xs ∧ n ≤ cap := by
  rcases h.2 with ⟨rfl, hn⟩ | ⟨g, cap, cur, rfl, hb, hh, hnc, hcm, hcs, ht⟩
  · exact ⟨none, 0, by rw [hn], Reads.of_own (by rw [hn]; exact hn ▸ h), by omega⟩
  · exact ⟨_, cap, rfl, Reads.of_own h, hnc⟩
theorem int_at {W : World} {A : Option Addr} {zs : List Int} {k : Nat} (h : Reads W W.heap.size 1 A zs.length (zs.map i64)) (hk : k < zs.length) :
    ∃ b off, A = some ⟨b, off, none⟩ ∧ W.cell? ⟨b, off + k, none⟩ = some (.int .i64 zs[k]) := by
  obtain ⟨b, off, rfl, hlt, hc⟩ := h.flat (by omega)
  exact ⟨b, off, rfl, hc k (i64 zs[k]) (by simp [hk])⟩
theorem info_int : (Tryd.prog.info? 3).map (fun i => (i.zero, i.size, i.bytes)) = some (some (.int .i64 0), 1, 8) := by kernel_rfl
theorem one_i (z : Int) : ∀ u ∈ (#[.int .i64 z] : Array Value).toList, u.oneCell' = true := by simp [Value.oneCell']
theorem reads_new1 (W : World) (z : Int) (t : TypeId) : Reads (W.alloc (.cells #[.int .i64 z] t)) (W.heap.size + 1) 1 (some ⟨W.heap.size, 0, none⟩) 1 (#[.int .i64 z] : Array Value).toList :=
  ⟨rfl, fun _ => ⟨_, rfl, Nat.lt_succ_self _, fun j u hj => by
    rw [add_flat, Nat.zero_add, World.cell?_alloc_new]
    simpa using hj⟩⟩
theorem cutI_app {w W W' : World} {zs : List Int} {z : Int} {v v' : Value} {o : Obj} (h : CutI w zs v W) (ho : W'.ownsRow w.heap.size 3 1 v' (zs.length + 1) (zs.map i64 ++ #[Value.int .i64 z].toList)) (hg : (W.alloc o).grownBy W' v.ownBlock) : CutI w (zs ++ [z]) v' W' := by
  refine ⟨?_, (h.2.alloc h.2.size o).grown hg (by rw [World.size_alloc]; have := h.2.size; omega) (own_base h.1)⟩
  rw [List.length_append, List.map_append]
  exact ho
theorem own_lower {W : World} {base base' e size n : Nat} {v : Value} {xs : List Value} (h : W.ownsRow base e size v n xs) (hb : base' ≤ base) : W.ownsRow base' e size v n xs := by
  refine ⟨h.1, ?_⟩
  rcases h.2 with h | ⟨g, cap, cur, rfl, h1, h2⟩
  · exact .inl h
  · exact .inr ⟨g, cap, cur, rfl, by omega, h2⟩
theorem cut_up {w w1 W : World} {zs : List Int} {v : Value} (hb : Below w.heap.size w w1) (h : CutI w1 zs v W) : CutI w zs v W := ⟨own_lower h.1 hb.size, hb.trans (h.2.mono hb.size)⟩
theorem cut_drew {w W : World} {zs : List Int} {v : Value} (h : CutI w zs v W) (n : Nat) : CutI w zs v (W.drewN n) := ⟨h.1, below_drewN h.2 n⟩
theorem cut_len {w W : World} {zs out : List Int} {A : Option Addr} {cap : Nat} (h : CutI w zs (.slice A out.length cap) W) (hl : zs.length = out.length) : CutI w zs (.slice A out.length cap) W := h
theorem pw_one (l : List Int) : (l.take 1).Pairwise (· ≤ ·) := by
  cases l with
  | nil => simp
  | cons a t => simp
def Ins (out : List Int) (i k : Nat) (cur : List Int) : Prop := ∃ P e Q Z, cur = P ++ e :: (Q ++ Z) ∧ P.length = k ∧ k + Q.length = i ∧ cur.Perm out ∧ (P ++ Q).Pairwise (· ≤ ·) ∧ ∀ q ∈ Q, e ≤ q
theorem Ins.start {out cur : List Int} {i : Nat} (hp : cur.Perm out) (hs : (cur.take i).Pairwise (· ≤ ·)) (hi : i < cur.length) : Ins out i i cur :=
  ⟨cur.take i, cur[i], [], cur.drop (i + 1), by simp, by rw [List.length_take]; omega, by simp, hp, by simpa using hs, by simp⟩
theorem Ins.stop {out cur : List Int} {i k : Nat} (h : Ins out i k cur) (hs : k = 0 ∨ ∃ j p e, k = j + 1 ∧ cur[j]? = some p ∧ cur[k]? = some e ∧ p ≤ e) : (cur.take (i + 1)).Pairwise (· ≤ ·) := by
  obtain ⟨P, e, Q, Z, rfl, hP, hQ, hp, hsort, heq⟩ := h
  have ht : (P ++ e :: (Q ++ Z)).take (i + 1) = P ++ e :: Q := by
    have : P ++ e :: (Q ++ Z) = (P ++ e :: Q) ++ Z := by simp
    rw [this, List.take_append_of_le_length (by simp; omega), List.take_of_length_le (by simp; omega)]
  rw [ht]
  rw [List.pairwise_append] at hsort ⊢
  refine ⟨hsort.1, List.pairwise_cons.2 ⟨heq, hsort.2.1⟩, fun a ha b hb => ?_⟩
  rcases List.mem_cons.1 hb with rfl | hb
  · rcases hs with h0 | ⟨j, p, e', hj, hpj, hek, hle⟩
    · rw [List.eq_nil_of_length_eq_zero (hP.trans h0)] at ha; cases ha
    · have hek' : e' = b := by
        rw [List.getElem?_append_right (by omega), hP, Nat.sub_self] at hek
        simpa using hek.symm
      subst hek'
      rw [List.getElem?_append_left (by omega)] at hpj
      obtain ⟨hjl, hpe⟩ := List.getElem?_eq_some_iff.1 hpj
      obtain ⟨m, hm, rfl⟩ := List.mem_iff_getElem.1 ha
      rcases Nat.lt_or_ge m j with hlt | hge
      · have := List.pairwise_iff_getElem.1 hsort.1 m j hm hjl hlt
        omega
      · obtain rfl : m = j := by omega
        omega
  · exact hsort.2.2 a ha b hb
theorem Ins.step {out cur : List Int} {i j : Nat} {p e : Int} (h : Ins out i (j + 1) cur) (hpj : cur[j]? = some p) (hek : cur[j + 1]? = some e) (hlt : e < p) : Ins out i j ((cur.set (j + 1) p).set j e) := by
  obtain ⟨P, e', Q, Z, rfl, hP, hQ, hp, hsort, heq⟩ := h
  have hek' : e' = e := by
    rw [List.getElem?_append_right (by omega), hP, Nat.sub_self] at hek
    simpa using hek
  subst hek'
  rw [List.getElem?_append_left (by omega)] at hpj
  obtain ⟨hjl, hpe⟩ := List.getElem?_eq_some_iff.1 hpj
  have hPe : P = P.take j ++ [p] := by
    have := List.take_append_drop j P
    rw [List.drop_eq_getElem_cons hjl, hpe, List.drop_of_length_le (by omega)] at this
    exact this.symm
  have hset : ((P ++ e' :: (Q ++ Z)).set (j + 1) p).set j e' = P.take j ++ e' :: (p :: Q ++ Z) := by
    have hl : (P.take j).length = j := by rw [List.length_take]; omega
    rw [hPe]
    generalize P.take j = P' at hl ⊢
    subst hl
    simp [List.set_append]
  rw [hset]
  refine ⟨P.take j, e', p :: Q, Z, rfl, by rw [List.length_take]; omega, by simp; omega, ?_, ?_, ?_⟩
  · refine List.Perm.trans ?_ hp
    have e1 : P ++ e' :: (Q ++ Z) = P.take j ++ p :: e' :: (Q ++ Z) := by
      conv => lhs; rw [hPe]
      simp
    rw [e1]
    exact List.Perm.append_left _ (by simpa using List.Perm.swap p e' (Q ++ Z))
  · have : P.take j ++ p :: Q = P ++ Q := by
      conv => rhs; rw [hPe]
      simp
    rw [this]; exact hsort
  · intro q hq
    rcases List.mem_cons.1 hq with rfl | hq
    · omega
    · exact heq q hq
def far8 : List Int := [80, 48, 40, 32, 26, 1, 0, -1]
def nearG (b : Int) (fs : List Int) : List Int := ((fs.filter fun f => decide (0 ≤ f)).map fun f => b - f).filter fun y => decide (0 ≤ y) && withP y == b
theorem nearG_all (b : Int) : nearG b far8 = near b far := by
  unfold nearG near
  rfl
theorem nearG_snoc (b f : Int) (fs : List Int) : nearG b (fs ++ [f]) = nearG b fs ++ (if 0 ≤ f ∧ 0 ≤ b - f ∧ withP (b - f) = b then [b - f] else []) := by
  unfold nearG
  rw [List.filter_append, List.map_append, List.filter_append]
  congr 1
  by_cases h0 : 0 ≤ f
  · have e : ([f].filter fun f => decide (0 ≤ f)) = [f] := by simp [h0]
    rw [e]
    simp only [List.map_cons, List.map_nil]
    generalize b - f = y
    by_cases h1 : 0 ≤ y <;> by_cases h2 : withP y = b <;> simp [List.filter_cons, h0, h1, h2]
  · simp [h0]
theorem notin_take {f : Int} {out : List Int} {m : Nat} (h : m < out.length) : (f ∉ out.take (m + 1)) ↔ (f ∉ out.take m ∧ out[m] ≠ f) := by
  rw [List.take_succ_eq_append_getElem h, List.mem_append, List.mem_singleton, not_or]
  exact and_congr_right fun _ => ⟨fun h e => h e.symm, fun h e => h e.symm⟩
def FRel (b : Int) (w : World) (v i : Value) (wr : World) : Prop := ∃ k : Nat, i = .int .i64 k ∧ k ≤ 8 ∧ CutI w (nearG b (far8.take k)) v wr
def GRel (b : Int) (fin : List Int) (w : World) (v i : Value) (wr : World) : Prop := ∃ (k : Nat) (out : List Int), i = .int .i64 k ∧ k ≤ 6 ∧ out.length ≤ 8 + k ∧ six b out (spec.drop k) = fin ∧ CutI w out v wr
def HRel (y : Int) (out : List Int) (w : World) (fr i : Value) (wr : World) : Prop := ∃ k : Nat, i = .int .i64 k ∧ k ≤ out.length ∧ fr = .bool (decide (y ∉ out.take k)) ∧ w = wr
def PRel (out : List Int) (g cap : Nat) (w : World) (i : Value) (wr : World) : Prop := ∃ (k : Nat) (cur : List Int), i = .int .i64 k ∧ 1 ≤ k ∧ k ≤ out.length + 1 ∧ cur.Perm out ∧ (cur.take k).Pairwise (· ≤ ·) ∧ CutI w cur (.slice (some ⟨g, 0, none⟩) out.length cap) wr
def QRel (out : List Int) (i g cap : Nat) (w : World) (j : Value) (wr : World) : Prop := ∃ (k : Nat) (cur : List Int), j = .int .i64 k ∧ Ins out i k cur ∧ CutI w cur (.slice (some ⟨g, 0, none⟩) out.length cap) wr
theorem nearG_len (b : Int) (fs : List Int) : (nearG b fs).length ≤ fs.length := by
  unfold nearG
  refine Nat.le_trans (List.length_filter_le _ _) ?_
  rw [List.length_map]
  exact List.length_filter_le _ _
theorem at8 : ∀ k, k < 8 → ∃ f : Int, far8[k]? = some f ∧ (∀ w, Sem.run Tryd.prog (Instr.index 86 (.agg #[.int .i64 80, .int .i64 48, .int .i64 40, .int .i64 32, .int .i64 26, .int .i64 1, .int .i64 0, .int .i64 (-1)]) (.int .i64 ((k : Nat) : Int))) w = .ok (.int .i64 f) w) ∧ -1 ≤ f ∧ f ≤ 80
  | 0, _ => ⟨80, rfl, fun w => by kernel_rfl, by omega, by omega⟩
  | 1, _ => ⟨48, rfl, fun w => by kernel_rfl, by omega, by omega⟩
  | 2, _ => ⟨40, rfl, fun w => by kernel_rfl, by omega, by omega⟩
  | 3, _ => ⟨32, rfl, fun w => by kernel_rfl, by omega, by omega⟩
  | 4, _ => ⟨26, rfl, fun w => by kernel_rfl, by omega, by omega⟩
  | 5, _ => ⟨1, rfl, fun w => by kernel_rfl, by omega, by omega⟩
  | 6, _ => ⟨0, rfl, fun w => by kernel_rfl, by omega, by omega⟩
  | 7, _ => ⟨-1, rfl, fun w => by kernel_rfl, by omega, by omega⟩
  | k + 8, h => by omega
theorem at6 : ∀ k, k < 6 → ∃ f : Int, spec[k]? = some f ∧ (∀ w, Sem.run Tryd.prog (Instr.index 87 (.agg #[.int .i64 181, .int .i64 376, .int .i64 383, .int .i64 962, .int .i64 8490, .int .i64 8491]) (.int .i64 ((k : Nat) : Int))) w = .ok (.int .i64 f) w) ∧ 0 ≤ f ∧ f ≤ 8491
  | 0, _ => ⟨181, rfl, fun w => by kernel_rfl, by omega, by omega⟩
  | 1, _ => ⟨376, rfl, fun w => by kernel_rfl, by omega, by omega⟩
  | 2, _ => ⟨383, rfl, fun w => by kernel_rfl, by omega, by omega⟩
  | 3, _ => ⟨962, rfl, fun w => by kernel_rfl, by omega, by omega⟩
  | 4, _ => ⟨8490, rfl, fun w => by kernel_rfl, by omega, by omega⟩
  | 5, _ => ⟨8491, rfl, fun w => by kernel_rfl, by omega, by omega⟩
  | k + 6, h => by omega
theorem build8 (w : World) : Sem.run Tryd.prog (Instr.build 86 #[(0, .int .i64 80), (1, .int .i64 48), (2, .int .i64 40), (3, .int .i64 32), (4, .int .i64 26), (5, .int .i64 1), (6, .int .i64 0), (7, .int .i64 (-1))]) w = .ok (.agg #[.int .i64 80, .int .i64 48, .int .i64 40, .int .i64 32, .int .i64 26, .int .i64 1, .int .i64 0, .int .i64 (-1)]) w := run_build w 86 _ _ (by kernel_rfl)
theorem build6 (w : World) : Sem.run Tryd.prog (Instr.build 87 #[(0, .int .i64 181), (1, .int .i64 376), (2, .int .i64 383), (3, .int .i64 962), (4, .int .i64 8490), (5, .int .i64 8491)]) w = .ok (.agg #[.int .i64 181, .int .i64 376, .int .i64 383, .int .i64 962, .int .i64 8490, .int .i64 8491]) w := run_build w 87 _ _ (by kernel_rfl)
attribute [local go_sem] build8 build6
set_option maxHeartbeats 4000000 in
set_option maxRecDepth 100000 in
theorem orbit_in (x : Int) (w : World) (h0 : 0 ≤ x) (h1 : x ≤ 1114367) :
    Calls Tryd.prog 41 #[.int .i64 x] w fun e w' => ∃ v l, e = .returned v ∧ IsOrbit x l ∧ l.length ≤ 14 ∧ CutI w l v w' := by
  have hb := withP_bound x h0 h1
  obtain ⟨i0, hi, hz0, hz1, hz2⟩ := info_parts info_int
  have HFIN := hide (fun l (hp : List.Perm l _) hs => orbit_of x h0 h1 (l := l) hp hs)
  go_enter Tryd.func41, Tryd.ntmps41
  go_wp2_with fail
  refine (with_any x w (by omega) (by omega)).mono ?_
  rintro e w1 ⟨rfl, hb1⟩
  have HB1 := hide hb1
  clear hb1
  generalize withP x = b at *
  go_wp2
  go_loopw [3, 26] (fun v i wr => FRel b w1 v i wr) (fun _ i _ => 8 - (intOf i).toNat)
  case atStart => exact ⟨0, rfl, by omega, World.ownsRow_nil _ _ _ _, Below.refl _ _⟩
  case round =>
    obtain ⟨k, rfl, hk, hcut⟩ := hrel
    by_cases hlt : k < 8
    · obtain ⟨f, hf, e0, hf0, hf1⟩ := at8 k hlt
      have hlt' : (k : Int) < 8 := by omega
      have hwr : IntKind.i64.wrap (b - f) = b - f := by simp [IntKind.wrap, IntKind.bits, IntKind.signed]; omega
      have htk : nearG b (far8.take (k + 1)) = nearG b (far8.take k) ++ (if 0 ≤ f ∧ 0 ≤ b - f ∧ withP (b - f) = b then [b - f] else []) := by
        have hl := (List.getElem?_eq_some_iff.1 hf)
        rw [List.take_succ_eq_append_getElem hl.1, hl.2, nearG_snoc]
      have hpl : (nearG b (far8.take k)).length ≤ 8 := Nat.le_trans (nearG_len _ _) (Nat.le_trans (List.length_take_le _ _) (by omega))
      have HTK := hide htk
      have HCUT := hide hcut
      have hwz := hcut.2.size
      clear htk hcut hf
      generalize nearG b (far8.take k) = pre at *
      by_cases hfn : 0 ≤ f
      · by_cases hyn : 0 ≤ b - f
        · go_wp2_with fail
          refine (with_any (b - f) wr (by omega) (by omega)).mono ?_
          rintro e w2 ⟨rfl, hb2⟩
          have H2 := hide ((unhide HCUT).on hb2)
          have hwz2 : w1.heap.size ≤ w2.heap.size := Nat.le_trans hwz hb2.size
          clear hb2
          by_cases hc : withP (b - f) = b
          · rw [hc]
            have hbb : (b == b) = true := by simp
            have HE := hide hc
            have hmx : pre.length + 1 ≤ maxLen := by unfold maxLen; omega
            clear hc
            go_wp2_with (at_builtin; refine wpList_append_any _ rfl (.tmp 44) (.tmp 46) 24 rfl w1.heap.size 3 i0 (.int .i64 0) 1 8 Tryd.underlying24 hi hz0 hz1 hz2 rfl (by decide) _ pre.length _ rfl ((unhide H2).1.alloc _) _ _ 1 1 _ rfl (reads_new1 w2 (b - f) 3) (one_i _) hmx (by omega) (by rw [World.size_alloc]; omega) ?_; intro v5 w5 ho5 hg5 hn5; have H5 := hide (cutI_app (unhide H2) ho5 hg5); clear ho5 hg5 hn5)
            first | go_roundw | refine ⟨⟨_, _, _, _, ?rel, rfl, rfl, rfl, rfl⟩, ?measure⟩
            case rel => exact ⟨k + 1, by go_num, by omega, by rw [unhide HTK, if_pos ⟨hfn, hyn, unhide HE⟩]; exact unhide H5⟩
            case measure => simp [intOf]; omega
          · have hbb : (withP (b - f) == b) = false := by simpa using hc
            have HN := hide hc
            clear hc
            generalize withP (b - f) = c at *
            go_wp2
            first | go_roundw | refine ⟨⟨_, _, _, _, ?rel, rfl, rfl, rfl, rfl⟩, ?measure⟩
            case rel => exact ⟨k + 1, by go_num, by omega, by rw [unhide HTK, if_neg (fun h => unhide HN h.2.2), List.append_nil]; exact unhide H2⟩
            case measure => simp [intOf]; omega
        · go_wp2
          first | go_roundw | refine ⟨⟨_, _, _, _, ?rel, rfl, rfl, rfl, rfl⟩, ?measure⟩
          case rel => exact ⟨k + 1, by go_num, by omega, by rw [unhide HTK, if_neg (by omega), List.append_nil]; exact unhide HCUT⟩
          case measure => simp [intOf]; omega
      · go_wp2
        first | go_roundw | refine ⟨⟨_, _, _, _, ?rel, rfl, rfl, rfl, rfl⟩, ?measure⟩
        case rel => exact ⟨k + 1, by go_num, by omega, by rw [unhide HTK, if_neg (by omega), List.append_nil]; exact unhide HCUT⟩
        case measure => simp [intOf]; omega
    · obtain rfl : k = 8 := by omega
      rw [show far8.take 8 = far8 from rfl, nearG_all] at hcut
      have hnl : (near b far).length ≤ 8 := by rw [← nearG_all]; exact nearG_len _ _
      have hwz := hcut.2.size
      have HCUT := hide hcut
      clear hcut
      generalize hfin : six b (near b far) spec = fin at *
      have hst : GRel b fin w1 u3 (.int .i64 0) wr := ⟨0, near b far, rfl, by omega, by omega, hfin, unhide HCUT⟩
      have HST := hide hst
      clear hst hfin
      go_wp2
      go_loopw [3, 50] (fun v i wr => GRel b fin w1 v i wr) (fun _ i _ => 6 - (intOf i).toNat)
      case atStart => exact unhide HST
      case round =>
        obtain ⟨k, out, rfl, hk, hol, hsix, hcut⟩ := hrel
        by_cases hlt : k < 6
        · obtain ⟨f, hf, e0, hf0, hf1⟩ := at6 k hlt
          have hlt' : (k : Int) < 6 := by omega
          have hd : spec.drop k = f :: spec.drop (k + 1) := by
            have hl := (List.getElem?_eq_some_iff.1 hf)
            rw [List.drop_eq_getElem_cons hl.1, hl.2]
          rw [hd] at hsix
          unfold six at hsix
          have hwz := hcut.2.size
          have HS := hide hsix
          have HC2 := hide hcut
          clear hsix hcut hf hd
          go_wp2_with fail
          refine (with_any f wr (by omega) (by omega)).mono ?_
          rintro e w2 ⟨rfl, hb2⟩
          have hcut2 := (unhide HC2).on hb2
          have hwz2 : w1.heap.size ≤ w2.heap.size := Nat.le_trans hwz hb2.size
          have H2 := hide hcut2
          clear hb2 HC2
          by_cases hc : withP f = b
          · rw [hc]
            have hbb : (b == b) = true := by simp
            have HE := hide hc
            obtain ⟨A, cp, rfl, hr, hcp⟩ := own_reads hcut2.1
            have HR := hide hr
            clear hc hcut2 hr
            go_wp2
            go_loopw [10, 59] (fun fr i wx => HRel f out w2 fr i wx) (fun _ i _ => out.length - (intOf i).toNat)
            case atStart => exact ⟨0, rfl, Nat.zero_le _, by simp, rfl⟩
            case round =>
              obtain ⟨m, rfl, hm, rfl, rfl⟩ := hrel
              by_cases hmt : m < out.length
              · obtain ⟨b0, off, rfl, c1⟩ := int_at (unhide HR) hmt
                have hmt' : (m : Int) < (out.length : Int) := by omega
                have htk := notin_take (f := f) hmt
                generalize out[m] = z at c1 htk
                have HTK := hide htk
                clear htk
                by_cases hin : f ∈ out.take m
                · have hdi : decide (f ∉ out.take m) = false := by simpa using hin
                  have HIN := hide hin
                  rw [hdi]
                  clear hin hdi
                  go_wp2
                  first | go_roundw | refine ⟨⟨_, _, _, ?rel, rfl, rfl, rfl⟩, ?measure⟩
                  case rel => exact ⟨m + 1, by go_num, by omega, by rw [show decide (f ∉ out.take (m + 1)) = false by rw [decide_eq_false_iff_not, unhide HTK]; exact fun h => h.1 (unhide HIN)], rfl⟩
                  case measure => simp [intOf]; omega
                · have hdi : decide (f ∉ out.take m) = true := by simpa using hin
                  have HIN := hide hin
                  rw [hdi]
                  clear hin hdi
                  by_cases hzf : z = f
                  · have hzz : (z == f) = true := by simpa using hzf
                    have HZ := hide hzf
                    clear hzf
                    go_wp2
                    first | go_roundw | refine ⟨⟨_, _, _, ?rel, rfl, rfl, rfl⟩, ?measure⟩
                    case rel => exact ⟨m + 1, by go_num, by omega, by rw [show decide (f ∉ out.take (m + 1)) = false by rw [decide_eq_false_iff_not, unhide HTK]; exact fun h => h.2 (unhide HZ)]; simp [unhide HZ], rfl⟩
                    case measure => simp [intOf]; omega
                  · have hzz : (z == f) = false := by simpa using hzf
                    have HZ := hide hzf
                    clear hzf
                    go_wp2
                    first | go_roundw | refine ⟨⟨_, _, _, ?rel, rfl, rfl, rfl⟩, ?measure⟩
                    case rel => exact ⟨m + 1, by go_num, by omega, by rw [show decide (f ∉ out.take (m + 1)) = true by rw [decide_eq_true_iff, unhide HTK]; exact ⟨unhide HIN, unhide HZ⟩]; simp [unhide HZ], rfl⟩
                    case measure => simp [intOf]; omega
              · obtain rfl : m = out.length := by omega
                rw [List.take_length]
                by_cases hin : f ∈ out
                · have hdi : decide (f ∉ out) = false := by simpa using hin
                  have HIN := hide hin
                  rw [hdi]
                  clear hin hdi
                  go_wp2
                  first | refine ⟨⟨_, _, _, _, _, _, _, _, _, _, _, _, _, _, _, _, _, _, _, _, _, _, _, _, _, _, _, _, _, _, ?rel, rfl⟩, ?measure⟩ | refine ⟨⟨_, _, _, _, _, _, _, _, _, _, _, _, _, _, _, _, _, _, _, _, _, _, _, _, _, _, _, _, _, ?rel, rfl⟩, ?measure⟩ | refine ⟨⟨_, _, _, _, _, _, _, _, _, _, _, _, _, _, _, _, _, _, _, _, _, _, _, _, _, _, _, _, _, _, _, ?rel, rfl⟩, ?measure⟩
                  case rel => exact ⟨k + 1, out, by go_num, by omega, by omega, by have h := unhide HS; rwa [if_neg (fun h => h.2 (unhide HIN))] at h, unhide H2⟩
                  case measure => simp [intOf]; omega
                · have hdi : decide (f ∉ out) = true := by simpa using hin
                  have HIN := hide hin
                  rw [hdi]
                  clear hin hdi
                  have hmx : out.length + 1 ≤ maxLen := by unfold maxLen; omega
                  go_wp2_with (at_builtin; refine wpList_append_any _ rfl (.tmp 71) (.tmp 73) 24 rfl w1.heap.size 3 i0 (.int .i64 0) 1 8 Tryd.underlying24 hi hz0 hz1 hz2 rfl (by decide) _ out.length _ rfl ((unhide H2).1.alloc _) _ _ 1 1 _ rfl (reads_new1 w2 f 3) (one_i _) hmx (by omega) (by rw [World.size_alloc]; omega) ?_; intro v5 w5 ho5 hg5 hn5; have H5 := hide (cutI_app (unhide H2) ho5 hg5); clear ho5 hg5 hn5)
                  first | refine ⟨⟨_, _, _, _, _, _, _, _, _, _, _, _, _, _, _, _, _, _, _, _, _, _, _, _, _, _, _, _, _, _, ?rel, rfl⟩, ?measure⟩ | refine ⟨⟨_, _, _, _, _, _, _, _, _, _, _, _, _, _, _, _, _, _, _, _, _, _, _, _, _, _, _, _, _, ?rel, rfl⟩, ?measure⟩ | refine ⟨⟨_, _, _, _, _, _, _, _, _, _, _, _, _, _, _, _, _, _, _, _, _, _, _, _, _, _, _, _, _, _, _, ?rel, rfl⟩, ?measure⟩
                  case rel => exact ⟨k + 1, out ++ [f], by go_num, by omega, by simp; omega, by have h := unhide HS; rwa [if_pos ⟨unhide HE, unhide HIN⟩] at h, unhide H5⟩
                  case measure => simp [intOf]; omega
          · have hbb : (withP f == b) = false := by simpa using hc
            have hbn : (withP f != b) = true := by simp [hc]
            have HN := hide hc
            clear hc hcut2
            have HS2 := hide (by have h := unhide HS; rwa [if_neg (fun h => unhide HN h.1)] at h : six b out (spec.drop (k + 1)) = fin)
            clear HS
            generalize withP f = c at *
            go_wp2
            first | refine ⟨⟨_, _, _, _, _, _, _, _, _, _, _, _, _, _, _, _, _, _, _, _, _, _, _, _, _, _, _, _, _, _, ?rel, rfl⟩, ?measure⟩ | refine ⟨⟨_, _, _, _, _, _, _, _, _, _, _, _, _, _, _, _, _, _, _, _, _, _, _, _, _, _, _, _, _, ?rel, rfl⟩, ?measure⟩ | refine ⟨⟨_, _, _, _, _, _, _, _, _, _, _, _, _, _, _, _, _, _, _, _, _, _, _, _, _, _, _, _, _, _, _, ?rel, rfl⟩, ?measure⟩
            case rel => exact ⟨k + 1, out, by go_num, by omega, by omega, unhide HS2, unhide H2⟩
            case measure => simp [intOf]; omega
        · obtain rfl : k = 6 := by omega
          have hfo : out = fin := hsix
          subst hfo
          have HFI := hide (fun l hp hs => (unhide HFIN) l hp hs)
          have H3 := hide hcut
          rcases hcut.1.2 with ⟨rfl, hn0⟩ | ⟨g, cap, cs, rfl, _, _, hnc, _⟩
          · have hnil : out = [] := List.eq_nil_of_length_eq_zero hn0
            have HNIL := hide hnil
            clear hcut hnil hol
            go_wp2
            go_loopw [13] (fun i wr => i = .int .i64 1 ∧ Hid (CutI w1 out (.slice none 0 0) wr)) (fun _ _ => 0)
            case atStart => exact ⟨rfl, H3⟩
            case round =>
              obtain ⟨rfl, h3⟩ := hrel
              go_wp2
              go_ret
              exact ⟨_, out, rfl, (unhide HFI) out (List.Perm.refl _) (by rw [unhide HNIL]; exact List.Pairwise.nil), by omega, cut_up (unhide HB1) (unhide h3)⟩
          · clear hcut
            go_wp2
            go_loopw [13] (fun i wr => PRel out g cap w1 i wr) (fun i _ => out.length + 1 - (intOf i).toNat)
            case atStart => exact ⟨1, out, rfl, by omega, by omega, List.Perm.refl _, pw_one out, unhide H3⟩
            case round =>
              obtain ⟨m, cur, rfl, hm1, hm2, hperm, hsort, hcut⟩ := hrel
              have hcl := hperm.length_eq
              by_cases hmt : m < out.length
              · have hmt' : (m : Int) < (out.length : Int) := by omega
                have HQ := hide (show QRel out m g cap w1 (.int .i64 m) wr from ⟨m, cur, rfl, Ins.start hperm hsort (by omega), hcut⟩)
                clear hcut hsort hperm
                go_wp2
                go_loopw [14] (fun j wr => QRel out m g cap w1 j wr) (fun j _ => (intOf j).toNat)
                case atStart => exact unhide HQ
                case round =>
                  obtain ⟨j, cur2, rfl, hins, hcut2⟩ := hrel
                  have hjm : j ≤ m := by obtain ⟨P, e, Q, Z, _, _, h, _⟩ := hins; omega
                  have hcl2 : cur2.length = out.length := by obtain ⟨P, e, Q, Z, _, _, _, hp, _⟩ := hins; exact hp.length_eq
                  have hpm2 : cur2.Perm out := by obtain ⟨P, e, Q, Z, _, _, _, hp, _⟩ := hins; exact hp
                  have HI := hide hins
                  have HC := hide hcut2
                  have HP := hide hpm2
                  by_cases hj0 : j = 0
                  · have hd : decide (0 < j) = false := by simp; omega
                    have HJ := hide hj0
                    clear hins hcut2 hpm2 hj0
                    go_wp2_with fail
                    go_quiet (fail)
                    go_wp2
                    refine ⟨?rel, ?measure⟩
                    case rel => exact ⟨m + 1, cur2, by go_num, by omega, by omega, unhide HP, (unhide HI).stop (.inl (unhide HJ)), cut_drew (unhide HC) _⟩
                    case measure => simp [intOf]; omega
                  · obtain ⟨t, rfl⟩ : ∃ t, j = t + 1 := ⟨j - 1, by omega⟩
                    have hd : decide (0 < t + 1) = true := by simp
                    obtain ⟨p, hp⟩ : ∃ p, cur2[t]? = some p := ⟨_, List.getElem?_eq_getElem (by omega)⟩
                    obtain ⟨e, he⟩ : ∃ e, cur2[t + 1]? = some e := ⟨_, List.getElem?_eq_getElem (by omega)⟩
                    have ho := (cut_drew hcut2 0).1
                    have hv : wr.ownsRow w1.heap.size 3 1 (.slice (some ⟨g, 0, none⟩) cur2.length cap) cur2.length (cur2.map i64) := by have h := hcut2.1; rw [hcl2] at h ⊢; exact h
                    have c1 : wr.cell? ⟨g, t, none⟩ = some (.int .i64 p) := (hv.cellAt t (by omega)).trans (by simp [hp, i64])
                    have c2 : wr.cell? ⟨g, t + 1, none⟩ = some (.int .i64 e) := (hv.cellAt (t + 1) (by omega)).trans (by simp [he, i64])
                    have hw1 : IntKind.i64.wrap (t : Int) = t := by simp [IntKind.wrap, IntKind.bits, IntKind.signed]; omega
                    have htl : (t : Int) < (out.length : Int) := by omega
                    have htl2 : (t : Int) + 1 < (out.length : Int) := by omega
                    have ht0 : (0 : Int) ≤ (t : Int) := by omega
                    have HV := hide hv
                    have HPP := hide hp
                    have HEE := hide he
                    clear hins hcut2 hpm2 hj0 ho hv hp he
                    by_cases hep : e < p
                    · have HEP := hide hep
                      go_wp2_with fail
                      go_quiet (fail)
                      have hv2 : (wr.drewN nq).ownsRow w1.heap.size 3 1 (.slice (some ⟨g, 0, none⟩) cur2.length cap) cur2.length (cur2.map i64) := unhide HV
                      have e1 := hv2.frozenAt (t + 1)
                      have st := hv2.stored (t + 1) (.int .i64 p)
                      have e2 := st.1.cellAt t (by omega)
                      rw [List.getElem?_set_ne (by omega), List.getElem?_map, unhide HPP] at e2
                      have e3 := st.1.frozenAt t
                      have st2 := st.1.stored t (.int .i64 e)
                      have hgm : w1.heap.size ≤ g := own_base (unhide HC).1 g rfl
                      have hb2 : Below w1.heap.size w1 (((wr.drewN nq).setCell ⟨g, t + 1, none⟩ (.int .i64 p)).setCell ⟨g, t, none⟩ (.int .i64 e)) := ((below_drewN (unhide HC).2 nq).setCell hgm _).setCell hgm _
                      have hnew : CutI w1 ((cur2.set (t + 1) p).set t e) (.slice (some ⟨g, 0, none⟩) out.length cap) (((wr.drewN nq).setCell ⟨g, t + 1, none⟩ (.int .i64 p)).setCell ⟨g, t, none⟩ (.int .i64 e)) := by
                        refine ⟨?_, hb2⟩
                        have h := st2.1
                        rw [← hcl2]
                        simpa [List.map_set, i64] using h
                      have HN := hide hnew
                      clear st st2 hv2 hb2 hnew
                      go_wp2_with fail
                      first | go_roundw | refine ⟨?rel, ?measure⟩
                      case rel => exact ⟨t, _, by go_num, (unhide HI).step (unhide HPP) (unhide HEE) (unhide HEP), unhide HN⟩
                      case measure => simp [intOf]
                    · have HEP := hide hep
                      have hdp : decide (e < p) = false := by simpa using hep
                      go_wp2_with fail
                      go_quiet (fail)
                      go_wp2
                      first | refine ⟨⟨_, _, _, _, _, _, _, _, _, _, _, _, _, _, _, _, _, _, _, _, _, _, _, _, _, _, _, _, _, _, _, _, _, _, _, _, _, _, _, _, _, _, _, ?rel, rfl⟩, ?measure⟩ | refine ⟨⟨_, _, _, _, _, _, _, _, _, _, _, _, _, _, _, _, _, _, _, _, _, _, _, _, _, _, _, _, _, _, _, _, _, _, _, _, _, _, _, _, _, _, ?rel, rfl⟩, ?measure⟩ | refine ⟨⟨_, _, _, _, _, _, _, _, _, _, _, _, _, _, _, _, _, _, _, _, _, _, _, _, _, _, _, _, _, _, _, _, _, _, _, _, _, _, _, _, _, _, _, _, ?rel, rfl⟩, ?measure⟩ | refine ⟨⟨_, _, _, _, _, _, _, _, _, _, _, _, _, _, _, _, _, _, _, _, _, _, _, _, _, _, _, _, _, _, _, _, _, _, _, _, _, _, _, _, _, ?rel, rfl⟩, ?measure⟩ | refine ⟨⟨_, _, _, _, _, _, _, _, _, _, _, _, _, _, _, _, _, _, _, _, _, _, _, _, _, _, _, _, _, _, _, _, _, _, _, _, _, _, _, _, _, _, _, _, _, ?rel, rfl⟩, ?measure⟩
                      case rel => exact ⟨m + 1, cur2, by go_num, by omega, by omega, unhide HP, (unhide HI).stop (.inr ⟨t, p, e, rfl, unhide HPP, unhide HEE, by have := unhide HEP; omega⟩), cut_drew (unhide HC) _⟩
                      case measure => simp [intOf]; omega
              · have hall : cur.Pairwise (· ≤ ·) := by rwa [List.take_of_length_le (by omega)] at hsort
                have HA := hide hall
                have HC := hide hcut
                have HP := hide hperm
                clear hsort hcut hperm hall
                go_wp2
                go_ret
                exact ⟨_, cur, rfl, (unhide HFI) cur (unhide HP) (unhide HA), by omega, cut_up (unhide HB1) (cut_len (unhide HC) hcl)⟩
set_option maxHeartbeats 1000000 in
theorem orbit_out (x : Int) (w : World) (h : x < 0 ∨ 1114367 < x) :
    Calls Tryd.prog 41 #[.int .i64 x] w fun e w' => ∃ v l, e = .returned v ∧ IsOrbit x l ∧ l.length ≤ 14 ∧ CutI w l v w' := by
  have hI : IsOrbit x [] := by unfold IsOrbit; rw [if_neg (by omega)]
  have HI := hide hI
  clear hI
  by_cases hn : x < 0
  · go_enter Tryd.func41, Tryd.ntmps41
    go_wp2
    go_ret
    first | exact ⟨_, [], rfl, unhide HI, by simp, World.ownsRow_nil _ _ _ _, Below.refl _ _⟩ | exact ⟨_, rfl, [], unhide HI, by simp, World.ownsRow_nil _ _ _ _, Below.refl _ _⟩
  · have hn2 : 1114367 < x := by omega
    go_enter Tryd.func41, Tryd.ntmps41
    go_wp2
    go_ret
    first | exact ⟨_, [], rfl, unhide HI, by simp, World.ownsRow_nil _ _ _ _, Below.refl _ _⟩ | exact ⟨_, rfl, [], unhide HI, by simp, World.ownsRow_nil _ _ _ _, Below.refl _ _⟩
theorem orbit_any (x : Int) (w : World) :
    Calls Tryd.prog 41 #[.int .i64 x] w fun e w' => ∃ v l, e = .returned v ∧ IsOrbit x l ∧ l.length ≤ 14 ∧ CutI w l v w' := by
  by_cases h0 : 0 ≤ x
  · by_cases h1 : x ≤ 1114367
    · exact orbit_in x w h0 h1
    · exact orbit_out x w (.inr (by omega))
  · exact orbit_out x w (.inl (by omega))
end
section
open Go.RowKit Go.Proofs.YtdeaaidbmneplaaDoor.Mem
def foldOf (x : Int) (l : List Int) : Int := l.headD x
set_option maxHeartbeats 1000000 in
theorem fold_any (x : Int) (w : World) :
    Calls Tryd.prog 32 #[.int .i64 x] w fun e w' => ∃ l, IsOrbit x l ∧ e = .returned (.int .i64 (foldOf x l)) ∧ Below w.heap.size w w' := by
  go_enter Tryd.func32, Tryd.ntmps32
  go_wp2_with fail
  refine (orbit_any x w).mono ?_
  rintro e w1 ⟨v, l, rfl, ho, hl, hcut⟩
  obtain ⟨A, cap, rfl, hr, hc⟩ := own_reads hcut.1
  have HO := hide ho
  have HB := hide hcut.2
  cases l with
  | nil =>
    clear ho hcut hr
    go_wp2
    go_ret
    exact ⟨[], unhide HO, rfl, unhide HB⟩
  | cons a t =>
    obtain ⟨b, off, rfl, c1⟩ := int_at hr (k := 0) (by simp)
    have c2 : w1.cell? ⟨b, off, none⟩ = some (.int .i64 a) := by simpa using c1
    have hlen : (0 : Int) < ((a :: t).length : Int) := by rw [List.length_cons]; omega
    have hne : (((a :: t).length : Int) == 0) = false := by rw [beq_eq_false_iff_ne, List.length_cons]; omega
    generalize hn : (a :: t).length = n at *
    clear ho hcut hr c1 hn
    go_wp2
    go_ret
    exact ⟨a :: t, unhide HO, rfl, unhide HB⟩
end
end Go.Proofs.YtdeaaidbmneplaaDoor.Fo
