/-
  Blank and Own, walked: a state ahead of all; a state with memory of its own.
-/
import Derived.Test.YtcajhkcopfabpaaDoorMEvRep
set_option linter.unusedSimpArgs false
set_option linter.unusedVariables false
namespace Go.Proofs.YtcajhkcopfabpaaDoor.Ev
open Go.RowKit Go.Proofs.YtcajhkcopfabpaaDoor.Mem
theorem own_reads {W : World} {base e size n : Nat} {v : Value} {xs : List Value} (h : W.ownsRow base e size v n xs) : ∃ A cap, v = .slice A n cap ∧ Reads W W.heap.size size A n xs ∧ n ≤ cap ∧ cap ≤ 9223372036854775807 := by
  rcases h.2 with ⟨rfl, hn⟩ | ⟨g, cap, cur, rfl, hb, hh, hnc, hcm, hcs, ht⟩
  · exact ⟨none, 0, by rw [hn], Reads.of_own (by rw [hn]; exact hn ▸ h), by omega, by omega⟩
  · exact ⟨_, cap, rfl, Reads.of_own h, hnc, by unfold maxLen at hcm; omega⟩
theorem own_lower {W : World} {base base' e size n : Nat} {v : Value} {xs : List Value} (h : W.ownsRow base e size v n xs) (hb : base' ≤ base) : W.ownsRow base' e size v n xs := by
  refine ⟨h.1, ?_⟩
  rcases h.2 with h | ⟨g, cap, cur, rfl, h1, h2⟩
  · exact .inl h
  · exact .inr ⟨g, cap, cur, rfl, by omega, h2⟩
theorem own_below {W W' : World} {base e size n : Nat} {v : Value} {xs : List Value} (h : W.ownsRow base e size v n xs) (hb : Below W.heap.size W W') : W'.ownsRow base e size v n xs := by
  refine ⟨h.1, ?_⟩
  rcases h.2 with h | ⟨g, cap, cur, rfl, h1, h2, h3⟩
  · exact .inl h
  · refine .inr ⟨g, cap, cur, rfl, h1, (hb.block g ?_).trans h2, h3⟩
    rcases Nat.lt_or_ge g W.heap.size with hlt | hge
    · exact hlt
    · rw [Array.getElem?_eq_none hge] at h2; cases h2
theorem own_cv {W : World} {base c : Nat} {A : Option Addr} {l : List Int} (h : W.ownsRow base 3 1 (.slice A l.length c) l.length (l.map Mem.i64)) : CV l A c W := by
  obtain ⟨A', c', e, h1, h2, h3⟩ := own_reads h
  cases e
  exact ⟨h2, h3, h1⟩
theorem zero_state : (∀ w, (zeroValue 24).run Tryd.prog w = .ok (.agg #[.int .i64 0, .int .i64 0, .int .i64 0, .int .i64 0, .int .i64 0, .int .i64 0, .int .i64 0, .slice none 0 0]) w) ∧ (Tryd.prog.info? 24).map (·.size) = some 8 := zero_of_info (by kernel_rfl)
theorem build_blank (A : Option Addr) (n c : Nat) (w : World) : Sem.run Tryd.prog (Instr.build 24 #[(6, .int .i64 (-1)), (7, .slice A n c)]) w = .ok (.agg #[.int .i64 0, .int .i64 0, .int .i64 0, .int .i64 0, .int .i64 0, .int .i64 0, .int .i64 (-1), .slice A n c]) w := run_build w 24 _ _ (by kernel_rfl)
theorem cells8 {w : World} {g : Nat} {t : TypeId} {a0 a1 a2 a3 a4 a5 a6 a7 : Value} (h : Blk w g t #[a0, a1, a2, a3, a4, a5, a6, a7]) : w.cell? ⟨g, 0, none⟩ = some a0 ∧ w.cell? ⟨g, 1, none⟩ = some a1 ∧ w.cell? ⟨g, 2, none⟩ = some a2 ∧ w.cell? ⟨g, 3, none⟩ = some a3 ∧ w.cell? ⟨g, 4, none⟩ = some a4 ∧ w.cell? ⟨g, 5, none⟩ = some a5 ∧ w.cell? ⟨g, 6, none⟩ = some a6 ∧ w.cell? ⟨g, 7, none⟩ = some a7 :=
  ⟨h.cell 0, h.cell 1, h.cell 2, h.cell 3, h.cell 4, h.cell 5, h.cell 6, h.cell 7⟩
theorem froz8 {w : World} {g : Nat} {t : TypeId} {cs : Array Value} (h : Blk w g t cs) : w.frozen? ⟨g, 0, none⟩ = false ∧ w.frozen? ⟨g, 1, none⟩ = false ∧ w.frozen? ⟨g, 2, none⟩ = false ∧ w.frozen? ⟨g, 3, none⟩ = false ∧ w.frozen? ⟨g, 4, none⟩ = false ∧ w.frozen? ⟨g, 5, none⟩ = false ∧ w.frozen? ⟨g, 6, none⟩ = false ∧ w.frozen? ⟨g, 7, none⟩ = false :=
  ⟨h.frozen 0, h.frozen 1, h.frozen 2, h.frozen 3, h.frozen 4, h.frozen 5, h.frozen 6, h.frozen 7⟩
def put8 (w : World) (g : Nat) (b0 b1 b2 b3 b4 b5 b6 b7 : Value) : World := ((((((((w.setCell ⟨g, 0, none⟩ b0).setCell ⟨g, 1, none⟩ b1).setCell ⟨g, 2, none⟩ b2).setCell ⟨g, 3, none⟩ b3).setCell ⟨g, 4, none⟩ b4).setCell ⟨g, 5, none⟩ b5).setCell ⟨g, 6, none⟩ b6).setCell ⟨g, 7, none⟩ b7)
theorem set8 {w : World} {g : Nat} {t : TypeId} {a0 a1 a2 a3 a4 a5 a6 a7 : Value} (h : Blk w g t #[a0, a1, a2, a3, a4, a5, a6, a7]) (b0 b1 b2 b3 b4 b5 b6 b7 : Value) : Blk (put8 w g b0 b1 b2 b3 b4 b5 b6 b7) g t #[b0, b1, b2, b3, b4, b5, b6, b7] :=
  by
  have h1 := ((((((((h.set_ 0 b0).set_ 1 b1).set_ 2 b2).set_ 3 b3).set_ 4 b4).set_ 5 b5).set_ 6 b6).set_ 7 b7)
  simpa [put8] using h1
theorem far8 {w : World} {g k : Nat} {t : TypeId} {cs : Array Value} (h : Blk w k t cs) (hk : k ≠ g) (b0 b1 b2 b3 b4 b5 b6 b7 : Value) : Blk (put8 w g b0 b1 b2 b3 b4 b5 b6 b7) k t cs :=
  ((((((((h.far (p := ⟨g, 0, none⟩) hk b0).far (p := ⟨g, 1, none⟩) hk b1).far (p := ⟨g, 2, none⟩) hk b2).far (p := ⟨g, 3, none⟩) hk b3).far (p := ⟨g, 4, none⟩) hk b4).far (p := ⟨g, 5, none⟩) hk b5).far (p := ⟨g, 6, none⟩) hk b6).far (p := ⟨g, 7, none⟩) hk b7)
theorem below8 {B : Nat} {w0 w : World} {g : Nat} (h : Below B w0 w) (hg : B ≤ g) (b0 b1 b2 b3 b4 b5 b6 b7 : Value) : Below B w0 (put8 w g b0 b1 b2 b3 b4 b5 b6 b7) :=
  ((((((((h.setCell (p := ⟨g, 0, none⟩) hg b0).setCell (p := ⟨g, 1, none⟩) hg b1).setCell (p := ⟨g, 2, none⟩) hg b2).setCell (p := ⟨g, 3, none⟩) hg b3).setCell (p := ⟨g, 4, none⟩) hg b4).setCell (p := ⟨g, 5, none⟩) hg b5).setCell (p := ⟨g, 6, none⟩) hg b6).setCell (p := ⟨g, 7, none⟩) hg b7)
theorem own8 {w : World} {base e size n g : Nat} {v : Value} {xs : List Value} (h : w.ownsRow base e size v n xs) (hg : v.ownBlock ≠ some g) (b0 b1 b2 b3 b4 b5 b6 b7 : Value) : (put8 w g b0 b1 b2 b3 b4 b5 b6 b7).ownsRow base e size v n xs :=
  by
  unfold put8
  refine ownsRow_setCell_other (a := ⟨g, 7, none⟩) ?_ hg b7
  refine ownsRow_setCell_other (a := ⟨g, 6, none⟩) ?_ hg b6
  refine ownsRow_setCell_other (a := ⟨g, 5, none⟩) ?_ hg b5
  refine ownsRow_setCell_other (a := ⟨g, 4, none⟩) ?_ hg b4
  refine ownsRow_setCell_other (a := ⟨g, 3, none⟩) ?_ hg b3
  refine ownsRow_setCell_other (a := ⟨g, 2, none⟩) ?_ hg b2
  refine ownsRow_setCell_other (a := ⟨g, 1, none⟩) ?_ hg b1
  refine ownsRow_setCell_other (a := ⟨g, 0, none⟩) ?_ hg b0
  exact h
section
attribute [local go_sem] build_blank
set_option maxRecDepth 100000 in
set_option maxHeartbeats 2000000 in
theorem blank_any (g : Int) (n : Nat) (hn : (n : Int) = 2 * (min (max g 0) 99 + 1)) (w : World) : Calls Tryd.prog 13 #[.int .i64 g] w fun e w' => ∃ gb, e = .returned (.agg #[.int .i64 0, .int .i64 0, .int .i64 0, .int .i64 0, .int .i64 0, .int .i64 0, .int .i64 (-1), .slice (some ⟨gb, 0, none⟩) n n]) ∧ Blk w' gb 3 (intA (List.replicate n (-1))) ∧ Below w.heap.size w w' := by
  have h2 := zero_state.1
  obtain ⟨q, hq⟩ : ∃ q, min (max g 0) 99 = q := ⟨_, rfl⟩
  rw [hq] at hn
  have hq0 : 0 ≤ q := by omega
  have hq1 : q ≤ 99 := by omega
  have CC := hide (fun W => capsOf_any q hq0 hq1 W)
  rw [← hn] at CC
  have hx := (Blk.new (w.alloc (.cells #[.int .i64 0, .int .i64 0, .int .i64 0, .int .i64 0, .int .i64 0, .int .i64 0, .int .i64 0, .slice none 0 0] 24)) 3 #[.int .i64 (-1)]).cell 0
  rw [World.size_alloc] at hx
  have hcr := repeat_any (-1) (w.heap.size + 1) n _ (by omega) (by omega) hx
  simp only [World.size_alloc] at hcr
  have CR := hide hcr
  have HG := hide ((Blk.new w 24 #[.int .i64 0, .int .i64 0, .int .i64 0, .int .i64 0, .int .i64 0, .int .i64 0, .int .i64 0, .slice none 0 0]).alloc (.cells #[.int .i64 (-1)] 3))
  have HB := hide ((below_box w (.cells #[.int .i64 0, .int .i64 0, .int .i64 0, .int .i64 0, .int .i64 0, .int .i64 0, .int .i64 0, .slice none 0 0] 24)).alloc (by simp) (.cells #[.int .i64 (-1)] 3))
  clear hn hx hq0 hq1 hcr
  go_enter Tryd.func13, Tryd.ntmps13
  go_wp2_with fail
  refine ((unhide CC) _).mono ?_
  rintro e w1 ⟨rfl, rfl⟩
  clear CC
  go_wp2_with fail
  refine (unhide CR).mono ?_
  rintro e w3 ⟨rfl, hbk, hb⟩
  have hgb := (unhide HG).below hb (by omega)
  obtain ⟨c0, c1, c2, c3, c4, c5, c6, c7⟩ := cells8 hgb
  obtain ⟨f0, f1, f2, f3, f4, f5, f6, f7⟩ := froz8 hgb
  have HGB := hide hgb
  have HBK := hide hbk
  have HB3 := hide ((unhide HB).trans (hb.mono (by omega)))
  clear CR HG HB hgb hbk hb hq
  go_wp2_with fail
  change bodyPost _ _ _ _ _ (put8 w3 w.heap.size (.int .i64 0) (.int .i64 0) (.int .i64 0) (.int .i64 0) (.int .i64 0) (.int .i64 0) (.int .i64 (-1)) (.slice (some ⟨w.heap.size + 1 + 1, 0, none⟩) n n))
  have hF := set8 (unhide HGB) (.int .i64 0) (.int .i64 0) (.int .i64 0) (.int .i64 0) (.int .i64 0) (.int .i64 0) (.int .i64 (-1)) (.slice (some ⟨w.heap.size + 1 + 1, 0, none⟩) n n)
  have hG := far8 (g := w.heap.size) (unhide HBK) (by omega) (.int .i64 0) (.int .i64 0) (.int .i64 0) (.int .i64 0) (.int .i64 0) (.int .i64 0) (.int .i64 (-1)) (.slice (some ⟨w.heap.size + 1 + 1, 0, none⟩) n n)
  have hH := below8 (g := w.heap.size) (unhide HB3) (Nat.le_refl _) (.int .i64 0) (.int .i64 0) (.int .i64 0) (.int .i64 0) (.int .i64 0) (.int .i64 0) (.int .i64 (-1)) (.slice (some ⟨w.heap.size + 1 + 1, 0, none⟩) n n)
  generalize put8 w3 w.heap.size (.int .i64 0) (.int .i64 0) (.int .i64 0) (.int .i64 0) (.int .i64 0) (.int .i64 0) (.int .i64 (-1)) (.slice (some ⟨w.heap.size + 1 + 1, 0, none⟩) n n) = W at *
  exact bodyPost_ret (results_cell_row rfl _ _ w.heap.size 24 _ (0, 0) _ rfl hF Tryd.underlying24 rfl (by kernel_rfl)) rfl ⟨_, rfl, hG, hH⟩
end
set_option maxRecDepth 100000 in
set_option maxHeartbeats 2000000 in
theorem own_any (s : St) (A : Option Addr) (c : Nat) (w : World) (hC : CV s.caps A c w) (hl : s.caps.length ≤ 17592186044416) :
    Calls Tryd.prog 11 #[.agg #[.int .i64 s.kind, .int .i64 s.node, .int .i64 s.phase, .int .i64 s.pos, .int .i64 s.start, .int .i64 s.depth, .int .i64 s.origin, .slice A s.caps.length c]] w fun e w' => ∃ A5 c5, e = .returned (.agg #[.int .i64 s.kind, .int .i64 s.node, .int .i64 s.phase, .int .i64 s.pos, .int .i64 s.start, .int .i64 s.depth, .int .i64 s.origin, .slice A5 s.caps.length c5]) ∧ w'.ownsRow w.heap.size 3 1 (.slice A5 s.caps.length c5) s.caps.length (s.caps.map Mem.i64) ∧ Below w.heap.size w w' := by
  have h2 := zero_state.1
  have bA := (Blk.new w 24 #[.int .i64 s.kind, .int .i64 s.node, .int .i64 s.phase, .int .i64 s.pos, .int .i64 s.start, .int .i64 s.depth, .int .i64 s.origin, .slice A s.caps.length c]).alloc (.cells #[.int .i64 0, .int .i64 0, .int .i64 0, .int .i64 0, .int .i64 0, .int .i64 0, .int .i64 0, .slice none 0 0] 24)
  have bB := Blk.new (w.alloc (.cells #[.int .i64 s.kind, .int .i64 s.node, .int .i64 s.phase, .int .i64 s.pos, .int .i64 s.start, .int .i64 s.depth, .int .i64 s.origin, .slice A s.caps.length c] 24)) 24 #[.int .i64 0, .int .i64 0, .int .i64 0, .int .i64 0, .int .i64 0, .int .i64 0, .int .i64 0, .slice none 0 0]
  rw [World.size_alloc] at bB
  have hb0 := (below_box w (.cells #[.int .i64 s.kind, .int .i64 s.node, .int .i64 s.phase, .int .i64 s.pos, .int .i64 s.start, .int .i64 s.depth, .int .i64 s.origin, .slice A s.caps.length c] 24)).alloc (by simp) (.cells #[.int .i64 0, .int .i64 0, .int .i64 0, .int .i64 0, .int .i64 0, .int .i64 0, .int .i64 0, .slice none 0 0] 24)
  have CC := hide (clone_any s.caps A c _ hl (hC.below hb0).reads)
  have HA := hide bA
  have HB := hide bB
  have HB0 := hide hb0
  clear hC bA bB hb0
  obtain ⟨n, hn⟩ : ∃ n, s.caps.length = n := ⟨_, rfl⟩
  have HN := hide hn
  rw [hn] at CC HA HB HB0 ⊢
  clear hn hl
  go_enter Tryd.func11, Tryd.ntmps11
  go_wp2_with fail
  refine (unhide CC).mono ?_
  rintro e w3 ⟨v, rfl, ho, hb⟩
  rw [unhide HN] at ho
  obtain ⟨A5, c5, rfl, -, h6, h7⟩ := own_reads ho
  have ho2 : w3.ownsRow w.heap.size 3 1 (.slice A5 n c5) n (s.caps.map Mem.i64) := own_lower ho (unhide HB0).size
  have ha3 := (unhide HA).below hb (unhide HA).lt
  have hb3 := (unhide HB).below hb (unhide HB).lt
  have hne := own_blk_ne ho2 ha3 (by decide)
  have hne2 := own_blk_ne ho2 hb3 (by decide)
  have g7 := ha3.frozen 7
  have k7 := ha3.cell 7
  have ha4 : Blk (w3.setCell ⟨w.heap.size, 7, none⟩ (.slice A5 n c5)) w.heap.size 24 #[.int .i64 s.kind, .int .i64 s.node, .int .i64 s.phase, .int .i64 s.pos, .int .i64 s.start, .int .i64 s.depth, .int .i64 s.origin, .slice A5 n c5] := ha3.set_ 7 (.slice A5 n c5)
  have hb4 := hb3.far (p := ⟨w.heap.size, 7, none⟩) (by simp) (.slice A5 n c5)
  have ho4 := ownsRow_setCell_other ho2 (a := ⟨w.heap.size, 7, none⟩) hne (.slice A5 n c5)
  obtain ⟨c0, c1, c2, c3, c4, c5', c6, c7⟩ := cells8 ha4
  obtain ⟨d0, d1, d2, d3, d4, d5, d6, d7⟩ := cells8 hb4
  obtain ⟨f0, f1, f2, f3, f4, f5, f6, f7⟩ := froz8 hb4
  have HB4 := hide hb4
  have HO4 := hide ho4
  have HNE2 := hide hne2
  have HB5 := hide (((unhide HB0).trans (hb.mono (unhide HB0).size)).setCell (p := ⟨w.heap.size, 7, none⟩) (Nat.le_refl _) (.slice A5 n c5))
  clear CC HA HB HB0 ho ho2 ha3 hb3 hne hne2 ha4 hb4 ho4 hb
  go_wp2_with fail
  change bodyPost _ _ _ _ _ (put8 (w3.setCell ⟨w.heap.size, 7, none⟩ (.slice A5 n c5)) (w.heap.size + 1) (.int .i64 s.kind) (.int .i64 s.node) (.int .i64 s.phase) (.int .i64 s.pos) (.int .i64 s.start) (.int .i64 s.depth) (.int .i64 s.origin) (.slice A5 n c5))
  have hF := set8 (unhide HB4) (.int .i64 s.kind) (.int .i64 s.node) (.int .i64 s.phase) (.int .i64 s.pos) (.int .i64 s.start) (.int .i64 s.depth) (.int .i64 s.origin) (.slice A5 n c5)
  have hG := own8 (g := w.heap.size + 1) (unhide HO4) (unhide HNE2) (.int .i64 s.kind) (.int .i64 s.node) (.int .i64 s.phase) (.int .i64 s.pos) (.int .i64 s.start) (.int .i64 s.depth) (.int .i64 s.origin) (.slice A5 n c5)
  have hH := below8 (g := w.heap.size + 1) (unhide HB5) (by omega) (.int .i64 s.kind) (.int .i64 s.node) (.int .i64 s.phase) (.int .i64 s.pos) (.int .i64 s.start) (.int .i64 s.depth) (.int .i64 s.origin) (.slice A5 n c5)
  generalize put8 (w3.setCell ⟨w.heap.size, 7, none⟩ (.slice A5 n c5)) (w.heap.size + 1) (.int .i64 s.kind) (.int .i64 s.node) (.int .i64 s.phase) (.int .i64 s.pos) (.int .i64 s.start) (.int .i64 s.depth) (.int .i64 s.origin) (.slice A5 n c5) = W at *
  exact bodyPost_ret (results_cell_row rfl _ _ (w.heap.size + 1) 24 _ (0, 0) _ rfl hF Tryd.underlying24 rfl (by kernel_rfl)) rfl ⟨A5, c5, rfl, hG, hH⟩
end Go.Proofs.YtcajhkcopfabpaaDoor.Ev
