/-
  clewref11's barred, walked. Conditions: at most 1000 instructions, one at least, that lie in memory, and lead to places that are there; each Op is one.
-/
import Derived.Test.YtiaelaepfhiabaaDoorCoRBarP
import Derived.StillTailTactics
import Derived.Deep.QuietTactic
import Derived.BigQuiet
set_option linter.unusedVariables false
set_option linter.unusedSimpArgs false
namespace Go.Proofs.YtiaelaepfhiabaaDoor.Co
open Go.RowKit Go.Proofs.YtiaelaepfhiabaaDoor.Mem Go.Proofs.YtiaelaepfhiabaaDoor.Rs
attribute [local go_sem] run_not_true run_not_false
theorem info_bool : (Tryd.prog.info? 4).map (fun i => (i.zero, i.size, i.bytes)) = some (some (.bool false), 1, 1) := by kernel_rfl

theorem made_blk {W : World} {base e g n : Nat} {z : Value} (hz : z.cells = #[z]) (h : W.ownsRow base e 1 (.slice (some ⟨g, 0, none⟩) n n) n (madeCells z.cells (n * 1)).toList) : Blk W g e (Array.replicate n z) := by
  have := blk_made h
  rw [hz, toList_madeCells_one, Nat.mul_one, List.toArray_replicate] at this
  exact this
/-- so it stands between any two steps: what is counted, its rows, the program's box -/
structure BW (l : List In) (cs : Array Value) (w : World) (gs : Nat) (L : List (Int × Int)) (wr : World) : Prop where
  inv : InvA l L
  be : Below w.heap.size w wr
  blk : Blk wr w.heap.size 33 cs
  rows : ∃ B S, AR l.length L B S ∧ Blk wr (w.heap.size + 1) 3 B ∧ Blk wr gs 4 S
def Done (l : List In) (L : List (Int × Int)) (k : Nat) : Prop := ∀ a : Nat, ∀ m, a < k → look L (a : Int) = some m → Closed l L a m
section
variable {l : List In} {cs : Array Value} {w wr : World} {gs : Nat} {L : List (Int × Int)}
theorem BW.below {w' : World} (h : BW l cs w gs L wr) (hb : Below wr.heap.size wr w') : BW l cs w gs L w' := by
  obtain ⟨B, S, h1, h2, h3⟩ := h.rows
  exact ⟨h.inv, h.be.trans (hb.mono h.be.size), h.blk.below hb h.blk.lt, B, S, h1, h2.below hb h2.lt, h3.below hb h3.lt⟩
/-- what is read at a place that is counted -/
theorem BW.at_ (h : BW l cs w gs L wr) {t : Nat} (ht : t < l.length) : wr.cell? ⟨w.heap.size + 1, t, none⟩ = some (.int .i64 ((look L (t : Int)).getD 0)) ∧ wr.cell? ⟨gs, t, none⟩ = some (.bool (look L (t : Int)).isSome) ∧ wr.frozen? ⟨w.heap.size + 1, t, none⟩ = false ∧ wr.frozen? ⟨gs, t, none⟩ = false := by
  obtain ⟨B, S, h1, h2, h3⟩ := h.rows
  exact ⟨(h2.cell t).trans (h1.b t ht), (h3.cell t).trans (h1.s t ht), h2.frozen t, h3.frozen t⟩
theorem BW.new (h : BW l cs w gs L wr) (hgs : w.heap.size + 1 < gs) {a : Nat} {m : Int} {i : In} (hwf : Wf l) (ha : look L (a : Int) = some m) (hi : l[a]? = some i) (hb : bearsB i.op m = true) {t : Nat} {v : Int} (hs : ((t : Int), v) ∈ stepsP i a m) (hn : look L (t : Int) = none) (ht : t < l.length) (q : Nat) :
    BW l cs w gs (((t : Int), v) :: L) (((wr.drewN q).setCell ⟨gs, t, none⟩ (.bool true)).setCell ⟨w.heap.size + 1, t, none⟩ (.int .i64 v)) ∧ U l.length (((t : Int), v) :: L) + 1 = U l.length L := by
  obtain ⟨B, S, h1, h2, h3⟩ := h.rows
  obtain ⟨hI, hU⟩ := invA_new hwf h.inv ha hi hb hs hn
  refine ⟨⟨hI, ?_, ?_, _, _, ar_set h1 ht v, ?_, ?_⟩, hU⟩
  · exact ((below_drewN h.be q).setCell (p := ⟨gs, t, none⟩) (by simp; omega) _).setCell (p := ⟨w.heap.size + 1, t, none⟩) (by simp) _
  · exact ((h.blk.drewN q).far (by simp; omega) _).far (by simp) _
  · exact ((h2.drewN q).far (p := ⟨gs, t, none⟩) (by simp; omega) _).set_ t _
  · exact ((h3.drewN q).set_ t _).far (p := ⟨w.heap.size + 1, t, none⟩) (by simp; omega) _
theorem BW.at2 (h : BW l cs w gs L wr) (hgs : w.heap.size + 1 < gs) {t : Nat} (ht : t < l.length) (u : Value) : (wr.setCell ⟨gs, t, none⟩ u).cell? ⟨w.heap.size + 1, t, none⟩ = some (.int .i64 ((look L (t : Int)).getD 0)) ∧ (wr.setCell ⟨gs, t, none⟩ u).frozen? ⟨w.heap.size + 1, t, none⟩ = false := by
  obtain ⟨B, S, h1, h2, h3⟩ := h.rows
  have h4 := h2.far (p := ⟨gs, t, none⟩) (by simp; omega) u
  exact ⟨(h4.cell t).trans (h1.b t ht), h4.frozen t⟩
theorem BW.falses_ (h : BW l cs w gs L wr) : falses wr gs l.length = U l.length L := by
  obtain ⟨B, S, h1, h2, h3⟩ := h.rows
  exact falses_U h1 h3
end
def BPost (l : List In) (w : World) (e : Ending) (w' : World) : Prop := ∃ q, e = .returned (.bool q) ∧ (q = true ↔ Good l) ∧ Below w.heap.size w w'
theorem bpost_t {l : List In} {w w' : World} (h : Good l) (hb : Below w.heap.size w w') : BPost l w (.returned (.bool true)) w' := ⟨true, rfl, ⟨fun _ => h, fun _ => rfl⟩, hb⟩
theorem bpost_f {l : List In} {w w' : World} (h : ¬ Good l) (hb : Below w.heap.size w w') : BPost l w (.returned (.bool false)) w' := ⟨false, rfl, ⟨fun e => (by cases e), fun e => absurd e h⟩, hb⟩
theorem mea_n {n j : Nat} (h : j < n) (hw : wrap64 ((j : Int) + 1) = ((j + 1 : Nat) : Int)) : n - (intOf (.int .i64 (wrap64 ((j : Int) + 1)))).toNat < n - (intOf (.int .i64 (j : Int))).toNat := by
  rw [hw]
  simp only [intOf, Int.toNat_natCast]
  omega
theorem boolN_nat (b : Bool) : boolN (.bool b) = b.toNat := by cases b <;> rfl
theorem done_next {l : List In} {L : List (Int × Int)} {k : Nat} (h : Done l L k) (hk : ∀ m, look L (k : Int) = some m → Closed l L k m) : Done l L (k + 1) := fun a m ha hm => by
  rcases Nat.lt_or_ge a k with h1 | h1
  · exact h a m h1 hm
  · obtain rfl : a = k := by omega
    exact hk m hm
theorem edges_len (i : In) (a : Nat) : (edgesP i a).length ≤ 3 := by
  unfold edgesP
  repeat' split
  all_goals simp
theorem closed_of {l : List In} {L : List (Int × Int)} {k : Nat} {m : Int} {i : In} {E : List (Int × Int)} {j : Nat} (hi : l[k]? = some i) (hb : bearsB i.op m = true) (hok : okX i) (hE : E = edgesP i k) (hj : E.length ≤ j) (hdn : ∀ q s, q < j → E[q]? = some s → look L s.1 = some (m + s.2)) : Closed l L (k : Int) m := by
  refine ⟨i, hi, hb, fun s hs => ?_⟩
  have hs2 : s ∈ stepsP i k m := hs
  rw [steps_edges hok, ← hE] at hs2
  obtain ⟨e, he, rfl⟩ := List.mem_map.1 hs2
  obtain ⟨q, hq, rfl⟩ := List.getElem_of_mem he
  exact hdn q _ (by omega) (List.getElem?_eq_getElem hq)
theorem lst_set {W : World} {B : Nat} {A : Option Addr} {l : List R} (h : Lst W B A l) (q : Nat) {gs gb t : Nat} {u v : Value} (hf : ∀ ad, A = some ad → ad.block ≠ gb ∧ ad.block ≠ gs) : Lst (((W.drewN q).setCell ⟨gs, t, none⟩ u).setCell ⟨gb, t, none⟩ v) B A l := fun hn => by
  obtain ⟨b, off, rfl, hb, hc⟩ := h hn
  obtain ⟨h1, h2⟩ := hf _ rfl
  have hk : ∀ i, (((W.drewN q).setCell ⟨gs, t, none⟩ u).setCell ⟨gb, t, none⟩ v).cell? ⟨b, i, none⟩ = W.cell? ⟨b, i, none⟩ := fun i => by
    rw [World.cell?_setCell_other _ _ _ _ (fun e => h1 (by injection e with e; exact e.symm)), World.cell?_setCell_other _ _ _ _ (fun e => h2 (by injection e with e; exact e.symm))]
    rfl
  exact ⟨b, off, rfl, hb, fun k r hr => ⟨(hk _).trans (hc k r hr).1, (hk _).trans (hc k r hr).2⟩⟩

set_option maxRecDepth 100000 in
set_option maxHeartbeats 8000000 in
theorem barred_any (l : List In) (As Al A : Option Addr) (c ns cs nk ck : Nat) (g : Int) (w : World) (hl : l.length ≤ 1000) (hpos : 0 < l.length) (hwf : Wf l) (hox : ∀ (a : Nat) i, l[a]? = some i → okX i ∧ 1 ≤ i.op ∧ i.op ≤ 19) (h : Ins w w.heap.size A l) :
    Calls Tryd.prog 20 #[.agg #[.slice A l.length c, .slice As ns cs, .slice Al nk ck, .int .i64 g]] w fun e w' => BPost l w e w' := by
  have HI := hide h
  have HWF := hide hwf
  have HOX := hide hox
  have HL := hide (And.intro hl hpos)
  obtain ⟨i0, hi, hz0, hz1, hz2⟩ := info_parts info_int
  obtain ⟨j0, ji, jz0, jz1, jz2⟩ := info_parts info_bool
  have hposI : (0 : Int) < (l.length : Int) := by omega
  clear h hwf hl hox
  go_enter Tryd.func20, Tryd.ntmps20
  go_wp2_with (first
    | (at_make; refine wpList_make_full _ rfl _ _ 61 rfl (w.heap.size + 1) 3 i0 (.int .i64 0) 1 Tryd.underlying61 hi hz0 hz1 _ _ _ _ l.length rfl rfl rfl rfl (by rw [hz2]; have := (unhide HL).1; omega) (by have := (unhide HL).1; unfold maxLen; omega) (by simp) ?_; intro w2 hv2 hg2; simp only [World.size_alloc] at hv2; have x2 := ((Blk.new w 33 #[.slice A l.length c, .slice As ns cs, .slice Al nk ck, .int .i64 g]).grown hg2 (by simp)).cell 0; have H2 := hide (And.intro hv2 hg2); clear hv2 hg2)
    | (at_make; (refine wpList_make_full _ rfl _ _ 68 rfl w2.heap.size 4 j0 (.bool false) 1 Tryd.underlying68 ji jz0 jz1 _ _ _ _ l.length rfl rfl rfl rfl (by rw [jz2]; have := (unhide HL).1; omega) (by have := (unhide HL).1; unfold maxLen; omega) (Nat.le_refl _) ?_; intro w3 hv3 hg3; have s0 := ((made_blk rfl hv3).cell 0).trans (show (Array.replicate l.length (Value.bool false))[0]? = some (.bool false) by simp [(unhide HL).2]); have f0 := (made_blk rfl hv3).frozen 0; have H3 := hide (And.intro hv3 hg3); clear hv3 hg3 x2))
    | fail)
  have hgs : w.heap.size + 1 < w2.heap.size := own_lt (unhide H2).1
  have HG := hide hgs
  have HB3 := hide (show BW l #[.slice A l.length c, .slice As ns cs, .slice Al nk ck, .int .i64 g] w w2.heap.size [(0, 0)] (w3.setCell ⟨w2.heap.size, 0, none⟩ (.bool true)) from by
    have b1 := made_blk rfl (unhide H2).1
    have b2 := made_blk rfl (unhide H3).1
    have b3 := b1.grown (unhide H3).2 (by simp)
    have b4 := (((Blk.new w 33 #[.slice A l.length c, .slice As ns cs, .slice Al nk ck, .int .i64 g]).grown (unhide H2).2 (by simp))).grown (unhide H3).2 (by simp)
    have e1 : Below w.heap.size w w2 := (below_al (Below.refl w.heap.size w) (Nat.le_refl _) _).grown (unhide H2).2 (by simp) (fun j hj => by cases hj)
    have e2 : Below w.heap.size w w3 := e1.grown (unhide H3).2 e1.size (fun j hj => by cases hj)
    exact ⟨invA_start (unhide HL).2, e2.setCell (p := ⟨w2.heap.size, 0, none⟩) (by simp; omega) _, b4.far (by simp; omega) _, _, _, ar_start (unhide HL).2, b3.far (p := ⟨w2.heap.size, 0, none⟩) (by simp; omega) _, b2.set_ 0 _⟩)
  clear hgs
  obtain ⟨gs, hgse⟩ : ∃ gs, gs = w2.heap.size := ⟨_, rfl⟩
  rw [← hgse] at HB3 HG s0 f0 ⊢
  clear H2 H3 hgse
  go_wp2_with fail
  go_loopw [5] (fun v wr => ∃ (b : Bool) (L : List (Int × Int)), v = .bool b ∧ BW l #[.slice A l.length c, .slice As ns cs, .slice Al nk ck, .int .i64 g] w gs L wr ∧ (b = false → Done l L l.length)) (fun v wr => 2 * falses wr gs l.length + boolN v)
  case atStart => exact ⟨true, [(0, 0)], rfl, unhide HB3, fun h => by cases h⟩
  case round =>
    obtain ⟨b, L, rfl, hbw, hdone⟩ := hrel
    go_hideQ
    have HB0 := hide hbw
    have HD0 := hide hdone
    clear HB3 s0 f0 hbw hdone
    cases b with
    | false =>
      go_wp2_with fail
      go_ret
      exact bpost_t (invA_end (unhide HB0).inv ((unhide HD0) trivial)) (unhide HB0).be
    | true =>
      have HM := hide (unhide HB0).falses_
      go_wp2_with fail
      go_loopw [5, 6] (fun v i wq => ∃ (b : Bool) (L' : List (Int × Int)) (k : Nat), v = .bool b ∧ i = .int .i64 (k : Int) ∧ k ≤ l.length ∧ BW l #[.slice A l.length c, .slice As ns cs, .slice Al nk ck, .int .i64 g] w gs L' wq ∧ (b = false → Done l L' k) ∧ U l.length L' + b.toNat ≤ U l.length L) (fun _ i _ => l.length - (intOf i).toNat)
      case atStart => exact ⟨false, L, 0, rfl, rfl, Nat.zero_le _, unhide HB0, fun _ a m h => absurd h (by omega), by simp⟩
      case round =>
        obtain ⟨bb, L', k, rfl, rfl, hk, hbw, hdone, hU⟩ := hrel
        go_hideQ
        have y0 := hbw.blk.cell 0
        have HB1 := hide hbw
        have HD1 := hide (And.intro hdone hU)
        clear hbw hdone hU
        by_cases hlt : k < l.length
        · have hltI : (k : Int) < (l.length : Int) := by omega
          obtain ⟨r1, r2, -, -⟩ := (unhide HB1).at_ hlt
          cases hm : look L' (k : Int) with
          | none =>
            rw [hm] at r1 r2
            simp only [Option.isSome_none, Option.getD_none] at r1 r2
            have HMN := hide hm
            clear hm
            go_wp2_with fail
            have hj4 := wrap64_id (j := k) (by have := (unhide HL).1; omega)
            exact ⟨⟨bb, L', k + 1, rfl, by rw [hj4], hlt, unhide HB1, fun hb => done_next ((unhide HD1).1 hb) (fun m hm => by rw [unhide HMN] at hm; cases hm), (unhide HD1).2⟩, mea_n hlt hj4⟩
          | some m =>
            rw [hm] at r1 r2
            simp only [Option.isSome_some, Option.getD_some] at r1 r2
            have HMS := hide hm
            clear hm
            obtain ⟨⟨op, x, y, z, nd, ph⟩, hii⟩ : ∃ i, l[k]? = some i := ⟨l[k], List.getElem?_eq_getElem hlt⟩
            obtain ⟨hokx, hop1, hop2⟩ := (unhide HOX) k _ hii
            have HOK := hide hokx
            have HII := hide hii
            obtain ⟨b, off, rfl, hb, hc⟩ := (unhide HI) (by omega)
            have c0 := ((unhide HB1).be.cell (p := ⟨b, off + k * 6, none⟩) hb).trans (hc k _ hii).1
            dsimp only at c0
            dsimp only at hop1 hop2
            have hcase : (14 ≤ op ∧ op ≤ 18) ∨ op = 19 ∨ op < 14 := by omega
            have HM0 := hide (show 0 ≤ m ∧ m ≤ 1000 from by
              obtain ⟨st, _, hv⟩ := (unhide HB1).inv
              obtain ⟨_, _, _, _, h1, h2⟩ := hv.ok _ _ (unhide HMS)
              have := (unhide HL).1
              exact ⟨h1, by omega⟩)
            have HBAD := hide (show bearsB op m = false → ¬ Good l from fun hbf => by
              obtain ⟨st, _, hv⟩ := (unhide HB1).inv
              exact inv_bad hv (unhide HMS) (unhide HII) hbf)
            clear hc hokx hii
            rcases hcase with ⟨g1, g2⟩ | g1 | g1
            · by_cases hm1 : m < 1
              · have HQ := hide ((unhide HBAD) (by unfold bearsB; rw [if_pos (by omega)]; exact decide_eq_false (by omega)))
                have d1 : decide (m < 1) = true := decide_eq_true hm1
                clear hop1 hop2
                go_wp2_with fail
                go_ret
                exact bpost_f (unhide HQ) (unhide HB1).be
              · have HBE := hide (show bearsB op m = true by unfold bearsB; rw [if_pos (by omega)]; exact decide_eq_true (by omega))
                have d1 : decide (m < 1) = false := decide_eq_false hm1
                have d2 : 1 ≤ m := by omega
                have e19 : (op == 19) = false := by rw [beq_eq_false_iff_ne]; omega
                clear hm1 hop1 hop2
                have HED := hide (edges_any l As Al _ c ns cs nk ck g k wr ⟨op, x, y, z, nd, ph⟩ (unhide HII) (by have := (unhide HL).1; omega) (((unhide HI).below (unhide HB1).be).more (unhide HB1).be.size))
                have z0 := (unhide HB1).blk.cell 0
                have z1 := (unhide HB1).blk.cell 1
                have z2 := (unhide HB1).blk.cell 2
                have z3 := (unhide HB1).blk.cell 3
                go_wp2_with fail
                refine (unhide HED).mono ?_
                rintro e w5 ⟨A8, c8, rfl, hE, -, hb5, hf5⟩
                obtain ⟨E, hEd⟩ : ∃ E, E = edgesP ⟨op, x, y, z, nd, ph⟩ k := ⟨_, rfl⟩
                rw [← hEd] at hE ⊢
                have HEd := hide hEd
                have HB5 := hide ((unhide HB1).below hb5)
                have HE5 := hide (And.intro hE (show ∀ ad, A8 = some ad → ad.block ≠ w.heap.size + 1 ∧ ad.block ≠ gs from fun ad e => by
                  have h1 := hf5 ad e
                  obtain ⟨_, _, _, k1, k2⟩ := (unhide HB1).rows
                  have h2 := k1.lt
                  have h3 := k2.lt
                  exact ⟨by omega, by omega⟩))
                have HEL := hide (show E.length ≤ 3 from by rw [hEd]; exact edges_len _ _)
                clear hE hb5 hf5 hEd z0 z1 z2 z3 HED
                go_wp2_with fail
                go_loopw [5, 9] (fun v i wq => ∃ (b' : Bool) (L2 : List (Int × Int)) (j : Nat), v = .bool b' ∧ i = .int .i64 (j : Int) ∧ j ≤ E.length ∧ BW l #[.slice (some ⟨b, off, none⟩) l.length c, .slice As ns cs, .slice Al nk ck, .int .i64 g] w gs L2 wq ∧ (b' = false → Done l L2 k) ∧ U l.length L2 + b'.toNat ≤ U l.length L ∧ look L2 (k : Int) = some m ∧ (∀ q s, q < j → E[q]? = some s → look L2 s.1 = some (m + s.2)) ∧ Lst wq wq.heap.size A8 E) (fun _ i _ => E.length - (intOf i).toNat)
                case atStart => exact ⟨bb, L', 0, rfl, rfl, Nat.zero_le _, unhide HB5, (unhide HD1).1, (unhide HD1).2, unhide HMS, fun q s h => absurd h (by omega), (unhide HE5).1⟩
                case round =>
                  obtain ⟨b', L2, j, rfl, rfl, hj, hbw2, hd2, hU2, hm2, hdn, hls⟩ := hrel
                  clear r1 r2 c0
                  go_hideQ
                  by_cases hjl : j < E.length
                  · obtain ⟨⟨s1, s2⟩, hs⟩ : ∃ s, E[j]? = some s := ⟨E[j], List.getElem?_eq_getElem hjl⟩
                    obtain ⟨b8, off8, rfl, hb8, hc8⟩ := hls (by omega)
                    have e0 := (hc8 j _ hs).1
                    have e1 := (hc8 j _ hs).2
                    dsimp only at e0 e1
                    have hmem : (s1, m + s2) ∈ stepsP ⟨op, x, y, z, nd, ph⟩ k m := by
                      rw [steps_edges (unhide HOK)]
                      exact List.mem_map.2 ⟨(s1, s2), by have := List.mem_of_getElem? hs; rwa [unhide HEd] at this, rfl⟩
                    have hto := (unhide HWF) k _ m (unhide HII) _ hmem
                    have hnear := steps_near (unhide HM0).1 (unhide HBE) _ hmem
                    dsimp only at hto hnear
                    obtain ⟨t, rfl⟩ : ∃ t : Nat, s1 = (t : Int) := ⟨s1.toNat, by omega⟩
                    have htl : t < l.length := by omega
                    have htI : (t : Int) < (l.length : Int) := by omega
                    have hjI : (j : Int) < (E.length : Int) := by omega
                    obtain ⟨r1, r2, -, -⟩ := hbw2.at_ hlt
                    rw [hm2] at r1
                    simp only [Option.getD_some] at r1
                    clear r2
                    obtain ⟨t1, t2, t3, t4⟩ := hbw2.at_ htl
                    have hwm : IntKind.i64.wrap (m + s2) = m + s2 := wrap_id _ (by have := (unhide HM0).2; omega) (by have := (unhide HM0).2; omega)
                    have HJ4 := hide (wrap64_id (j := j) (by have := unhide HEL; omega))
                    have HR := hide (And.intro hbw2 (And.intro hd2 (And.intro hU2 (And.intro hm2 (And.intro hdn (And.intro hls hs))))))
                    have HME := hide hmem
                    clear hbw2 hd2 hU2 hm2 hdn hls hs hmem hto hnear hc8 hj
                    cases hlk : look L2 (t : Int) with
                    | some n0 =>
                      rw [hlk] at t1 t2
                      simp only [Option.getD_some, Option.isSome_some] at t1 t2
                      have HLK := hide hlk
                      clear hlk
                      by_cases hn : n0 = m + s2
                      · have d1 : (n0 != m + s2) = false := by simp [hn]
                        have HN := hide hn
                        clear hn
                        go_wp2_with fail
                        refine wp_region_still_lit (by kernel_rfl) (by kernel_rfl) ?_
                        repeat still_step
                        refine wpStill_nil ?_
                        go_wp2_with fail
                        refine ⟨⟨b', L2, j + 1, rfl, by rw [unhide HJ4], hjl, (unhide HR).1.below (below_drewN (Below.refl _ _) _), (unhide HR).2.1, (unhide HR).2.2.1, (unhide HR).2.2.2.1, fun q s hq hs => ?_, (unhide HR).2.2.2.2.2.1⟩, mea_n hjl (unhide HJ4)⟩
                        rcases Nat.lt_or_ge q j with h1 | h1
                        · exact (unhide HR).2.2.2.2.1 q s h1 hs
                        · obtain rfl : q = j := by omega
                          rw [(unhide HR).2.2.2.2.2.2] at hs
                          obtain rfl := Option.some.inj hs
                          rw [← unhide HN]; exact unhide HLK
                      · have d1 : (n0 != m + s2) = true := by simp [hn]
                        have HN := hide (show ¬ Good l from by
                          obtain ⟨st, _, hv⟩ := (unhide HR).1.inv
                          exact inv_clash hv (unhide HR).2.2.2.1 (unhide HII) (unhide HBE) (unhide HME) (unhide HLK) hn)
                        clear hn
                        go_wp2_with fail
                        refine wp_region_still_lit (by kernel_rfl) (by kernel_rfl) ?_
                        repeat still_step
                        refine wpStill_nil ?_
                        go_wp2_with fail
                        go_ret
                        exact bpost_f (unhide HN) (below_drewN (unhide HR).1.be _)
                    | none =>
                      obtain ⟨t5, t6⟩ := (unhide HR).1.at2 (unhide HG) htl (.bool true)
                      rw [hlk] at t1 t2 t5
                      simp only [Option.getD_none, Option.isSome_none] at t1 t2 t5
                      have HLK := hide hlk
                      clear hlk
                      go_wp2_with fail
                      refine wp_region_still_lit (by kernel_rfl) (by kernel_rfl) ?_
                      repeat still_step
                      refine wpStill_nil ?_
                      go_wp2_with fail
                      obtain ⟨hbn, hun⟩ := (unhide HR).1.new (unhide HG) (unhide HWF) (unhide HR).2.2.2.1 (unhide HII) (unhide HBE) (unhide HME) (unhide HLK) htl 0
                      refine ⟨⟨true, ((t : Int), m + s2) :: L2, j + 1, rfl, by rw [unhide HJ4], hjl, hbn.below (below_drewN (Below.refl _ _) 1), fun h => Bool.noConfusion h, ?_, look_old (unhide HLK) (unhide HR).2.2.2.1, fun q s hq hs => ?_, ?_⟩, mea_n hjl (unhide HJ4)⟩
                      · have h1 := (unhide HR).2.2.1
                        have h2 : b'.toNat ≤ 1 := by cases b' <;> simp
                        show U l.length (((t : Int), m + s2) :: L2) + 1 ≤ U l.length L
                        omega
                      · rcases Nat.lt_or_ge q j with h1 | h1
                        · exact look_old (unhide HLK) ((unhide HR).2.2.2.2.1 q s h1 hs)
                        · obtain rfl : q = j := by omega
                          rw [(unhide HR).2.2.2.2.2.2] at hs
                          obtain rfl := Option.some.inj hs
                          rw [look_cons, if_pos rfl]
                      · exact (lst_set (unhide HR).2.2.2.2.2.1 0 (unhide HE5).2).more (by simp [World.setCell, World.drew, World.drewN])
                  · have hjn : (E.length : Int) ≤ (j : Int) := by omega
                    have HR := hide (And.intro hbw2 (And.intro hd2 (And.intro hU2 (And.intro hm2 hdn))))
                    clear hbw2 hd2 hU2 hm2 hdn hls hj
                    go_wp2_with fail
                    have hjk := wrap64_id (j := k) (by have := (unhide HL).1; omega)
                    exact ⟨⟨b', L2, k + 1, rfl, by rw [hjk], hlt, (unhide HR).1, fun hb => done_next ((unhide HR).2.1 hb) (fun m2 hm2 => by
                      rw [(unhide HR).2.2.2.1] at hm2
                      obtain rfl := Option.some.inj hm2
                      exact closed_of (unhide HII) (unhide HBE) (unhide HOK) (unhide HEd) (by omega) (unhide HR).2.2.2.2), (unhide HR).2.2.1⟩, mea_n hlt hjk⟩
            · subst g1
              by_cases hm1 : m = 0
              · have HBE := hide (show bearsB 19 m = true by rw [hm1]; rfl)
                have d1 : (m != 0) = false := by simp [hm1]
                clear hm1 hop1 hop2
                have HED := hide (edges_any l As Al _ c ns cs nk ck g k wr ⟨19, x, y, z, nd, ph⟩ (unhide HII) (by have := (unhide HL).1; omega) (((unhide HI).below (unhide HB1).be).more (unhide HB1).be.size))
                have z0 := (unhide HB1).blk.cell 0
                have z1 := (unhide HB1).blk.cell 1
                have z2 := (unhide HB1).blk.cell 2
                have z3 := (unhide HB1).blk.cell 3
                go_wp2_with fail
                refine (unhide HED).mono ?_
                rintro e w5 ⟨A8, c8, rfl, hE, -, hb5, hf5⟩
                obtain ⟨E, hEd⟩ : ∃ E, E = edgesP ⟨19, x, y, z, nd, ph⟩ k := ⟨_, rfl⟩
                rw [← hEd] at hE ⊢
                have HEd := hide hEd
                have HB5 := hide ((unhide HB1).below hb5)
                have HE5 := hide (And.intro hE (show ∀ ad, A8 = some ad → ad.block ≠ w.heap.size + 1 ∧ ad.block ≠ gs from fun ad e => by
                  have h1 := hf5 ad e
                  obtain ⟨_, _, _, k1, k2⟩ := (unhide HB1).rows
                  have h2 := k1.lt
                  have h3 := k2.lt
                  exact ⟨by omega, by omega⟩))
                have HEL := hide (show E.length ≤ 3 from by rw [hEd]; exact edges_len _ _)
                clear hE hb5 hf5 hEd z0 z1 z2 z3 HED
                go_wp2_with fail
                go_loopw [5, 9] (fun v i wq => ∃ (b' : Bool) (L2 : List (Int × Int)) (j : Nat), v = .bool b' ∧ i = .int .i64 (j : Int) ∧ j ≤ E.length ∧ BW l #[.slice (some ⟨b, off, none⟩) l.length c, .slice As ns cs, .slice Al nk ck, .int .i64 g] w gs L2 wq ∧ (b' = false → Done l L2 k) ∧ U l.length L2 + b'.toNat ≤ U l.length L ∧ look L2 (k : Int) = some m ∧ (∀ q s, q < j → E[q]? = some s → look L2 s.1 = some (m + s.2)) ∧ Lst wq wq.heap.size A8 E) (fun _ i _ => E.length - (intOf i).toNat)
                case atStart => exact ⟨bb, L', 0, rfl, rfl, Nat.zero_le _, unhide HB5, (unhide HD1).1, (unhide HD1).2, unhide HMS, fun q s h => absurd h (by omega), (unhide HE5).1⟩
                case round =>
                  obtain ⟨b', L2, j, rfl, rfl, hj, hbw2, hd2, hU2, hm2, hdn, hls⟩ := hrel
                  clear r1 r2 c0
                  go_hideQ
                  by_cases hjl : j < E.length
                  · obtain ⟨⟨s1, s2⟩, hs⟩ : ∃ s, E[j]? = some s := ⟨E[j], List.getElem?_eq_getElem hjl⟩
                    obtain ⟨b8, off8, rfl, hb8, hc8⟩ := hls (by omega)
                    have e0 := (hc8 j _ hs).1
                    have e1 := (hc8 j _ hs).2
                    dsimp only at e0 e1
                    have hmem : (s1, m + s2) ∈ stepsP ⟨19, x, y, z, nd, ph⟩ k m := by
                      rw [steps_edges (unhide HOK)]
                      exact List.mem_map.2 ⟨(s1, s2), by have := List.mem_of_getElem? hs; rwa [unhide HEd] at this, rfl⟩
                    have hto := (unhide HWF) k _ m (unhide HII) _ hmem
                    have hnear := steps_near (unhide HM0).1 (unhide HBE) _ hmem
                    dsimp only at hto hnear
                    obtain ⟨t, rfl⟩ : ∃ t : Nat, s1 = (t : Int) := ⟨s1.toNat, by omega⟩
                    have htl : t < l.length := by omega
                    have htI : (t : Int) < (l.length : Int) := by omega
                    have hjI : (j : Int) < (E.length : Int) := by omega
                    obtain ⟨r1, r2, -, -⟩ := hbw2.at_ hlt
                    rw [hm2] at r1
                    simp only [Option.getD_some] at r1
                    clear r2
                    obtain ⟨t1, t2, t3, t4⟩ := hbw2.at_ htl
                    have hwm : IntKind.i64.wrap (m + s2) = m + s2 := wrap_id _ (by have := (unhide HM0).2; omega) (by have := (unhide HM0).2; omega)
                    have HJ4 := hide (wrap64_id (j := j) (by have := unhide HEL; omega))
                    have HR := hide (And.intro hbw2 (And.intro hd2 (And.intro hU2 (And.intro hm2 (And.intro hdn (And.intro hls hs))))))
                    have HME := hide hmem
                    clear hbw2 hd2 hU2 hm2 hdn hls hs hmem hto hnear hc8 hj
                    cases hlk : look L2 (t : Int) with
                    | some n0 =>
                      rw [hlk] at t1 t2
                      simp only [Option.getD_some, Option.isSome_some] at t1 t2
                      have HLK := hide hlk
                      clear hlk
                      by_cases hn : n0 = m + s2
                      · have d1 : (n0 != m + s2) = false := by simp [hn]
                        have HN := hide hn
                        clear hn
                        go_wp2_with fail
                        refine wp_region_still_lit (by kernel_rfl) (by kernel_rfl) ?_
                        repeat still_step
                        refine wpStill_nil ?_
                        go_wp2_with fail
                        refine ⟨⟨b', L2, j + 1, rfl, by rw [unhide HJ4], hjl, (unhide HR).1.below (below_drewN (Below.refl _ _) _), (unhide HR).2.1, (unhide HR).2.2.1, (unhide HR).2.2.2.1, fun q s hq hs => ?_, (unhide HR).2.2.2.2.2.1⟩, mea_n hjl (unhide HJ4)⟩
                        rcases Nat.lt_or_ge q j with h1 | h1
                        · exact (unhide HR).2.2.2.2.1 q s h1 hs
                        · obtain rfl : q = j := by omega
                          rw [(unhide HR).2.2.2.2.2.2] at hs
                          obtain rfl := Option.some.inj hs
                          rw [← unhide HN]; exact unhide HLK
                      · have d1 : (n0 != m + s2) = true := by simp [hn]
                        have HN := hide (show ¬ Good l from by
                          obtain ⟨st, _, hv⟩ := (unhide HR).1.inv
                          exact inv_clash hv (unhide HR).2.2.2.1 (unhide HII) (unhide HBE) (unhide HME) (unhide HLK) hn)
                        clear hn
                        go_wp2_with fail
                        refine wp_region_still_lit (by kernel_rfl) (by kernel_rfl) ?_
                        repeat still_step
                        refine wpStill_nil ?_
                        go_wp2_with fail
                        go_ret
                        exact bpost_f (unhide HN) (below_drewN (unhide HR).1.be _)
                    | none =>
                      obtain ⟨t5, t6⟩ := (unhide HR).1.at2 (unhide HG) htl (.bool true)
                      rw [hlk] at t1 t2 t5
                      simp only [Option.getD_none, Option.isSome_none] at t1 t2 t5
                      have HLK := hide hlk
                      clear hlk
                      go_wp2_with fail
                      refine wp_region_still_lit (by kernel_rfl) (by kernel_rfl) ?_
                      repeat still_step
                      refine wpStill_nil ?_
                      go_wp2_with fail
                      obtain ⟨hbn, hun⟩ := (unhide HR).1.new (unhide HG) (unhide HWF) (unhide HR).2.2.2.1 (unhide HII) (unhide HBE) (unhide HME) (unhide HLK) htl 0
                      refine ⟨⟨true, ((t : Int), m + s2) :: L2, j + 1, rfl, by rw [unhide HJ4], hjl, hbn.below (below_drewN (Below.refl _ _) 1), fun h => Bool.noConfusion h, ?_, look_old (unhide HLK) (unhide HR).2.2.2.1, fun q s hq hs => ?_, ?_⟩, mea_n hjl (unhide HJ4)⟩
                      · have h1 := (unhide HR).2.2.1
                        have h2 : b'.toNat ≤ 1 := by cases b' <;> simp
                        show U l.length (((t : Int), m + s2) :: L2) + 1 ≤ U l.length L
                        omega
                      · rcases Nat.lt_or_ge q j with h1 | h1
                        · exact look_old (unhide HLK) ((unhide HR).2.2.2.2.1 q s h1 hs)
                        · obtain rfl : q = j := by omega
                          rw [(unhide HR).2.2.2.2.2.2] at hs
                          obtain rfl := Option.some.inj hs
                          rw [look_cons, if_pos rfl]
                      · exact (lst_set (unhide HR).2.2.2.2.2.1 0 (unhide HE5).2).more (by simp [World.setCell, World.drew, World.drewN])
                  · have hjn : (E.length : Int) ≤ (j : Int) := by omega
                    have HR := hide (And.intro hbw2 (And.intro hd2 (And.intro hU2 (And.intro hm2 hdn))))
                    clear hbw2 hd2 hU2 hm2 hdn hls hj
                    go_wp2_with fail
                    have hjk := wrap64_id (j := k) (by have := (unhide HL).1; omega)
                    exact ⟨⟨b', L2, k + 1, rfl, by rw [hjk], hlt, (unhide HR).1, fun hb => done_next ((unhide HR).2.1 hb) (fun m2 hm2 => by
                      rw [(unhide HR).2.2.2.1] at hm2
                      obtain rfl := Option.some.inj hm2
                      exact closed_of (unhide HII) (unhide HBE) (unhide HOK) (unhide HEd) (by omega) (unhide HR).2.2.2.2), (unhide HR).2.2.1⟩, mea_n hlt hjk⟩
              · have HQ := hide ((unhide HBAD) (by unfold bearsB; rw [if_neg (by omega), if_pos rfl]; simp [hm1]))
                have d1 : (m != 0) = true := by simp [hm1]
                clear hm1 hop1 hop2
                go_wp2_with fail
                go_ret
                exact bpost_f (unhide HQ) (unhide HB1).be
            · have HBE := hide (show bearsB op m = true by unfold bearsB; rw [if_neg (by omega), if_neg (by omega)])
              have d1 : decide (14 ≤ op) = false := decide_eq_false (by omega)
              have e19 : (op == 19) = false := by rw [beq_eq_false_iff_ne]; omega
              clear hop1 hop2
              · skip
                have HED := hide (edges_any l As Al _ c ns cs nk ck g k wr ⟨op, x, y, z, nd, ph⟩ (unhide HII) (by have := (unhide HL).1; omega) (((unhide HI).below (unhide HB1).be).more (unhide HB1).be.size))
                have z0 := (unhide HB1).blk.cell 0
                have z1 := (unhide HB1).blk.cell 1
                have z2 := (unhide HB1).blk.cell 2
                have z3 := (unhide HB1).blk.cell 3
                go_wp2_with fail
                refine (unhide HED).mono ?_
                rintro e w5 ⟨A8, c8, rfl, hE, -, hb5, hf5⟩
                obtain ⟨E, hEd⟩ : ∃ E, E = edgesP ⟨op, x, y, z, nd, ph⟩ k := ⟨_, rfl⟩
                rw [← hEd] at hE ⊢
                have HEd := hide hEd
                have HB5 := hide ((unhide HB1).below hb5)
                have HE5 := hide (And.intro hE (show ∀ ad, A8 = some ad → ad.block ≠ w.heap.size + 1 ∧ ad.block ≠ gs from fun ad e => by
                  have h1 := hf5 ad e
                  obtain ⟨_, _, _, k1, k2⟩ := (unhide HB1).rows
                  have h2 := k1.lt
                  have h3 := k2.lt
                  exact ⟨by omega, by omega⟩))
                have HEL := hide (show E.length ≤ 3 from by rw [hEd]; exact edges_len _ _)
                clear hE hb5 hf5 hEd z0 z1 z2 z3 HED
                go_wp2_with fail
                go_loopw [5, 9] (fun v i wq => ∃ (b' : Bool) (L2 : List (Int × Int)) (j : Nat), v = .bool b' ∧ i = .int .i64 (j : Int) ∧ j ≤ E.length ∧ BW l #[.slice (some ⟨b, off, none⟩) l.length c, .slice As ns cs, .slice Al nk ck, .int .i64 g] w gs L2 wq ∧ (b' = false → Done l L2 k) ∧ U l.length L2 + b'.toNat ≤ U l.length L ∧ look L2 (k : Int) = some m ∧ (∀ q s, q < j → E[q]? = some s → look L2 s.1 = some (m + s.2)) ∧ Lst wq wq.heap.size A8 E) (fun _ i _ => E.length - (intOf i).toNat)
                case atStart => exact ⟨bb, L', 0, rfl, rfl, Nat.zero_le _, unhide HB5, (unhide HD1).1, (unhide HD1).2, unhide HMS, fun q s h => absurd h (by omega), (unhide HE5).1⟩
                case round =>
                  obtain ⟨b', L2, j, rfl, rfl, hj, hbw2, hd2, hU2, hm2, hdn, hls⟩ := hrel
                  clear r1 r2 c0
                  go_hideQ
                  by_cases hjl : j < E.length
                  · obtain ⟨⟨s1, s2⟩, hs⟩ : ∃ s, E[j]? = some s := ⟨E[j], List.getElem?_eq_getElem hjl⟩
                    obtain ⟨b8, off8, rfl, hb8, hc8⟩ := hls (by omega)
                    have e0 := (hc8 j _ hs).1
                    have e1 := (hc8 j _ hs).2
                    dsimp only at e0 e1
                    have hmem : (s1, m + s2) ∈ stepsP ⟨op, x, y, z, nd, ph⟩ k m := by
                      rw [steps_edges (unhide HOK)]
                      exact List.mem_map.2 ⟨(s1, s2), by have := List.mem_of_getElem? hs; rwa [unhide HEd] at this, rfl⟩
                    have hto := (unhide HWF) k _ m (unhide HII) _ hmem
                    have hnear := steps_near (unhide HM0).1 (unhide HBE) _ hmem
                    dsimp only at hto hnear
                    obtain ⟨t, rfl⟩ : ∃ t : Nat, s1 = (t : Int) := ⟨s1.toNat, by omega⟩
                    have htl : t < l.length := by omega
                    have htI : (t : Int) < (l.length : Int) := by omega
                    have hjI : (j : Int) < (E.length : Int) := by omega
                    obtain ⟨r1, r2, -, -⟩ := hbw2.at_ hlt
                    rw [hm2] at r1
                    simp only [Option.getD_some] at r1
                    clear r2
                    obtain ⟨t1, t2, t3, t4⟩ := hbw2.at_ htl
                    have hwm : IntKind.i64.wrap (m + s2) = m + s2 := wrap_id _ (by have := (unhide HM0).2; omega) (by have := (unhide HM0).2; omega)
                    have HJ4 := hide (wrap64_id (j := j) (by have := unhide HEL; omega))
                    have HR := hide (And.intro hbw2 (And.intro hd2 (And.intro hU2 (And.intro hm2 (And.intro hdn (And.intro hls hs))))))
                    have HME := hide hmem
                    clear hbw2 hd2 hU2 hm2 hdn hls hs hmem hto hnear hc8 hj
                    cases hlk : look L2 (t : Int) with
                    | some n0 =>
                      rw [hlk] at t1 t2
                      simp only [Option.getD_some, Option.isSome_some] at t1 t2
                      have HLK := hide hlk
                      clear hlk
                      by_cases hn : n0 = m + s2
                      · have d1 : (n0 != m + s2) = false := by simp [hn]
                        have HN := hide hn
                        clear hn
                        go_wp2_with fail
                        refine wp_region_still_lit (by kernel_rfl) (by kernel_rfl) ?_
                        repeat still_step
                        refine wpStill_nil ?_
                        go_wp2_with fail
                        refine ⟨⟨b', L2, j + 1, rfl, by rw [unhide HJ4], hjl, (unhide HR).1.below (below_drewN (Below.refl _ _) _), (unhide HR).2.1, (unhide HR).2.2.1, (unhide HR).2.2.2.1, fun q s hq hs => ?_, (unhide HR).2.2.2.2.2.1⟩, mea_n hjl (unhide HJ4)⟩
                        rcases Nat.lt_or_ge q j with h1 | h1
                        · exact (unhide HR).2.2.2.2.1 q s h1 hs
                        · obtain rfl : q = j := by omega
                          rw [(unhide HR).2.2.2.2.2.2] at hs
                          obtain rfl := Option.some.inj hs
                          rw [← unhide HN]; exact unhide HLK
                      · have d1 : (n0 != m + s2) = true := by simp [hn]
                        have HN := hide (show ¬ Good l from by
                          obtain ⟨st, _, hv⟩ := (unhide HR).1.inv
                          exact inv_clash hv (unhide HR).2.2.2.1 (unhide HII) (unhide HBE) (unhide HME) (unhide HLK) hn)
                        clear hn
                        go_wp2_with fail
                        refine wp_region_still_lit (by kernel_rfl) (by kernel_rfl) ?_
                        repeat still_step
                        refine wpStill_nil ?_
                        go_wp2_with fail
                        go_ret
                        exact bpost_f (unhide HN) (below_drewN (unhide HR).1.be _)
                    | none =>
                      obtain ⟨t5, t6⟩ := (unhide HR).1.at2 (unhide HG) htl (.bool true)
                      rw [hlk] at t1 t2 t5
                      simp only [Option.getD_none, Option.isSome_none] at t1 t2 t5
                      have HLK := hide hlk
                      clear hlk
                      go_wp2_with fail
                      refine wp_region_still_lit (by kernel_rfl) (by kernel_rfl) ?_
                      repeat still_step
                      refine wpStill_nil ?_
                      go_wp2_with fail
                      obtain ⟨hbn, hun⟩ := (unhide HR).1.new (unhide HG) (unhide HWF) (unhide HR).2.2.2.1 (unhide HII) (unhide HBE) (unhide HME) (unhide HLK) htl 0
                      refine ⟨⟨true, ((t : Int), m + s2) :: L2, j + 1, rfl, by rw [unhide HJ4], hjl, hbn.below (below_drewN (Below.refl _ _) 1), fun h => Bool.noConfusion h, ?_, look_old (unhide HLK) (unhide HR).2.2.2.1, fun q s hq hs => ?_, ?_⟩, mea_n hjl (unhide HJ4)⟩
                      · have h1 := (unhide HR).2.2.1
                        have h2 : b'.toNat ≤ 1 := by cases b' <;> simp
                        show U l.length (((t : Int), m + s2) :: L2) + 1 ≤ U l.length L
                        omega
                      · rcases Nat.lt_or_ge q j with h1 | h1
                        · exact look_old (unhide HLK) ((unhide HR).2.2.2.2.1 q s h1 hs)
                        · obtain rfl : q = j := by omega
                          rw [(unhide HR).2.2.2.2.2.2] at hs
                          obtain rfl := Option.some.inj hs
                          rw [look_cons, if_pos rfl]
                      · exact (lst_set (unhide HR).2.2.2.2.2.1 0 (unhide HE5).2).more (by simp [World.setCell, World.drew, World.drewN])
                  · have hjn : (E.length : Int) ≤ (j : Int) := by omega
                    have HR := hide (And.intro hbw2 (And.intro hd2 (And.intro hU2 (And.intro hm2 hdn))))
                    clear hbw2 hd2 hU2 hm2 hdn hls hj
                    go_wp2_with fail
                    have hjk := wrap64_id (j := k) (by have := (unhide HL).1; omega)
                    exact ⟨⟨b', L2, k + 1, rfl, by rw [hjk], hlt, (unhide HR).1, fun hb => done_next ((unhide HR).2.1 hb) (fun m2 hm2 => by
                      rw [(unhide HR).2.2.2.1] at hm2
                      obtain rfl := Option.some.inj hm2
                      exact closed_of (unhide HII) (unhide HBE) (unhide HOK) (unhide HEd) (by omega) (unhide HR).2.2.2.2), (unhide HR).2.2.1⟩, mea_n hlt hjk⟩
        · have hkn : (l.length : Int) ≤ (k : Int) := by omega
          go_wp2_with fail
          refine ⟨⟨bb, L', rfl, unhide HB1, fun hb => (show k = l.length by omega) ▸ (unhide HD1).1 hb⟩, ?_⟩
          have h2 := (unhide HD1).2
          rw [(unhide HB1).falses_, unhide HM, boolN_nat]
          show _ < 2 * U l.length L + 1
          cases bb <;> simp at h2 ⊢ <;> omega
end Go.Proofs.YtiaelaepfhiabaaDoor.Co
