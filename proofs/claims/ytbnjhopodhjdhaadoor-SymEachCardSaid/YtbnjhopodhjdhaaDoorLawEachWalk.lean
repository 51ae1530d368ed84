/-
  The law SymEach, walked: true at any bytes and any stop. Conditions: the library's two tables hold what the program's text lays.
-/
import Derived.Deep.DeepMust
import Derived.Test.YtbnjhopodhjdhaaDoorSymAnchor
import Derived.Test.YtbnjhopodhjdhaaDoorSymRefAll
import Derived.Test.YtbnjhopodhjdhaaDoorSymClone
set_option linter.unusedVariables false
set_option linter.unusedSimpArgs false
namespace Go.Proofs.YtbnjhopodhjdhaaDoor.LawEach
open Go.RowKit Go.Shelf Go.Proofs.YtbnjhopodhjdhaaDoor.Sy Go.Proofs.YtbnjhopodhjdhaaDoor.Mem Go.Proofs.YtbnjhopodhjdhaaDoor.Utf Go.Proofs.YtbnjhopodhjdhaaDoor.Anchor Go.Proofs.YtbnjhopodhjdhaaDoor.Each

attribute [local go_sem] Oper.semAt_some

theorem pre_snoc {α : Type} {pre fs : List α} {x : α} (h : pre <+: fs) (hx : fs[pre.length]? = some x) : pre ++ [x] <+: fs := by
  obtain ⟨t, rfl⟩ := h
  rw [List.getElem?_append_right (Nat.le_refl _), Nat.sub_self] at hx
  cases t with
  | nil => simp at hx
  | cons y t =>
    simp at hx
    subst hx
    exact ⟨t, by simp⟩
theorem pre_not {α : Type} {pre fs : List α} {x y : α} (hx : fs[pre.length]? = some y) (hne : x ≠ y) : ¬ (pre ++ [x] <+: fs) := by
  rintro ⟨t, rfl⟩
  rw [List.append_assoc, List.getElem?_append_right (Nat.le_refl _), Nat.sub_self] at hx
  simp at hx
  exact hne hx

/-- BETWEEN TWO ROUNDS: what has come is a beginning of what there is; the count; nothing else has turned. -/
def Inv (bs : List UInt8) (m : Nat) (w3 : World) (pre : List (Nat × Nat)) (W : World) : Prop :=
  pre <+: from_ bs 0 ∧ Boxed W (m + 1 + 1) 3 (n64 pre.length) ∧ w3.grownBy W (some (m + 1 + 1))
/-- WHERE THE LOOP IS LEFT: by the stop; or what has come is none of what there is. -/
def Left (bs : List UInt8) (stop : Int) (m : Nat) (w3 : World) (c : Code) (pre : List (Nat × Nat)) (W : World) : Prop :=
  ¬ (pre <+: from_ bs 0) ∨ (c = .exit 0 ∧ (pre.length : Int) = stop ∧ Inv bs m w3 pre W)
theorem inv_own (bs : List UInt8) (m : Nat) (w3 : World) (hm : m + 1 + 1 < w3.heap.size) : OwnFrom w3.heap.size (Inv bs m w3) := by
  rintro s W W' row ⟨h1, h2, h3⟩ hg hr
  refine ⟨h1, h2.kept hg (fun e => by have := (hr _ e.symm).1; omega), ⟨hg.os.trans h3.os, hg.tape.trans h3.tape, hg.output.trans h3.output, Nat.le_trans h3.size hg.size, fun k hk hne => ?_⟩⟩
  exact (hg.block k (Nat.lt_of_lt_of_le hk h3.size) (fun e => by have := (hr _ e.symm).1; omega)).trans (h3.block k hk hne)
theorem left_own (bs : List UInt8) (stop : Int) (m : Nat) (w3 : World) (hm : m + 1 + 1 < w3.heap.size) (c : Code) : OwnFrom w3.heap.size (Left bs stop m w3 c) := by
  rintro s W W' row h hg hr
  rcases h with h | ⟨h1, h2, h3⟩
  · exact .inl h
  · exact .inr ⟨h1, h2, inv_own bs m w3 hm s W W' row h3 hg hr⟩
/-- THE BLOCKS THAT MUST STAY. -/
def KK (m : Nat) (w3 : World) (k : Nat) : Prop := (m + 1 + 1 + 1 ≤ k ∧ k < w3.heap.size) ∨ k = 0 ∨ k = 1
/-- One store into the count. -/
theorem store_keeps {m : Nat} {w3 W : World} (hg0 : 0 < m) (hg1 : 1 < m) (v : Value) : Keeps (KK m w3) W (W.setCell ⟨m + 1 + 1, 0, none⟩ v) := by
  refine ⟨fun k hk => Below.heap_setCell W ⟨m + 1 + 1, 0, none⟩ v k (fun e => ?_), (grownBy_setCell' W (m + 1 + 1) v).size⟩
  have e' : k = m + 1 + 1 := e
  rcases hk with h | h | h <;> omega
theorem store_inv {bs : List UInt8} {m : Nat} {w3 W : World} {pre : List (Nat × Nat)} {x : Nat × Nat} (h7 : Boxed W (m + 1 + 1) 3 (n64 pre.length)) (hg : w3.grownBy W (some (m + 1 + 1))) (hp : pre ++ [x] <+: from_ bs 0) :
    Inv bs m w3 (pre ++ [x]) (W.setCell ⟨m + 1 + 1, 0, none⟩ (.int .i64 ((pre.length : Int) + 1))) := by
  refine ⟨hp, ?_, only_setCell hg (.inl rfl) _⟩
  have e : n64 (pre ++ [x]).length = .int .i64 ((pre.length : Int) + 1) := by simp [n64]
  rw [e]
  exact h7.set (.int .i64 ((pre.length : Int) + 1))

set_option maxRecDepth 100000 in
set_option maxHeartbeats 4000000 in
theorem walk_small (a0 : Option Addr) (cap : Nat) (bs : List UInt8) (stop : Int) (w : World) (hT : Tabs w) (hl : bs.length ≤ cap) (hm : cap ≤ 9223372036854775807) (hs : (bs.length : Int) ≤ 100000) (hr : Reads w w.heap.size 1 a0 bs.length (bs.map u8)) :
    Calls Tryd.prog 5 #[.slice a0 bs.length cap, .int .i64 stop] w fun e w' => e = .returned (.bool true) ∧ Below w.heap.size w w' := by
  refine (callsIn_wide (n := 3)).1 ?_
  have hroom0 := hT.room
  have HR := hide hr
  have HT := hide hT
  clear hr hT
  refine callsIn_of_wp_marks Tryd.func5 rfl trivial ?_ rfl
  simp only [Tryd.ntmps5, List.size_toArray, List.length_cons, List.length_nil, Nat.reduceAdd, Nat.reduceSub, Array.replicate_succ, Array.replicate_zero, List.push_toArray, List.append_toArray, List.nil_append, List.cons_append]
  gi_wp2_with fail
  refine ⟨trivial, ?_⟩
  obtain ⟨wB, hwB⟩ : ∃ wB, (w.alloc (.cells #[.int .i64 stop] 3)).alloc (.cells #[.bool false] 4) = wB := ⟨_, rfl⟩
  have hzB : wB.heap.size = w.heap.size + 1 + 1 := by rw [← hwB]; simp
  have b3 : Boxed wB w.heap.size 3 (.int .i64 stop) := by rw [← hwB]; exact (Boxed.new w _ _).alloc _
  have b4 : Boxed wB (w.heap.size + 1) 4 (.bool false) := by
    have := Boxed.new (w.alloc (.cells #[.int .i64 stop] 3)) 4 (.bool false)
    rw [World.size_alloc] at this
    rw [← hwB]; exact this
  have hBB : Below w.heap.size w wB := by rw [← hwB]; exact ((Below.refl _ w).alloc (Nat.le_refl _) _).alloc (by simp) _
  rw [hwB]
  have HZB := hide hzB
  have HB3 := hide b3
  have HB4 := hide b4
  have HBB := hide hBB
  clear hzB b3 b4 hBB hwB
  refine (callsIn_wide.2 (anchor_any wB ((unhide HT).below (unhide HBB) (Nat.le_refl _)))).mono ?_
  rintro e w1 ⟨rfl, hB1⟩
  have HB1 := hide ((unhide HBB).trans (hB1.mono (unhide HBB).size))
  have HX3 := hide ((unhide HB3).kept (below_iff.1 hB1) (by simp))
  have HX4 := hide ((unhide HB4).kept (below_iff.1 hB1) (by simp))
  have HR1 := hide (((unhide HR).below (unhide HB1)).lt)
  have HT1 := hide ((unhide HT).below (unhide HB1) (Nat.le_refl _))
  have hz1 : w.heap.size + 2 ≤ w1.heap.size := by have := hB1.size; rw [unhide HZB] at this; omega
  clear hB1 HBB HB3 HB4 HR HT HZB
  gi_wp2_with fail
  refine ⟨trivial, ?_⟩
  refine (callsIn_wide.2 (RefAll.ref_all bs a0 cap w1 (by omega) hl hm (unhide HR1))).mono ?_
  rintro e w2 ⟨v, u, rfl, hv, hu, hB2⟩
  obtain ⟨AL, cL, rfl, -, -, hrL⟩ := own_slice hv
  obtain ⟨AS, cS, rfl, -, -, hrS⟩ := own_slice hu
  have HB2 := hide ((unhide HB1).trans (hB2.mono (unhide HB1).size))
  have HX3 := hide ((unhide HX3).kept (below_iff.1 hB2) (by simp))
  have HX4 := hide ((unhide HX4).kept (below_iff.1 hB2) (by simp))
  have HR2 := hide (((unhide HR1).below hB2).lt)
  have HT2 := hide ((unhide HT1).below hB2 (Nat.le_refl _))
  have HL := hide hrL
  have HS := hide hrS
  have hz2 : w.heap.size + 2 ≤ w2.heap.size := by have := hB2.size; omega
  clear hB2 HB1 HR1 HT1 hrL hrS hv hu
  gi_wp2_with fail
  refine ⟨trivial, ?_⟩
  obtain ⟨wD, hwD⟩ : ∃ wD, ((w2.alloc (.cells #[.slice AL (syms bs).length cL] 27)).alloc (.cells #[.slice AS (starts bs).length cS] 27)).alloc (.cells #[.int .i64 0] 3) = wD := ⟨_, rfl⟩
  obtain ⟨m, hm2⟩ : ∃ m, w2.heap.size = m := ⟨_, rfl⟩
  have hzD : wD.heap.size = m + 1 + 1 + 1 := by rw [← hwD, ← hm2]; simp
  have hBD : Below w2.heap.size w2 wD := by rw [← hwD]; exact (((Below.refl _ w2).alloc (Nat.le_refl _) _).alloc (by simp) _).alloc (by simp; omega) _
  have b5 : Boxed wD m 27 (.slice AL (syms bs).length cL) := by rw [← hwD, ← hm2]; exact ((Boxed.new w2 _ _).alloc _).alloc _
  have b6 : Boxed wD (m + 1) 27 (.slice AS (starts bs).length cS) := by
    have := Boxed.new (w2.alloc (.cells #[.slice AL (syms bs).length cL] 27)) 27 (.slice AS (starts bs).length cS)
    rw [World.size_alloc, hm2] at this
    rw [← hwD]; exact this.alloc _
  have b7 : Boxed wD (m + 1 + 1) 3 (.int .i64 0) := by
    have := Boxed.new ((w2.alloc (.cells #[.slice AL (syms bs).length cL] 27)).alloc (.cells #[.slice AS (starts bs).length cS] 27)) 3 (.int .i64 0)
    rw [World.size_alloc, World.size_alloc, hm2] at this
    rw [← hwD]; exact this
  rw [hwD, hm2]
  have HX3 := hide ((unhide HX3).kept (below_iff.1 hBD) (by simp))
  have HX4 := hide ((unhide HX4).kept (below_iff.1 hBD) (by simp))
  have HRD := hide (((unhide HR2).below hBD).lt)
  have HTD := hide ((unhide HT2).below hBD (Nat.le_refl _))
  have HL := hide ((unhide HL).below hBD)
  have HS := hide ((unhide HS).below hBD)
  have HBD := hide ((unhide HB2).trans (hBD.mono (unhide HB2).size))
  rw [hm2] at HL HS hz2
  have HZD := hide hzD
  have H5 := hide b5
  have H6 := hide b6
  have H7 := hide b7
  clear hzD hBD b5 b6 b7 hwD HR2 HT2 HB2 hm2
  refine (callsIn_wide.2 (Each_any bs a0 cap wD (by omega) (unhide HRD))).mono ?_
  rintro e w3 ⟨Bs, A, c, rfl, hBs, hbx, hc1, hc2, hown, hB3⟩
  have hz3 : m + 3 ≤ w3.heap.size := by have := hB3.size; have := unhide HZD; omega
  have HX3 := hide ((unhide HX3).kept (below_iff.1 hB3) (by simp))
  have HX4 := hide ((unhide HX4).kept (below_iff.1 hB3) (by simp))
  have HX5 := hide ((unhide H5).kept (below_iff.1 hB3) (by simp))
  have HX6 := hide ((unhide H6).kept (below_iff.1 hB3) (by simp))
  have HX7 := hide ((unhide H7).kept (below_iff.1 hB3) (by simp))
  have HT3 := hide ((unhide HTD).below hB3 (Nat.le_refl _))
  have hB3m : Below m wD w3 := hB3.mono (by have := unhide HZD; omega)
  have HL3 := hide ((unhide HL).below hB3m)
  have HS3 := hide ((unhide HS).below hB3m)
  have HB3 := hide ((unhide HBD).trans (hB3.mono (unhide HBD).size))
  have HOWN := hide hown
  have HBX := hide hbx
  have HBS : m + 3 ≤ Bs := by have := unhide HZD; omega
  clear hBs hbx hown hB3 hB3m H5 H6 H7 HTD HL HS HBD HRD
  gi_wp2_with fail
  have hsz3 : m + 1 + 1 < w3.heap.size := by omega
  have hroom : 0 < w.heap.size ∧ 1 < w.heap.size := hroom0
  have hKlt : ∀ k, KK m w3 k → k < w3.heap.size := fun k hk => by rcases hk with h | h | h <;> omega
  have hLies : Lies w3 (KK m w3) A bs := fun hn => by
    obtain ⟨b, off, rfl, hlt, hc⟩ := (Reads.of_own (unhide HOWN)).flat hn
    have := own_base (unhide HOWN) b rfl
    have := unhide HZD
    exact ⟨b, off, rfl, .inl ⟨by omega, hlt⟩, fun j u hu => hc j (Mem.u8 u) (by simp [hu])⟩
  have hBsl := (unhide HBX).lt
  refine wpIn_rangeFunc_ownG rfl (by omega) (gf := 30) (lb := #[.pointer (some ⟨Bs, 0, none⟩)]) rfl trivial (enters_of Tryd.func30 (by kernel_rfl) rfl)
    (each_stops (3 - 1) (by omega) Bs c A bs (KK m w3) (.inl ⟨by omega, hBsl⟩) (.inr (.inl rfl)) (.inr (.inr rfl)) hc1 hc2 w3 hKlt (unhide HT3) (unhide HBX).cell hLies) keeps_t (keeps_b hKlt) (Below.refl _ _) (fun _ => rfl)
    (Inv bs m w3) (Left bs stop m w3) (inv_own bs m w3 hsz3) (left_own bs stop m w3 hsz3)
    ⟨List.nil_prefix, unhide HX7, World.grownBy.refl w3 _⟩
    (fun x => { tmps := #[.slice a0 bs.length cap, .int .i64 stop, undef, .pointer (some ⟨w.heap.size, 0, none⟩), .pointer (some ⟨w.heap.size + 1, 0, none⟩), .pointer (some ⟨m, 0, none⟩), .pointer (some ⟨m + 1, 0, none⟩), .pointer (some ⟨m + 1 + 1, 0, none⟩),
      .int .i64 (x.1 : Int), .int .i64 (x.2 : Int), .bool true, .bool false, .slice a0 bs.length cap, .int .i64 (bs.length : Int), .bool (decide (100000 < (bs.length : Int))), .tuple #[.slice AL (syms bs).length cL, .slice AS (starts bs).length cS], .slice a0 bs.length cap,
      .tuple #[.slice AL (syms bs).length cL, .slice AS (starts bs).length cS], .slice AL (syms bs).length cL, .slice AS (starts bs).length cS, .slice a0 bs.length cap, .func (.func 30) #[] #[.pointer (some ⟨Bs, 0, none⟩)], .int .i64 (x.1 : Int), .int .i64 (x.2 : Int),
      undef, undef, undef, undef, undef, undef, undef, undef, undef, undef, undef, undef, undef, undef, undef, undef, undef, undef, undef, undef, undef, undef, undef, undef, undef, undef, undef, undef, undef, undef, undef, undef, undef, undef], defers := [] }) ?assign ?body ?done ?stop
  case assign =>
    intro l x W K hK
    gi_wp2
    exact hK
  case body =>
    rintro l pre ⟨x1, x2⟩ W ⟨hp, h7, hg⟩ hlt
    have hk := List.getElem?_eq_getElem hlt
    obtain ⟨⟨p, q⟩, hpq⟩ : ∃ y, (from_ bs 0)[pre.length] = y := ⟨_, rfl⟩
    rw [hpq] at hk
    have hcS : (syms bs)[pre.length]? = some q := by simp [syms, hk]
    have hcB : (starts bs)[pre.length]? = some p := by
      have hb : pre.length < (begins bs).length := by simp [begins]; exact hlt
      unfold starts
      rw [List.getElem?_append_left hb]
      simp [begins, hk]
    have hsl : (syms bs).length = (from_ bs 0).length := by simp [syms]
    have htl : (starts bs).length = (from_ bs 0).length + 1 := by simp [starts, begins]
    have c3 := ((unhide HX3).kept hg (by simp; omega)).cell
    have X4 := (unhide HX4).kept hg (by simp; omega)
    have c4 := X4.cell
    have f4 := X4.frozen
    have c5 := ((unhide HX5).kept hg (by simp; omega)).cell
    have c6 := ((unhide HX6).kept hg (by simp)).cell
    have c7 := h7.cell
    have f7 := h7.frozen
    obtain ⟨bl, ol, rfl, hbl, hcl⟩ := ((unhide HL3).grown hg (by omega) (fun g e => by cases e; omega)).flat (by rw [hsl]; omega)
    obtain ⟨bt, ot, rfl, hbt, hct⟩ := ((unhide HS3).grown hg (by omega) (fun g e => by cases e; omega)).flat (by rw [htl]; omega)
    have cl := hcl pre.length (n64 q) (by simp [hcS])
    have ct := hct pre.length (n64 p) (by simp [hcB])
    have g1 : (pre.length : Int) < ((syms bs).length : Int) := by rw [hsl]; omega
    have g2 : (pre.length : Int) < ((starts bs).length : Int) := by rw [htl]; omega
    have g3 : (pre.length : Int) ≤ 100000 := by have := len_le bs; omega
    have HK := hide hk
    have HP := hide hp
    have HG := hide hg
    have H7 := hide h7
    clear hk hpq hcS hcB hsl htl X4 hcl hct hp hg h7 hbl hbt hlt
    by_cases e1 : x1 = p
    · subst e1
      by_cases e2 : x2 = q
      · subst e2
        have hpre := hide (pre_snoc (unhide HP) (unhide HK))
        by_cases e3 : (pre.length : Int) + 1 = stop
        · have d3 : (((pre.length : Int) + 1) == stop) = true := by simp [e3]
          have E3 := hide e3
          clear e3
          gi_wp2
          exact ⟨(KeepsOthers.setCell _ _ _).from _, .inr ⟨rfl, by simpa using unhide E3, store_inv (unhide H7) (unhide HG) (unhide hpre)⟩⟩
        · have d3 : (((pre.length : Int) + 1) == stop) = false := by simp [e3]
          clear e3
          gi_wp2
          exact ⟨(KeepsOthers.setCell _ _ _).from _, store_keeps (by omega) (by omega) _, store_inv (unhide H7) (unhide HG) (unhide hpre)⟩
      · have d2 : ((x2 : Int) != (q : Int)) = true := by rw [bne_iff_ne]; omega
        have hno := hide (pre_not (x := (x1, x2)) (unhide HK) (by simp [e2]))
        clear e2
        gi_wp2
        exact ⟨(KeepsOthers.setCell _ _ _).from _, .inl (unhide hno)⟩
    · have d1 : ((x1 : Int) != (p : Int)) = true := by rw [bne_iff_ne]; omega
      have hno := hide (pre_not (x := (x1, x2)) (unhide HK) (by simp [e1]))
      clear e1
      gi_wp2
      exact ⟨(KeepsOthers.setCell _ _ _).from _, .inl (unhide hno)⟩
  case done =>
    rintro D ys W hD rfl ⟨hp, h7, hg⟩ hK
    have c3 := ((unhide HX3).kept hg (by simp; omega)).cell
    have X4 := (unhide HX4).kept hg (by simp; omega)
    have c4 := X4.cell
    have f4 := X4.frozen
    have c5 := ((unhide HX5).kept hg (by simp; omega)).cell
    have c7 := h7.cell
    have hB4 : Below w.heap.size w (W.setCell ⟨w.heap.size + 1, 0, none⟩ (.bool true)) := ((unhide HB3).grown hg (unhide HB3).size (fun k e => by cases e; omega)).setCell (p := ⟨w.heap.size + 1, 0, none⟩) (Nat.le_succ _) _
    have hK' := (KeepsOthers.setCell W ⟨w.heap.size + 1, 0, none⟩ (.bool true)).same D _ hK rfl
    have hc5 := cell_kept (World.cell?_setCell_same' W ⟨w.heap.size + 1, 0, none⟩ (.bool true) (by rw [c4]; rfl)) (grownBy_putObj' _ D (.deferred none)) (fun r e => by cases e; exact ⟨_, hK', rfl⟩)
    have HD := hide hD
    have HB4 := hide hB4
    have HK' := hide hK'
    have HC5 := hide hc5
    clear hD hB4 hK' hc5 hK X4 hg h7
    have d1 : (((from_ bs 0).length : Int) == ((syms bs).length : Int)) = true := by simp [syms]
    gi_wp2
    refine ⟨by simp, .inl ⟨_, _, rfl, run_takeDeferred (unhide HK'), ?_⟩⟩
    have hc5 := unhide HC5
    refine ⟨.bool true, ?_, rfl, (unhide HB4).trans (belowK_b (w := w) (Nat.le_refl _) _ D _ _ (by have := unhide HD; have := (unhide HB3).size; omega) (unhide HK') rfl rfl)⟩
    simp [results, Tryd.f5, go_sem, hc5]
  case stop =>
    rintro D c pre W hD hpre h hK
    rcases h with h | ⟨rfl, hst, hp, h7, hg⟩
    · exact absurd hpre h
    have c3 := ((unhide HX3).kept hg (by simp; omega)).cell
    have X4 := (unhide HX4).kept hg (by simp; omega)
    have c4 := X4.cell
    have f4 := X4.frozen
    have c5 := ((unhide HX5).kept hg (by simp; omega)).cell
    have c7 := h7.cell
    have hB4 : Below w.heap.size w (W.setCell ⟨w.heap.size + 1, 0, none⟩ (.bool true)) := ((unhide HB3).grown hg (unhide HB3).size (fun k e => by cases e; omega)).setCell (p := ⟨w.heap.size + 1, 0, none⟩) (Nat.le_succ _) _
    have hK' := (KeepsOthers.setCell W ⟨w.heap.size + 1, 0, none⟩ (.bool true)).same D _ hK rfl
    have hc5 := cell_kept (World.cell?_setCell_same' W ⟨w.heap.size + 1, 0, none⟩ (.bool true) (by rw [c4]; rfl)) (grownBy_putObj' _ D (.deferred none)) (fun r e => by cases e; exact ⟨_, hK', rfl⟩)
    have HD := hide hD
    have HB4 := hide hB4
    have HK' := hide hK'
    have HC5 := hide hc5
    clear hD hB4 hK' hc5 hK X4 hg h7
    have d2 : ((pre.length : Int) == stop) = true := by simp [hst]
    have HPRE := hide hpre
    have HST := hide hst
    clear hpre hst hp
    by_cases d : (pre.length : Int) = ((syms bs).length : Int)
    · have d1 : ((pre.length : Int) == ((syms bs).length : Int)) = true := by simp [d]
      clear d
      gi_wp2
      refine ⟨by simp, .inl ⟨_, _, rfl, run_takeDeferred (unhide HK'), ?_⟩⟩
      have hc5 := unhide HC5
      refine ⟨.bool true, ?_, rfl, (unhide HB4).trans (belowK_b (w := w) (Nat.le_refl _) _ D _ _ (by have := unhide HD; have := (unhide HB3).size; omega) (unhide HK') rfl rfl)⟩
      simp [results, Tryd.f5, go_sem, hc5]
    · have d1 : ((pre.length : Int) == ((syms bs).length : Int)) = false := by simp [d]
      clear d
      gi_wp2
      refine ⟨by simp, .inl ⟨_, _, rfl, run_takeDeferred (unhide HK'), ?_⟩⟩
      have hc5 := unhide HC5
      refine ⟨.bool true, ?_, rfl, (unhide HB4).trans (belowK_b (w := w) (Nat.le_refl _) _ D _ _ (by have := unhide HD; have := (unhide HB3).size; omega) (unhide HK') rfl rfl)⟩
      simp [results, Tryd.f5, go_sem, hc5]

set_option maxRecDepth 100000 in
set_option maxHeartbeats 1000000 in
theorem walk_big (a0 : Option Addr) (n cap : Nat) (stop : Int) (w : World) (hT : Tabs w) (h : 100000 < (n : Int)) :
    Calls Tryd.prog 5 #[.slice a0 n cap, .int .i64 stop] w fun e w' => e = .returned (.bool true) ∧ Below w.heap.size w w' := by
  refine (callsIn_wide (n := 3)).1 ?_
  have HT := hide hT
  clear hT
  refine callsIn_of_wp_marks Tryd.func5 rfl trivial ?_ rfl
  simp only [Tryd.ntmps5, List.size_toArray, List.length_cons, List.length_nil, Nat.reduceAdd, Nat.reduceSub, Array.replicate_succ, Array.replicate_zero, List.push_toArray, List.append_toArray, List.nil_append, List.cons_append]
  gi_wp2_with fail
  refine ⟨trivial, ?_⟩
  obtain ⟨wB, hwB⟩ : ∃ wB, (w.alloc (.cells #[.int .i64 stop] 3)).alloc (.cells #[.bool false] 4) = wB := ⟨_, rfl⟩
  have b4 : Boxed wB (w.heap.size + 1) 4 (.bool false) := by
    have := Boxed.new (w.alloc (.cells #[.int .i64 stop] 3)) 4 (.bool false)
    rw [World.size_alloc] at this
    rw [← hwB]; exact this
  have hBB : Below w.heap.size w wB := by rw [← hwB]; exact ((Below.refl _ w).alloc (Nat.le_refl _) _).alloc (by simp) _
  rw [hwB]
  have HB4 := hide b4
  have HBB := hide hBB
  clear b4 hBB hwB
  refine (callsIn_wide.2 (anchor_any wB ((unhide HT).below (unhide HBB) (Nat.le_refl _)))).mono ?_
  rintro e w1 ⟨rfl, hB1⟩
  have HB1 := hide ((unhide HBB).trans (hB1.mono (unhide HBB).size))
  have X4 := (unhide HB4).kept (below_iff.1 hB1) (by simp)
  have c4 := X4.cell
  have f4 := X4.frozen
  have hc5 := World.cell?_setCell_same' w1 ⟨w.heap.size + 1, 0, none⟩ (.bool true) (by rw [c4]; rfl)
  have HC5 := hide hc5
  clear hB1 hc5 X4
  gi_wp2
  have hc5 := unhide HC5
  refine ⟨.bool true, ?_, rfl, (unhide HB1).setCell (p := ⟨w.heap.size + 1, 0, none⟩) (Nat.le_succ _) _⟩
  simp [results, Tryd.f5, go_sem, hc5]

theorem walk (a0 : Option Addr) (cap0 : Nat) (bs0 : List UInt8) (a1 : Int) (w : World) (hT : Tabs w) (hl0 : bs0.length ≤ cap0) (hm0 : cap0 ≤ 9223372036854775807) (h0 : Reads w w.heap.size 1 a0 bs0.length (bs0.map Mem.u8))
    (b1 : -9223372036854775808 ≤ a1 ∧ a1 ≤ 9223372036854775807) :
    Calls Tryd.prog 5 #[.slice a0 bs0.length cap0, .int .i64 a1] w fun e w' => e = .returned (.bool true) ∧ Below w.heap.size w w' := by
  by_cases h : (100000 : Int) < (bs0.length : Int)
  · exact walk_big a0 bs0.length cap0 a1 w hT h
  · exact walk_small a0 cap0 bs0 a1 w hT hl0 hm0 (by omega) h0
end Go.Proofs.YtbnjhopodhjdhaaDoor.LawEach
