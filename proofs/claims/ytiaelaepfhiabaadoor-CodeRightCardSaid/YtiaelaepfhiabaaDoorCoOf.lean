/-
  The law's of, walked: the program copied for the reference. Condition: the program lies in memory.
-/
import Derived.Test.YtiaelaepfhiabaaDoorCoRight
set_option linter.unusedVariables false
set_option linter.unusedSimpArgs false
namespace Go.Proofs.YtiaelaepfhiabaaDoor.Co
open Go.RowKit Go.Proofs.YtiaelaepfhiabaaDoor.Mem Go.Proofs.YtiaelaepfhiabaaDoor.Rs
attribute [local go_sem] run_not_true run_not_false
theorem info_I : (Tryd.prog.info? 48).map (fun i => (i.zero, i.size, i.bytes)) = some (some (.agg #[.int .i64 0, .int .i64 0, .int .i64 0, .int .i64 0, .int .i64 0, .int .i64 0]), 6, 48) := by kernel_rfl
theorem info_C : (Tryd.prog.info? 47).map (fun i => (i.zero, i.size, i.bytes)) = some (some (.agg #[.int .i64 0, .int .i64 0, .int .i64 0]), 3, 24) := by kernel_rfl
theorem info_R : (Tryd.prog.info? 53).map (fun i => (i.zero, i.size, i.bytes)) = some (some (.agg #[.int .i64 0, .int .i64 0]), 2, 16) := by kernel_rfl
theorem info_LR : (Tryd.prog.info? 45).map (fun i => (i.zero, i.size, i.bytes)) = some (some (.slice none 0 0), 1, 24) := by kernel_rfl
theorem build_ref (g : Int) (w : World) : Sem.run Tryd.prog (Instr.build 33 #[(3, .int .i64 g)]) w = .ok (.agg #[.slice none 0 0, .slice none 0 0, .slice none 0 0, .int .i64 g]) w := run_build w 33 _ _ (by kernel_rfl)
attribute [local go_sem] build_ref

def cI (i : In) : List Value := [.int .i64 i.op, .int .i64 i.x, .int .i64 i.y, .int .i64 i.z, .int .i64 i.nd, .int .i64 i.ph]
def flI (l : List In) : List Value := l.flatMap cI
theorem flI_len : ∀ l : List In, (flI l).length = l.length * 6
  | [] => rfl
  | i :: l => by
    have := flI_len l
    simp only [flI, List.flatMap_cons, List.length_append, List.length_cons] at this ⊢
    simp only [cI, List.length_cons, List.length_nil]
    omega
theorem flI_at : ∀ (l : List In) (k j : Nat) (i : In), l[k]? = some i → j < 6 → (flI l)[k * 6 + j]? = (cI i)[j]?
  | i0 :: l, 0, j, i, h, hj => by
    simp at h
    subst h
    show (cI i0 ++ flI l)[0 * 6 + j]? = _
    rw [Nat.zero_mul, Nat.zero_add, List.getElem?_append_left (by simpa [cI] using hj)]
  | i0 :: l, k + 1, j, i, h, hj => by
    have h2 : l[k]? = some i := by simpa using h
    have := flI_at l k j i h2 hj
    show (cI i0 ++ flI l)[(k + 1) * 6 + j]? = _
    rw [List.getElem?_append_right (by simp [cI]; omega)]
    rw [show (k + 1) * 6 + j - (cI i0).length = k * 6 + j by simp [cI]; omega]
    exact this
theorem flI_snoc (l : List In) (i : In) : flI (l ++ [i]) = flI l ++ cI i := by simp [flI]
theorem ins_of_reads {w : World} {B : Nat} {A : Option Addr} {l : List In} (h : Reads w B 6 A l.length (flI l)) : Ins w B A l := fun hn => by
  obtain ⟨⟨b, off, sp⟩, rfl, hb, hc⟩ := h.2 hn
  have key : ∀ k i, l[k]? = some i → ∀ j u, (cI i)[j]? = some u → w.cell? ((Addr.mk b off sp).add (k * 6 + j)) = some u := fun k i hi j u hu => by
    have hj : j < 6 := by have := (List.getElem?_eq_some_iff.1 hu).1; simpa [cI] using this
    exact hc _ u (by rw [flI_at l k j i hi hj]; exact hu)
  have h0 := key 0 l[0] (List.getElem?_eq_getElem hn) 0 _ rfl
  have es : sp = none := cell_spot (by simpa [Addr.add] using h0)
  subst es
  refine ⟨b, off, rfl, hb, fun k i hi => ?_⟩
  have h := key k i hi
  have ea : ∀ j, (Addr.add ⟨b, off, none⟩ (k * 6 + j)) = ⟨b, off + k * 6 + j, none⟩ := fun j => by rw [add_flat, Nat.add_assoc]
  simp only [ea] at h
  exact ⟨h 0 _ rfl, h 1 _ rfl, h 2 _ rfl, h 3 _ rfl, h 4 _ rfl, h 5 _ rfl⟩
def cC (c : Cn) : List Value := [.int .i64 c.1, .int .i64 c.2.1, .int .i64 c.2.2]
def flC (l : List Cn) : List Value := l.flatMap cC
theorem flC_len : ∀ l : List Cn, (flC l).length = l.length * 3
  | [] => rfl
  | i :: l => by
    have := flC_len l
    simp only [flC, List.flatMap_cons, List.length_append, List.length_cons] at this ⊢
    simp only [cC, List.length_cons, List.length_nil]
    omega
theorem flC_at : ∀ (l : List Cn) (k j : Nat) (i : Cn), l[k]? = some i → j < 3 → (flC l)[k * 3 + j]? = (cC i)[j]?
  | i0 :: l, 0, j, i, h, hj => by
    simp at h
    subst h
    show (cC i0 ++ flC l)[0 * 3 + j]? = _
    rw [Nat.zero_mul, Nat.zero_add, List.getElem?_append_left (by simpa [cC] using hj)]
  | i0 :: l, k + 1, j, i, h, hj => by
    have h2 : l[k]? = some i := by simpa using h
    have := flC_at l k j i h2 hj
    show (cC i0 ++ flC l)[(k + 1) * 3 + j]? = _
    rw [List.getElem?_append_right (by simp [cC]; omega)]
    rw [show (k + 1) * 3 + j - (cC i0).length = k * 3 + j by simp [cC]; omega]
    exact this
theorem flC_snoc (l : List Cn) (i : Cn) : flC (l ++ [i]) = flC l ++ cC i := by simp [flC]
theorem cns_of_reads {w : World} {B : Nat} {A : Option Addr} {l : List Cn} (h : Reads w B 3 A l.length (flC l)) : Cns w B A l := fun hn => by
  obtain ⟨⟨b, off, sp⟩, rfl, hb, hc⟩ := h.2 hn
  have key : ∀ k i, l[k]? = some i → ∀ j u, (cC i)[j]? = some u → w.cell? ((Addr.mk b off sp).add (k * 3 + j)) = some u := fun k i hi j u hu => by
    have hj : j < 3 := by have := (List.getElem?_eq_some_iff.1 hu).1; simpa [cC] using this
    exact hc _ u (by rw [flC_at l k j i hi hj]; exact hu)
  have h0 := key 0 l[0] (List.getElem?_eq_getElem hn) 0 _ rfl
  have es : sp = none := cell_spot (by simpa [Addr.add] using h0)
  subst es
  refine ⟨b, off, rfl, hb, fun k i hi => ?_⟩
  have h := key k i hi
  have ea : ∀ j, (Addr.add ⟨b, off, none⟩ (k * 3 + j)) = ⟨b, off + k * 3 + j, none⟩ := fun j => by rw [add_flat, Nat.add_assoc]
  simp only [ea] at h
  exact ⟨h 0 _ rfl, h 1 _ rfl, h 2 _ rfl⟩
theorem ins_grown {w w' : World} {B : Nat} {A : Option Addr} {l : List In} {q : Nat} (h : Ins w B A l) (hB : B ≤ w.heap.size) (hg : w.grownBy w' (some q)) (hne : ∀ ad, A = some ad → ad.block ≠ q) : Ins w' B A l := fun hn => by
  obtain ⟨b, off, rfl, hb, hc⟩ := h hn
  have hk : ∀ i, w'.cell? ⟨b, i, none⟩ = w.cell? ⟨b, i, none⟩ := fun i => World.cell?_of_block (hg.block b (by omega) (fun e => hne _ rfl (by injection e)))
  exact ⟨b, off, rfl, hb, fun k i hi => by
    obtain ⟨h0, h1, h2, h3, h4, h5⟩ := hc k i hi
    exact ⟨(hk _).trans h0, (hk _).trans h1, (hk _).trans h2, (hk _).trans h3, (hk _).trans h4, (hk _).trans h5⟩⟩
theorem own_setB {W : World} {base e size n q j : Nat} {v : Value} {xs : List Value} (h : W.ownsRow base e size v n xs) (hq : q < base) (u : Value) : (W.setCell ⟨q, j, none⟩ u).ownsRow base e size v n xs := by
  refine ⟨h.1, ?_⟩
  rcases h.2 with h | ⟨b, cap, cur, rfl, h1, h2, h3⟩
  · exact .inl h
  · exact .inr ⟨b, cap, cur, rfl, h1, (Below.heap_setCell W ⟨q, j, none⟩ u b (by simp; omega)).trans h2, h3⟩
theorem one_cI (i : In) : ∀ u ∈ cI i, u.oneCell' = true := by
  intro u hu
  simp [cI] at hu
  rcases hu with rfl | rfl | rfl | rfl | rfl | rfl <;> rfl
/-- so far copied: a row of the call's own, named by cell j of the box q -/
structure OI (w R0 : World) (q T size : Nat) (cells : List Value) (n : Nat) (cs : Value → Array Value) (pb : Array Value) (wr : World) : Prop where
  kp : R0.grownBy wr (some q)
  row : ∃ v, wr.ownsRow R0.heap.size T size v n cells ∧ Blk wr q 33 (cs v)
  pbx : Blk wr w.heap.size 26 pb
theorem OI.step {w R0 : World} {q T size : Nat} {xs ys : List Value} {n : Nat} {cs : Value → Array Value} {pb : Array Value} {wr w8 : World} {v v8 : Value} {o1 o2 : Obj} {j : Nat} (hqR : q < R0.heap.size) (hwq : w.heap.size < q) (h : OI w R0 q T size xs n cs pb wr) (ho : wr.ownsRow R0.heap.size T size v n xs)
    (ho8 : w8.ownsRow R0.heap.size T size v8 (n + 1) (xs ++ ys)) (hg : ((wr.alloc o1).alloc o2).grownBy w8 v.ownBlock) (hcs : ∀ u, (cs v).setIfInBounds j u = cs u) (hbq : Blk wr q 33 (cs v)) : OI w R0 q T size (xs ++ ys) (n + 1) cs pb (w8.setCell ⟨q, j, none⟩ v8) := by
  have hob := own_base ho
  have hk : R0.grownBy w8 (some q) := by
    refine ⟨hg.os.trans h.kp.os, hg.tape.trans h.kp.tape, hg.output.trans h.kp.output, Nat.le_trans h.kp.size (by have := hg.size; simp at this; omega), fun i hi hne => ?_⟩
    have h1 : i < wr.heap.size := Nat.lt_of_lt_of_le hi h.kp.size
    refine (hg.block i (by simp; omega) (fun e => by have := hob i e.symm; omega)).trans ?_
    exact (Below.heap_alloc _ _ i (by simp; omega)).trans ((Below.heap_alloc _ _ i h1).trans (h.kp.block i hi hne))
  have hbq8 : Blk w8 q 33 (cs v) := ((hbq.alloc o1).alloc o2).grown hg (fun e => by have := hob q e.symm; omega)
  have hpb8 : Blk w8 w.heap.size 26 pb := ((h.pbx.alloc o1).alloc o2).grown hg (fun e => by have := hob _ e.symm; omega)
  refine ⟨only_setCell hk (.inl rfl) _, ⟨v8, own_setB ho8 (by omega) _, by rw [← hcs v8]; exact hbq8.set_ j v8⟩, hpb8.far (by simp; omega) _⟩
theorem flI_take {l : List In} {k : Nat} {i : In} (h : l[k]? = some i) : flI (l.take (k + 1)) = flI (l.take k) ++ cI i := by
  rw [List.take_add_one, h]; exact flI_snoc _ _
theorem flC_take {l : List Cn} {k : Nat} {i : Cn} (h : l[k]? = some i) : flC (l.take (k + 1)) = flC (l.take k) ++ cC i := by
  rw [List.take_add_one, h]; exact flC_snoc _ _
theorem flat_take {l : List R} {k : Nat} {i : R} (h : l[k]? = some i) : flat (l.take (k + 1)) = flat (l.take k) ++ enc i := by
  rw [List.take_add_one, h]; simp [flat]
theorem one_cC (i : Cn) : ∀ u ∈ cC i, u.oneCell' = true := by
  intro u hu
  simp [cC] at hu
  rcases hu with rfl | rfl | rfl <;> rfl
theorem one_enc (i : R) : ∀ u ∈ enc i, u.oneCell' = true := by
  intro u hu
  simp [enc] at hu
  rcases hu with rfl | rfl <;> rfl
theorem own_lt2 {W : World} {base e n size m cap : Nat} {A : Option Addr} {ad : Addr} {xs : List Value} (h : W.ownsRow base e size (.slice A m cap) n xs) (hA : A = some ad) : ad.block < W.heap.size := by
  subst hA
  rcases h.2 with ⟨e, _⟩ | ⟨g', cap', cur, e, _, hh, _⟩
  · cases e
  · injection e with e; injection e with e; subst e; exact (Array.getElem?_eq_some_iff.1 hh).1
/-- so many sets are copied -/
structure SO (w R1 : World) (q : Nat) (ss : List (List R)) (k : Nat) (cs : Value → Array Value) (pb : Array Value) (vs : Value) (vals : List Value) (wr : World) : Prop where
  kp : R1.grownBy wr (some q)
  row : wr.ownsRow R1.heap.size 45 1 vs k vals
  qb : Blk wr q 33 (cs vs)
  pbx : Blk wr w.heap.size 26 pb
  each : ∀ j s, j < k → ss[j]? = some s → ∃ A' c', vals[j]? = some (.slice A' s.length c') ∧ Lst wr wr.heap.size A' s ∧ s.length ≤ c' ∧ ∀ ad, A' = some ad → R1.heap.size ≤ ad.block ∧ vs.ownBlock ≠ some ad.block ∧ ad.block < wr.heap.size
theorem lst_setq {W : World} {B : Nat} {A : Option Addr} {l : List R} {q j : Nat} {u : Value} (h : Lst W B A l) (hf : ∀ ad, A = some ad → q < ad.block) : Lst (W.setCell ⟨q, j, none⟩ u) B A l := fun hn => by
  obtain ⟨b, off, rfl, hb, hc⟩ := h hn
  have h1 := hf _ rfl
  have hk : ∀ i, (W.setCell ⟨q, j, none⟩ u).cell? ⟨b, i, none⟩ = W.cell? ⟨b, i, none⟩ := fun i => World.cell?_setCell_other _ _ _ _ (fun e => by injection e with e; simp at h1; omega)
  exact ⟨b, off, rfl, hb, fun k r hr => ⟨(hk _).trans (hc k r hr).1, (hk _).trans (hc k r hr).2⟩⟩
theorem SO.step {w R1 : World} {q : Nat} {ss : List (List R)} {k : Nat} {cs : Value → Array Value} {pb : Array Value} {vs vs8 : Value} {vals : List Value} {wr W w8 : World} {s : List R} {A8 : Option Addr} {c8 : Nat} {o2 : Obj} (hqR : q < R1.heap.size) (hwq : w.heap.size < q) (h : SO w R1 q ss k cs pb vs vals wr) (hs : ss[k]? = some s)
    (hb : Below wr.heap.size wr W) (h8 : W.ownsRow wr.heap.size 53 2 (.slice A8 s.length c8) s.length (flat s))
    (ho8 : w8.ownsRow R1.heap.size 45 1 vs8 (k + 1) (vals ++ [.slice A8 s.length c8])) (hg : (W.alloc o2).grownBy w8 vs.ownBlock) (hn8 : vs8.ownBlock = vs.ownBlock ∨ vs8.ownBlock = some (W.alloc o2).heap.size) (hcs : ∀ u, (cs vs).setIfInBounds 1 u = cs u) :
    SO w R1 q ss (k + 1) cs pb vs8 (vals ++ [.slice A8 s.length c8]) (w8.setCell ⟨q, 1, none⟩ vs8) := by
  have hob := own_base h.row
  have hW := hb.size
  have hkp := h.kp.size
  have hw8 := hg.size
  simp at hw8
  have hk : R1.grownBy w8 (some q) := by
    refine ⟨hg.os.trans (hb.os.trans h.kp.os), hg.tape.trans (hb.tape.trans h.kp.tape), hg.output.trans (hb.output.trans h.kp.output), by omega, fun i hi hne => ?_⟩
    refine (hg.block i (by simp; omega) (fun e => by have := hob i e.symm; omega)).trans ?_
    exact (Below.heap_alloc _ _ i (by omega)).trans ((hb.block i (by omega)).trans (h.kp.block i hi hne))
  have hvl : vals.length = k := by have := h.row.1; omega
  have hlst : ∀ A' t, Lst W W.heap.size A' t → (∀ ad, A' = some ad → R1.heap.size ≤ ad.block ∧ vs.ownBlock ≠ some ad.block) → Lst (w8.setCell ⟨q, 1, none⟩ vs8) (w8.setCell ⟨q, 1, none⟩ vs8).heap.size A' t := fun A' t hl hf => by
    have l2 : Lst (W.alloc o2) W.heap.size A' t := hl.below (below_al (Below.refl _ _) (Nat.le_refl _) _)
    have l3 := lst_grown l2 (by simp) hg (fun ad e => (hf ad e).2)
    exact (lst_setq l3 (fun ad e => by have := (hf ad e).1; omega)).more (by simp [World.setCell]; omega)
  have hvb : ∀ gq, vs.ownBlock = some gq → gq < wr.heap.size := fun gq e => by
    rcases h.row.2 with ⟨rfl, _⟩ | ⟨b, cap, cur, rfl, h1, h2, h3⟩
    · simp [Value.ownBlock] at e
    · simp [Value.ownBlock] at e; subst e; exact (Array.getElem?_eq_some_iff.1 h2).1
  refine ⟨only_setCell hk (.inl rfl) _, own_setB ho8 (by omega) _, ?_, ?_, fun j t hj ht => ?_⟩
  · have hq8 : Blk w8 q 33 (cs vs) := ((h.qb.below hb h.qb.lt).alloc o2).grown hg (fun e => by have := hob q e.symm; omega)
    rw [← hcs vs8]; exact hq8.set_ 1 vs8
  · have hp8 : Blk w8 w.heap.size 26 pb := ((h.pbx.below hb h.pbx.lt).alloc o2).grown hg (fun e => by have := hob _ e.symm; omega)
    exact hp8.far (by simp; omega) _
  · rcases Nat.lt_or_ge j k with h1 | h1
    · obtain ⟨A', c', e1, e2, e3, e4⟩ := h.each j t h1 ht
      refine ⟨A', c', by rw [List.getElem?_append_left (by omega)]; exact e1, hlst A' t ((e2.below hb).more hW) (fun ad e => ⟨(e4 ad e).1, (e4 ad e).2.1⟩), e3, fun ad e => ⟨(e4 ad e).1, ?_, by have := (e4 ad e).2.2; simp [World.setCell]; omega⟩⟩
      rcases hn8 with h5 | h5
      · rw [h5]; exact (e4 ad e).2.1
      · rw [h5]
        intro e6
        injection e6 with e6
        simp at e6
        have := (e4 ad e).2.2
        omega
    · obtain rfl : j = k := by omega
      rw [hs] at ht
      obtain rfl := Option.some.inj ht
      obtain ⟨A9, c9, e9, hl9, hc9, -⟩ := own_lst2 h8
      injection e9 with e10 e11 e12
      subst e10 e12
      have hfar : ∀ ad, A8 = some ad → R1.heap.size ≤ ad.block ∧ vs.ownBlock ≠ some ad.block := fun ad e => by
        have h1 : wr.heap.size ≤ ad.block := own_base h8 _ (by rw [e]; rfl)
        exact ⟨by omega, fun e2 => by have := hvb _ e2; omega⟩
      refine ⟨A8, c8, by rw [List.getElem?_append_right (by omega), hvl, Nat.sub_self]; rfl, hlst A8 s hl9 hfar, hc9, fun ad e => ⟨(hfar ad e).1, ?_, by have := own_lt2 h8 e; simp [World.setCell]; omega⟩⟩
      rcases hn8 with h5 | h5
      · rw [h5]; exact (hfar ad e).2
      · rw [h5]
        intro e6
        injection e6 with e6
        have := own_lt2 h8 e
        simp at e6
        omega
theorem lst_grownq {w w' : World} {A : Option Addr} {l : List R} {q : Nat} (h : Lst w w.heap.size A l) (hg : w.grownBy w' (some q)) (hne : ∀ ad, A = some ad → q < ad.block) : Lst w' w'.heap.size A l :=
  (lst_grown h (Nat.le_refl _) hg (fun ad e => by have := hne ad e; intro e2; injection e2; omega)).more hg.size
/-- the sets, far from the box q -/
def StsF (w : World) (q : Nat) (A : Option Addr) (ss : List (List R)) : Prop := 0 < ss.length → ∃ b off, A = some ⟨b, off, none⟩ ∧ b < w.heap.size ∧ q < b ∧ ∀ k s, ss[k]? = some s →
  ∃ A' cap, w.cell? ⟨b, off + k, none⟩ = some (.slice A' s.length cap) ∧ Lst w w.heap.size A' s ∧ s.length ≤ cap ∧ s.length ≤ 8796093021952 ∧ ∀ ad, A' = some ad → q < ad.block
theorem StsF.grown {w w' : World} {q : Nat} {A : Option Addr} {ss : List (List R)} (h : StsF w q A ss) (hg : w.grownBy w' (some q)) : StsF w' q A ss := fun hn => by
  obtain ⟨b, off, e, hb, hqb, hc⟩ := h hn
  refine ⟨b, off, e, Nat.lt_of_lt_of_le hb hg.size, hqb, fun k s hs => ?_⟩
  obtain ⟨A', cap, h0, h1, h2, h3, h4⟩ := hc k s hs
  exact ⟨A', cap, (World.cell?_of_block (hg.block b hb (fun e => by injection e; omega))).trans h0, lst_grownq h1 hg h4, h2, h3, h4⟩
theorem StsF.sts {w : World} {q : Nat} {A : Option Addr} {ss : List (List R)} (h : StsF w q A ss) : Sts w w.heap.size A ss := fun hn => by
  obtain ⟨b, off, e, hb, _, hc⟩ := h hn
  exact ⟨b, off, e, hb, fun k s hs => by
    obtain ⟨A', cap, h0, h1, h2, h3, _⟩ := hc k s hs
    exact ⟨A', cap, h0, h1, h2, h3⟩⟩
theorem SO.stsF {w R1 : World} {q : Nat} {ss : List (List R)} {cs : Value → Array Value} {pb : Array Value} {A : Option Addr} {c : Nat} {vals : List Value} {wr : World} (h : SO w R1 q ss ss.length cs pb (.slice A ss.length c) vals wr) (hq : q < R1.heap.size) (hlen : ∀ (k : Nat) (s : List R), ss[k]? = some s → s.length ≤ 8796093021952) : StsF wr q A ss := fun hn => by
  obtain ⟨b, off, rfl, hb, hc⟩ := (Reads.of_own h.row).flat hn
  have hbb : R1.heap.size ≤ b := own_base h.row _ rfl
  refine ⟨b, off, rfl, hb, by omega, fun k s hs => ?_⟩
  obtain ⟨A', c', e1, e2, e3, e4⟩ := h.each k s (List.getElem?_eq_some_iff.1 hs).1 hs
  exact ⟨A', c', hc k _ e1, e2, e3, hlen k s hs, fun ad e => by have := (e4 ad e).1; omega⟩
theorem cns_grown {w w' : World} {B : Nat} {A : Option Addr} {l : List Cn} {q : Nat} (h : Cns w B A l) (hB : B ≤ w.heap.size) (hg : w.grownBy w' (some q)) (hne : ∀ ad, A = some ad → ad.block ≠ q) : Cns w' B A l := fun hn => by
  obtain ⟨b, off, rfl, hb, hc⟩ := h hn
  have hk : ∀ i, w'.cell? ⟨b, i, none⟩ = w.cell? ⟨b, i, none⟩ := fun i => World.cell?_of_block (hg.block b (by omega) (fun e => hne _ rfl (by injection e)))
  exact ⟨b, off, rfl, hb, fun k i hi => by
    obtain ⟨h0, h1, h2⟩ := hc k i hi
    exact ⟨(hk _).trans h0, (hk _).trans h1, (hk _).trans h2⟩⟩
theorem StsF.less {w : World} {q q' : Nat} {A : Option Addr} {ss : List (List R)} (h : StsF w q A ss) (hq : q' ≤ q) : StsF w q' A ss := fun hn => by
  obtain ⟨b, off, e, hb, hqb, hc⟩ := h hn
  refine ⟨b, off, e, hb, by omega, fun k s hs => ?_⟩
  obtain ⟨A', cap, h0, h1, h2, h3, h4⟩ := hc k s hs
  exact ⟨A', cap, h0, h1, h2, h3, fun ad e => by have := h4 ad e; omega⟩
/-- all is copied -/
theorem of_end {w R0 R1 R2 wr W : World} {l : List In} {ss : List (List R)} {kk : List Cn} {Av Avs Ac : Option Addr} {cv cc T1 T3 : Nat} (hz : R0.heap.size = w.heap.size + 3) (h1 : R1.ownsRow R0.heap.size T1 6 (.slice Av l.length cv) l.length (flI l)) (hk1 : R0.grownBy R1 (some (w.heap.size + 2)))
    (hk2 : R1.grownBy R2 (some (w.heap.size + 2))) (hk3 : R2.grownBy wr (some (w.heap.size + 2))) (hs : StsF R2 (w.heap.size + 2) Avs ss) (h3 : wr.ownsRow R2.heap.size T3 3 (.slice Ac kk.length cc) kk.length (flC kk)) (hg : wr.grownBy W (some (w.heap.size + 1))) (hn : ss.length ≤ 1000 ∧ kk.length ≤ 1000) :
    Pv W W.heap.size l ss kk Av Avs Ac := by
  have z1 := hk1.size
  have z2 := hk2.size
  have z3 := hk3.size
  have z4 := hg.size
  have o1 : ∀ ad, Av = some ad → R0.heap.size ≤ ad.block := fun ad e => own_base h1 _ (by rw [e]; rfl)
  have o3 : ∀ ad, Ac = some ad → R2.heap.size ≤ ad.block := fun ad e => own_base h3 _ (by rw [e]; rfl)
  have i1 : Ins R1 R1.heap.size Av l := ins_of_reads (Reads.of_own h1)
  have i2 : Ins R2 R1.heap.size Av l := ins_grown i1 (Nat.le_refl _) hk2 (fun ad e => by have := o1 ad e; omega)
  have i3 : Ins wr R1.heap.size Av l := ins_grown i2 z2 hk3 (fun ad e => by have := o1 ad e; omega)
  have i4 : Ins W R1.heap.size Av l := ins_grown i3 (by omega) hg (fun ad e => by have := o1 ad e; omega)
  have n3 : Cns wr wr.heap.size Ac kk := cns_of_reads (Reads.of_own h3)
  have n4 : Cns W wr.heap.size Ac kk := cns_grown n3 (Nat.le_refl _) hg (fun ad e => by have := o3 ad e; omega)
  have s4 : StsF W (w.heap.size + 1) Avs ss := ((hs.grown hk3).less (by omega)).grown hg
  exact ⟨i4.more (by omega), s4.sts, n4.more z4, by have := hn.1; omega, by have := hn.2; omega⟩
end Go.Proofs.YtiaelaepfhiabaaDoor.Co
