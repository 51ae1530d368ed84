/-
  ordered, walked: do the nodes stand as a tree's, each kid's bytes within its parent's? Conditions: the nodes lie in memory, at most 100,000.
-/
import Derived.Test.YtckgbalmpddblaaDoorAsCov
import Derived.Test.YtckgbalmpddblaaDoorRegTail
import Derived.Test.YtckgbalmpddblaaDoorRegBridge
import Derived.Laws.MakeOwn
set_option linter.unusedVariables false
set_option linter.unusedSimpArgs false
namespace Go.Proofs.YtckgbalmpddblaaDoor.As
open Go.RowKit Go.Shelf Go.Proofs.YtckgbalmpddblaaDoor.Mem Go.Proofs.YtckgbalmpddblaaDoor.Rs

attribute [local go_sem] Oper.semAt_some run_not_true run_not_false
def ints (es : List Int) : Array Value := (es.map Mem.i64).toArray
theorem made_zero (n : Nat) : madeCells #[.int .i64 0] n = ints (List.replicate n 0) := by
  unfold madeCells ints
  apply Array.ext
  · simp
  · intro i h1 h2
    have : i % 1 = 0 := Nat.mod_one i
    simp [Mem.i64, this]
theorem info_int : (Tryd.prog.info? 3).map (fun i => (i.zero, i.size, i.bytes)) = some (some (.int .i64 0), 1, 8) := by kernel_rfl
theorem make_ends (n : Nat) (hn : n ≤ 100000) (W : World) : Sem.run Tryd.prog (Instr.makeSlice 40 (.int .i64 (n : Int)) (.int .i64 (n : Int))) W = .ok (.slice (some ⟨W.heap.size, 0, none⟩) n n) (W.alloc (.cells (ints (List.replicate n 0)) 3)) := by
  obtain ⟨i0, hi, hz0, hz1, hz2⟩ := info_parts info_int
  have := run_makeSlice (P := Tryd.prog) W 40 3 i0 (.int .i64 0) Tryd.underlying40 hi hz0 .i64 .i64 (n : Int) (n : Int) (by omega) (Int.le_refl _) (by rw [hz1]; simp; omega) (by rw [hz2]; omega) (by omega)
  rw [this, hz1, Int.toNat_natCast, Nat.mul_one]
  exact congrArg (fun z => Result.ok _ (W.alloc (.cells z 3))) (made_zero n)
/-- all that lay ahead of the loop but the ends -/
def KO (w w5 : World) (k : Nat) : Prop := k < w5.heap.size ∧ k ≠ w.heap.size + 2
def OIn0 (L : List Nd) (w w5 : World) (pre : List (Fin L.length)) (W : World) : Prop := ∃ es : List Int, (Blk W (w.heap.size + 2) 3 (ints es) ∧ (Stays (KO w w5) w5 W ∧ w5.heap.size ≤ W.heap.size)) ∧ (es.length = L.length ∧ Known L es pre)
def OInv (L : List Nd) (w w5 : World) (pre : List (Fin L.length)) (W : World) : Prop := OIn0 L w w5 pre W ∧ Below w.heap.size w W
def OEx (L : List Nd) (w : World) (c : Code) (pre : List (Fin L.length)) (W : World) : Prop := (Blk W (w.heap.size + 1) 4 #[.bool false] ∧ Below w.heap.size w W) ∧ (c = .ret ∧ (pre <+: items L.length → ordB L = false))
theorem blk_own0 (p : Nat) (t : TypeId) (cs : Array Value) (C : Nat) {β : Type} : OwnFrom C (fun (_ : β) W => Blk W p t cs) := fun _ X Y row hs hg hr =>
  hs.grown hg (fun e => by obtain ⟨-, o, ho, hc⟩ := hr p e.symm; rw [show X.heap[p]? = _ from hs] at ho; cases ho; cases hc)
theorem oin0_own (L : List Nd) (w w5 : World) : OwnFrom w5.heap.size (OIn0 L w w5) := fun pre X Y row hs hg hr => by
  obtain ⟨es, ⟨h1, h2, h3⟩, h4⟩ := hs
  refine ⟨es, ⟨blk_own0 _ _ _ _ () X Y row h1 hg hr, fun k hk => ?_, Nat.le_trans h3 hg.size⟩, h4⟩
  rw [← h2 k hk]
  exact hg.block k (Nat.lt_of_lt_of_le hk.1 h3) (fun e => by have := (hr k e.symm).1; have := hk.1; omega)
theorem oinv_own (L : List Nd) (w w5 : World) (hC : w.heap.size ≤ w5.heap.size) : OwnFrom w5.heap.size (OInv L w w5) := OwnFrom.and (oin0_own L w w5) (ownFrom_below (Nat.le_refl _) hC)
theorem oex_own (L : List Nd) (w : World) (c : Code) (C : Nat) (hC : w.heap.size ≤ C) : OwnFrom C (OEx L w c) :=
  OwnFrom.and (OwnFrom.and (blk_own0 _ _ _ _) (ownFrom_below (Nat.le_refl _) hC)) (ownFrom_pure _ _)
def OrdRel (L : List Nd) (nd : Nd) (e : Nat → Int) (x : Nat) (W : World) (en i : Value) (wr : World) : Prop := ∃ (k : Nat) (z : Int), i = .int .i64 k ∧ en = .int .i64 z ∧ k ≤ nd.kids.length ∧ kidsB L nd e (nd.kids.drop k) z = kidsB L nd e nd.kids ((x : Int) + 1) ∧ kidsZ e (nd.kids.drop k) z = kidsZ e nd.kids ((x : Int) + 1) ∧ Below W.heap.size W wr
def OSlots (b off cap : Nat) (L : List Nd) (g : Int) (c : Value) (sv kv : Nat → Sl) (w : World) (x : Fin L.length) (p : Nat) : Act :=
  { tmps := #[.agg #[.slice (some ⟨b, off, none⟩) L.length cap, .int .i64 g, c], .pointer (some ⟨w.heap.size, 0, none⟩), .pointer (some ⟨w.heap.size + 1, 0, none⟩), .pointer (some ⟨w.heap.size + 1 + 1 + 1, 0, none⟩), .int .i64 (x.val : Int), .pointer (some ⟨p, 0, none⟩), undef, undef, undef, .pointer (some ⟨w.heap.size, 0, none⟩), .slice (some ⟨b, off, none⟩) L.length cap, .int .i64 (L.length : Int), .slice (some ⟨w.heap.size + 1 + 1, 0, none⟩) L.length L.length, .pointer (some ⟨w.heap.size, 0, none⟩), .slice (some ⟨b, off, none⟩) L.length cap, .func (.func 40) #[] #[.pointer (some ⟨w.heap.size + 4, 0, none⟩)], .int .i64 (x.val : Int), .agg #[.int .i64 (L.get x).kind, .int .i64 (L.get x).from_, .int .i64 (L.get x).to_, .int .i64 (L.get x).num, .int .i64 (L.get x).mn, .int .i64 (L.get x).mx, .int .i64 (L.get x).mode, str (L.get x).name, .slice (sv x.val).a (sv x.val).n (sv x.val).c, .slice (kv x.val).a (kv x.val).n (kv x.val).c], undef, undef, undef, undef, undef, undef, undef, undef, undef, undef, undef, undef, undef, undef, undef, undef, undef, undef, undef, undef, undef, undef, undef, undef, undef, undef, undef, undef, undef, undef, undef, undef, undef, undef, undef, undef, undef, undef, undef, undef, undef, undef, undef, undef], defers := [] }
def OAx (b off cap : Nat) (L : List Nd) (g : Int) (c : Value) (sv kv : Nat → Sl) (w : World) (x : Fin L.length) (a : Act) (W : World) : Prop := ∃ p, a = OSlots b off cap L g c sv kv w x p ∧ Blk W p 42 #[.int .i64 (L.get x).kind, .int .i64 (L.get x).from_, .int .i64 (L.get x).to_, .int .i64 (L.get x).num, .int .i64 (L.get x).mn, .int .i64 (L.get x).mx, .int .i64 (L.get x).mode, str (L.get x).name, .slice (sv x.val).a (sv x.val).n (sv x.val).c, .slice (kv x.val).a (kv x.val).n (kv x.val).c]
theorem oax_own (b off cap : Nat) (L : List Nd) (g : Int) (c : Value) (sv kv : Nat → Sl) (w : World) (C : Nat) (x : Fin L.length) (a : Act) : OwnFrom C (fun (_ : Unit) W => OAx b off cap L g c sv kv w x a W) := fun s X Y row hs hg hr => by
  obtain ⟨p, e, hb⟩ := hs
  exact ⟨p, e, blk_own0 p _ _ C s X Y row hb hg hr⟩

set_option maxRecDepth 100000 in
set_option maxHeartbeats 4000000 in
/-- **ordered** -/
theorem ordered_in (L : List Nd) (hpos : 0 < L.length) (hlen : L.length ≤ 100000) (b off cap : Nat) (hcap : L.length ≤ cap) (hc2 : cap ≤ 9223372036854775807) (g : Int) (c : Value) (sv kv : Nat → Sl) (w : World) (hb : b < w.heap.size) (hL : Lies10 w b off L sv kv) (hK : ∀ (k : Nat) nd, L[k]? = some nd → KidsV w w.heap.size nd.kids (.slice (kv k).a (kv k).n (kv k).c)) :
    Calls Tryd.prog 21 #[.agg #[.slice (some ⟨b, off, none⟩) L.length cap, .int .i64 g, c]] w fun e w' => e = .returned (.bool (ordB L)) ∧ Below w.heap.size w w' := by
  refine (callsIn_wide (n := 3)).1 ?_
  have hmk := make_ends L.length hlen
  have HL := hide hL
  have HKV := hide hK
  clear hL hK
  have hz4 : ((((w.alloc (.cells #[.slice (some ⟨b, off, none⟩) L.length cap, .int .i64 g, c] 25)).alloc (.cells #[.bool false] 4)).alloc (.cells (ints (List.replicate L.length 0)) 3)).alloc (.cells #[.slice (some ⟨w.heap.size + 1 + 1, 0, none⟩) L.length L.length] 40)).heap.size = w.heap.size + 4 := by simp
  have hB4 : Below w.heap.size w ((((w.alloc (.cells #[.slice (some ⟨b, off, none⟩) L.length cap, .int .i64 g, c] 25)).alloc (.cells #[.bool false] 4)).alloc (.cells (ints (List.replicate L.length 0)) 3)).alloc (.cells #[.slice (some ⟨w.heap.size + 1 + 1, 0, none⟩) L.length L.length] 40)) := ((((Below.refl w.heap.size w).alloc (Nat.le_refl _) _).alloc (by simp) _).alloc (by simp; omega) _).alloc (by simp; omega) _
  have bT : Blk ((((w.alloc (.cells #[.slice (some ⟨b, off, none⟩) L.length cap, .int .i64 g, c] 25)).alloc (.cells #[.bool false] 4)).alloc (.cells (ints (List.replicate L.length 0)) 3)).alloc (.cells #[.slice (some ⟨w.heap.size + 1 + 1, 0, none⟩) L.length L.length] 40)) w.heap.size 25 #[.slice (some ⟨b, off, none⟩) L.length cap, .int .i64 g, c] := (((Blk.new w 25 #[.slice (some ⟨b, off, none⟩) L.length cap, .int .i64 g, c]).alloc _).alloc _).alloc _
  have bR : Blk ((((w.alloc (.cells #[.slice (some ⟨b, off, none⟩) L.length cap, .int .i64 g, c] 25)).alloc (.cells #[.bool false] 4)).alloc (.cells (ints (List.replicate L.length 0)) 3)).alloc (.cells #[.slice (some ⟨w.heap.size + 1 + 1, 0, none⟩) L.length L.length] 40)) (w.heap.size + 1) 4 #[.bool false] := by
    have := ((Blk.new (w.alloc (.cells #[.slice (some ⟨b, off, none⟩) L.length cap, .int .i64 g, c] 25)) 4 #[.bool false]).alloc (.cells (ints (List.replicate L.length 0)) 3)).alloc (.cells #[.slice (some ⟨w.heap.size + 1 + 1, 0, none⟩) L.length L.length] 40)
    simpa only [World.size_alloc] using this
  have bE : Blk ((((w.alloc (.cells #[.slice (some ⟨b, off, none⟩) L.length cap, .int .i64 g, c] 25)).alloc (.cells #[.bool false] 4)).alloc (.cells (ints (List.replicate L.length 0)) 3)).alloc (.cells #[.slice (some ⟨w.heap.size + 1 + 1, 0, none⟩) L.length L.length] 40)) (w.heap.size + 2) 3 (ints (List.replicate L.length 0)) := by
    have := (Blk.new ((w.alloc (.cells #[.slice (some ⟨b, off, none⟩) L.length cap, .int .i64 g, c] 25)).alloc (.cells #[.bool false] 4)) 3 (ints (List.replicate L.length 0))).alloc (.cells #[.slice (some ⟨w.heap.size + 1 + 1, 0, none⟩) L.length L.length] 40)
    simpa only [World.size_alloc] using this
  have bB : Blk ((((w.alloc (.cells #[.slice (some ⟨b, off, none⟩) L.length cap, .int .i64 g, c] 25)).alloc (.cells #[.bool false] 4)).alloc (.cells (ints (List.replicate L.length 0)) 3)).alloc (.cells #[.slice (some ⟨w.heap.size + 1 + 1, 0, none⟩) L.length L.length] 40)) (w.heap.size + 3) 40 #[.slice (some ⟨w.heap.size + 1 + 1, 0, none⟩) L.length L.length] := by
    have := Blk.new (((w.alloc (.cells #[.slice (some ⟨b, off, none⟩) L.length cap, .int .i64 g, c] 25)).alloc (.cells #[.bool false] 4)).alloc (.cells (ints (List.replicate L.length 0)) 3)) 40 #[.slice (some ⟨w.heap.size + 1 + 1, 0, none⟩) L.length L.length]
    simpa only [World.size_alloc] using this
  have c0 := bT.cell 0
  have HB4 := hide hB4
  have HBT := hide bT
  have HBR := hide bR
  have HBE := hide bE
  have HBB := hide bB
  clear hB4 bT bR bE bB
  refine callsIn_of_wp_marks Tryd.func21 rfl trivial ?_ rfl
  simp only [Tryd.ntmps21, List.size_toArray, List.length_cons, List.length_nil, Nat.reduceAdd, Nat.reduceSub, Array.replicate_succ, Array.replicate_zero, List.push_toArray, List.append_toArray, List.nil_append, List.cons_append]
  gi_wp2_with fail
  refine ⟨trivial, ?_⟩
  refine (callsIn_wide.2 (backward_any (some ⟨b, off, none⟩) L.length cap _)).mono ?_
  rintro e w5 ⟨rfl, hw5⟩
  rw [hz4]
  have bp : Blk w5 (w.heap.size + 4) 22 #[.slice (some ⟨b, off, none⟩) L.length cap] := by
    have := Blk.new ((((w.alloc (.cells #[.slice (some ⟨b, off, none⟩) L.length cap, .int .i64 g, c] 25)).alloc (.cells #[.bool false] 4)).alloc (.cells (ints (List.replicate L.length 0)) 3)).alloc (.cells #[.slice (some ⟨w.heap.size + 1 + 1, 0, none⟩) L.length L.length] 40)) 22 #[.slice (some ⟨b, off, none⟩) L.length cap]
    rw [hw5, ← hz4]; exact this
  have hz5 : w5.heap.size = w.heap.size + 5 := by rw [hw5, World.size_alloc, hz4]
  have hB5 : Below w.heap.size w w5 := by rw [hw5]; exact (unhide HB4).alloc (unhide HB4).size _
  have bT : Blk w5 w.heap.size 25 #[.slice (some ⟨b, off, none⟩) L.length cap, .int .i64 g, c] := by rw [hw5]; exact (unhide HBT).alloc _
  have bR : Blk w5 (w.heap.size + 1) 4 #[.bool false] := by rw [hw5]; exact (unhide HBR).alloc _
  have bE : Blk w5 (w.heap.size + 2) 3 (ints (List.replicate L.length 0)) := by rw [hw5]; exact (unhide HBE).alloc _
  have bB : Blk w5 (w.heap.size + 3) 40 #[.slice (some ⟨w.heap.size + 1 + 1, 0, none⟩) L.length L.length] := by rw [hw5]; exact (unhide HBB).alloc _
  clear hw5 HB4 HBT HBR HBE HBB c0 hz4 hmk
  have hKlt := kb_lt (B := w.heap.size) (p := w.heap.size + 4) (w := w5) (by omega) (by omega)
  gi_wp2_with fail
  refine wpIn_rangeFunc_ownH rfl (by omega) (gf := 40) (lb := #[.pointer (some ⟨w.heap.size + 4, 0, none⟩)]) rfl trivial (enters_of Tryd.func40 (by kernel_rfl) rfl)
    (back_stops (3 - 1) (by omega) w.heap.size (w.heap.size + 4) b off cap L sv kv hlen hcap w5 hb (by omega) ((unhide HL).keep (hB5.block b hb)) bp) keeps_t (keeps_b hKlt) (Below.refl _ _) (fun _ => rfl)
    (OInv L w w5)
    (OEx L w)
    (oinv_own L w w5 (by omega))
    (fun c => oex_own L w c _ (by omega))
    ⟨⟨List.replicate L.length 0, ⟨bE, Stays.refl _ _, Nat.le_refl _⟩, by simp, known_nil _ _⟩, hB5⟩
    (OAx b off cap L g c sv kv w) (fun x a' => oax_own b off cap L g c sv kv w _ x a') ?assign ?body ?done ?stop
  case assign =>
    intro lp pre x W Kc hI hK
    have hz2 : w5.heap.size ≤ W.heap.size := by obtain ⟨⟨es, ⟨_, _, h⟩, _⟩, _⟩ := hI; exact h
    have hk := hide (hK (OSlots b off cap L g c sv kv w x W.heap.size) (W.alloc (.cells #[.int .i64 (L.get x).kind, .int .i64 (L.get x).from_, .int .i64 (L.get x).to_, .int .i64 (L.get x).num, .int .i64 (L.get x).mn, .int .i64 (L.get x).mx, .int .i64 (L.get x).mode, str (L.get x).name, .slice (sv x.val).a (sv x.val).n (sv x.val).c, .slice (kv x.val).a (kv x.val).n (kv x.val).c] 42)) ((KeepsOthers.alloc _ _).from _) ⟨fun k hk => Below.heap_alloc _ _ k (by rcases hk with h | h <;> omega), by simp⟩
      ((oinv_own L w w5 (by omega)).alloc _ hI) ⟨_, rfl, Blk.new _ _ _⟩)
    clear hK hI
    gi_wp2
    exact unhide hk
  case body =>
    rintro lp pre x a' W hlp hlpr ⟨⟨es, ⟨hE, hS, hsz⟩, hl, hkn⟩, hBw⟩ ⟨p, rfl, hblk⟩ hltp
    have bT2 : Blk W w.heap.size 25 #[.slice (some ⟨b, off, none⟩) L.length cap, .int .i64 g, c] := (hS _ ⟨by omega, by omega⟩).trans bT
    have bR2 : Blk W (w.heap.size + 1) 4 #[.bool false] := (hS _ ⟨by omega, by omega⟩).trans bR
    have bB2 : Blk W (w.heap.size + 3) 40 #[.slice (some ⟨w.heap.size + 1 + 1, 0, none⟩) L.length L.length] := (hS _ ⟨by omega, by omega⟩).trans bB
    have hget : L[x.val]? = some (L.get x) := List.getElem?_eq_getElem x.isLt
    have hkv := (unhide HKV) x.val (L.get x) hget
    have hxl := x.isLt
    unfold OSlots
    generalize L.get x = nd at *
    generalize kv x.val = kx at *
    generalize sv x.val = sx at *
    obtain ⟨ka, kn, kc⟩ := kx
    obtain ⟨A9, cap9, e9, k1, k2, k3⟩ := hkv
    simp only [Value.slice.injEq] at e9
    obtain ⟨rfl, rfl, rfl⟩ := e9
    have n9 := hblk.cell 9
    have HE2 := hide hE
    have HS2 := hide hS
    have HBW := hide hBw
    have HTB := hide bT2
    have HRB := hide bR2
    have HBB := hide bB2
    have HNB := hide hblk
    have HKN := hide hkn
    have HK3 := hide k3
    have HGET := hide hget
    have hpl := hblk.lt
    have hxi : (x.val : Int) < (L.length : Int) := by omega
    clear hE hS hBw bT2 bR2 bB2 hblk hkn k3 bT bR bE bB bp hget hlpr
    gi_wp2_with fail
    gi_loopw [6, 23] (fun en i wr => OrdRel L nd (fun j => es.getD j 0) x.val W en i wr) (fun _ i _ => nd.kids.length - (intOf i).toNat)
    case atStart => exact ⟨0, (x.val : Int) + 1, rfl, by go_num, by omega, by rw [List.drop_zero], by rw [List.drop_zero], Below.refl _ _⟩
    case round =>
      obtain ⟨k, z, rfl, rfl, hk, hkb, hkz, hbr⟩ := hrel
      gi_hideQ
      have hget := unhide HGET
      have HBR := hide hbr
      have HTW := hide ((unhide HTB).below hbr (unhide HTB).lt)
      have HNW := hide ((unhide HNB).below hbr hpl)
      have HRW := hide ((unhide HRB).below hbr (unhide HRB).lt)
      have HBBW := hide ((unhide HBB).below hbr (unhide HBB).lt)
      have HEW := hide ((unhide HE2).below hbr (unhide HE2).lt)
      have hbW0 : w.heap.size ≤ W.heap.size := (unhide HBW).size
      have hbW : b < wr.heap.size := by have := hbr.size; omega
      have HLW := hide ((unhide HL).keep (((unhide HBW).trans (hbr.mono hbW0)).block b hb))
      have HKB := hide hkb
      have HKZ := hide hkz
      clear hkb hkz hbr
      by_cases hlt : k < nd.kids.length
      · have hki : (k : Int) < (nd.kids.length : Int) := by omega
        obtain ⟨y, hy⟩ : ∃ y, nd.kids[k]? = some y := ⟨_, List.getElem?_eq_getElem hlt⟩
        obtain ⟨qb, qo, rfl, hqb, hqc⟩ := kids_at (unhide HK3) (by omega)
        have d0 : wr.cell? ⟨qb, qo + k, none⟩ = some (.int .i64 y) := ((((unhide HBW).trans ((unhide HBR).mono hbW0))).cell (p := ⟨qb, qo + k, none⟩) hqb).trans (hqc k y hy)
        obtain ⟨hd1, hd2⟩ := kidsB_drop (L := L) (nd := nd) (e := fun j => es.getD j 0) hy z
        have HD1 := hide (hd1.symm.trans (unhide HKB))
        have HD2 := hide (hd2.symm.trans (unhide HKZ))
        clear hqc hy hd1 hd2 hqb
        by_cases hyz : y = z
        · have e0 : (y != z) = false := by simp [hyz]
          have HYZ := hide hyz
          clear hyz
          by_cases hhas : hasI L.length y = true
          · obtain ⟨y2, hy2⟩ : ∃ y2 : Nat, y = y2 := ⟨y.toNat, by have := (hasI_iff _ _).1 hhas; omega⟩
            have hyl : y2 < L.length := by have := (hasI_iff _ _).1 hhas; omega
            have hyli : (y2 : Int) < (L.length : Int) := by omega
            obtain ⟨nk, hnk⟩ : ∃ nk, L[y2]? = some nk := ⟨_, List.getElem?_eq_getElem hyl⟩
            have HNK := hide hnk
            have HHAS := hide hhas
            obtain ⟨qc, hqc⟩ : ∃ q, covB nd nk = q := ⟨_, rfl⟩
            have HCOV := hide hqc
            have hce := hide (show covAt L nd y.toNat = qc from by unfold covAt; rw [hy2, Int.toNat_natCast, hnk]; exact hqc)
            clear hhas hnk hqc
            subst hy2
            cases qc with
            | true =>
              gi_wp2_with fail
              refine RegTail.wpIn_region_held (S := fun wx => Hid (Below wr.heap.size wr wx)) (by kernel_rfl) (by kernel_rfl) (show Hid (Below wr.heap.size wr _) from hide (Below.refl _ _).drew) (fun hS => ?_)
              refine wpAnyH_take (i := 0) (oi := { dst := some 27, op := _, type := _, pos := _, after := _, guard := _ }) (v := ?v0z1) rfl (by kernel_rfl) (by kernel_rfl) (by kernel_rfl) (fun _ _ _ h => h) (Or.inl ⟨by rfl, ?y0z1⟩) hS ?r0z1
              case y0z1 => (intro w hSw; (try dsimp only at hSw); go_simp; try with_reducible rfl)
              try simp only [Act.put, List.setIfInBounds_toArray, List.set_cons_zero, List.set_cons_succ]
              refine wpAnyH_take (i := 1) (oi := { dst := some 28, op := _, type := _, pos := _, after := _, guard := _ }) (v := ?v1z2) rfl (by kernel_rfl) (by kernel_rfl) (by kernel_rfl) (fun _ _ _ h => h) (Or.inl ⟨by rfl, ?y1z2⟩) hS ?r1z2
              case y1z2 => (intro w hSw; (try dsimp only at hSw); go_simp; try with_reducible rfl)
              try simp only [Act.put, List.setIfInBounds_toArray, List.set_cons_zero, List.set_cons_succ]
              refine wpAnyH_take (i := 2) (oi := { dst := some 29, op := _, type := _, pos := _, after := _, guard := _ }) (v := ?v2z3) rfl (by kernel_rfl) (by kernel_rfl) (by kernel_rfl) (fun _ _ _ h => h) (Or.inl ⟨by rfl, ?y2z3⟩) hS ?r2z3
              case y2z3 => (intro w hSw; (try dsimp only at hSw); go_simp; try with_reducible rfl)
              try simp only [Act.put, List.setIfInBounds_toArray, List.set_cons_zero, List.set_cons_succ]
              refine wpAnyH_take (i := 3) (oi := { dst := some 30, op := _, type := _, pos := _, after := _, guard := _ }) (v := ?v3z4) rfl (by kernel_rfl) (by kernel_rfl) (by kernel_rfl) (fun _ _ _ h => h) (Or.inl ⟨by rfl, ?y3z4⟩) hS ?r3z4
              case y3z4 => (intro w hSw; (try dsimp only at hSw); go_simp; try with_reducible rfl)
              try simp only [Act.put, List.setIfInBounds_toArray, List.set_cons_zero, List.set_cons_succ]
              refine wpAnyH_take (i := 4) (oi := { dst := some 31, op := _, type := _, pos := _, after := _, guard := _ }) (v := ?v4z5) rfl (by kernel_rfl) (by kernel_rfl) (by kernel_rfl) (fun _ _ _ h => h) (Or.inl ⟨by rfl, ?y4z5⟩) hS ?r4z5
              case y4z5 => (intro w hSw; (try dsimp only at hSw); have h0 := ((unhide HTW).below (unhide hSw) (unhide HTW).lt).cell 0; have h1 := ((unhide HTW).below (unhide hSw) (unhide HTW).lt).cell 1; have h2 := ((unhide HTW).below (unhide hSw) (unhide HTW).lt).cell 2; go_simp; try with_reducible rfl)
              try simp only [Act.put, List.setIfInBounds_toArray, List.set_cons_zero, List.set_cons_succ]
              refine wpAnyH_take (i := 5) (oi := { dst := some 32, op := _, type := _, pos := _, after := _, guard := _ }) (v := ?v5z6) rfl (by kernel_rfl) (by kernel_rfl) (by kernel_rfl) (fun _ _ _ h => h) (Or.inl ⟨by rfl, ?y5z6⟩) hS ?r5z6
              case y5z6 => (intro w hSw; (try dsimp only at hSw); go_simp; try with_reducible rfl)
              try simp only [Act.put, List.setIfInBounds_toArray, List.set_cons_zero, List.set_cons_succ]
              refine wpAnyH_ready (rs := [6]) (by kernel_rfl) (by simp) ?_
              refine AllReadyH.cons (o := { dst := some 33, op := _, type := _, pos := _, after := _, guard := _ }) rfl (fun K hK => ?_) AllReadyH.nil
              go_simp
              refine (has_any _ L.length cap g c _ _).mono ?_
              rintro e wqhA ⟨rfl, hb⟩
              rw [unhide HHAS]
              have HhA := hide ((unhide hS).trans (hb.mono (unhide hS).size))
              clear hb
              go_wp2_with fail
              refine hK.out _ _ HhA (fun hA => ?_)
              clear hK K
              try simp only [Act.put, List.setIfInBounds_toArray, List.set_cons_zero, List.set_cons_succ]
              refine wpAnyH_take (i := 7) (oi := { dst := some 34, op := _, type := _, pos := _, after := _, guard := _ }) (v := ?v7z7) rfl (by kernel_rfl) (by kernel_rfl) (by kernel_rfl) (fun _ _ _ h => h) (Or.inl ⟨by rfl, ?y7z7⟩) hA ?r7z7
              case y7z7 => (intro w hSw; (try dsimp only at hSw); go_simp; try with_reducible rfl)
              try simp only [Act.put, List.setIfInBounds_toArray, List.set_cons_zero, List.set_cons_succ]
              refine wpAnyH_take (i := 8) (oi := { dst := some 35, op := _, type := _, pos := _, after := _, guard := _ }) (v := ?v8z8) rfl (by kernel_rfl) (by kernel_rfl) (by kernel_rfl) (fun _ _ _ h => h) (Or.inl ⟨by rfl, ?y8z8⟩) hA ?r8z8
              case y8z8 => (intro w hSw; (try dsimp only at hSw); go_simp; try with_reducible rfl)
              try simp only [Act.put, List.setIfInBounds_toArray, List.set_cons_zero, List.set_cons_succ]
              refine wpAnyH_take (i := 9) (oi := { dst := some 36, op := _, type := _, pos := _, after := _, guard := _ }) (v := ?v9z9) rfl (by kernel_rfl) (by kernel_rfl) (by kernel_rfl) (fun _ _ _ h => h) (Or.inl ⟨by rfl, ?y9z9⟩) hA ?r9z9
              case y9z9 => (intro w hSw; (try dsimp only at hSw); go_simp; try with_reducible rfl)
              try simp only [Act.put, List.setIfInBounds_toArray, List.set_cons_zero, List.set_cons_succ]
              refine wpAnyH_take (i := 10) (oi := { dst := some 37, op := _, type := _, pos := _, after := _, guard := _ }) (v := ?v10z10) rfl (by kernel_rfl) (by kernel_rfl) (by kernel_rfl) (fun _ _ _ h => h) (Or.inl ⟨by rfl, ?y10z10⟩) hA ?r10z10
              case y10z10 => (intro w hSw; (try dsimp only at hSw); have h0 := ((unhide HNW).below (unhide hSw) (unhide HNW).lt).cell 0; have h1 := ((unhide HNW).below (unhide hSw) (unhide HNW).lt).cell 1; have h2 := ((unhide HNW).below (unhide hSw) (unhide HNW).lt).cell 2; have h3 := ((unhide HNW).below (unhide hSw) (unhide HNW).lt).cell 3; have h4 := ((unhide HNW).below (unhide hSw) (unhide HNW).lt).cell 4; have h5 := ((unhide HNW).below (unhide hSw) (unhide HNW).lt).cell 5; have h6 := ((unhide HNW).below (unhide hSw) (unhide HNW).lt).cell 6; have h7 := ((unhide HNW).below (unhide hSw) (unhide HNW).lt).cell 7; have h8 := ((unhide HNW).below (unhide hSw) (unhide HNW).lt).cell 8; have h9 := ((unhide HNW).below (unhide hSw) (unhide HNW).lt).cell 9; go_simp; try with_reducible rfl)
              try simp only [Act.put, List.setIfInBounds_toArray, List.set_cons_zero, List.set_cons_succ]
              refine wpAnyH_take (i := 11) (oi := { dst := some 38, op := _, type := _, pos := _, after := _, guard := _ }) (v := ?v11z11) rfl (by kernel_rfl) (by kernel_rfl) (by kernel_rfl) (fun _ _ _ h => h) (Or.inl ⟨by rfl, ?y11z11⟩) hA ?r11z11
              case y11z11 => (intro w hSw; (try dsimp only at hSw); go_simp; try with_reducible rfl)
              try simp only [Act.put, List.setIfInBounds_toArray, List.set_cons_zero, List.set_cons_succ]
              refine wpAnyH_take (i := 12) (oi := { dst := some 39, op := _, type := _, pos := _, after := _, guard := _ }) (v := ?v12z12) rfl (by kernel_rfl) (by kernel_rfl) (by kernel_rfl) (fun _ _ _ h => h) (Or.inl ⟨by rfl, ?y12z12⟩) hA ?r12z12
              case y12z12 => (intro w hSw; (try dsimp only at hSw); have h0 := ((unhide HTW).below (unhide hSw) (unhide HTW).lt).cell 0; go_simp; try with_reducible rfl)
              try simp only [Act.put, List.setIfInBounds_toArray, List.set_cons_zero, List.set_cons_succ]
              refine wpAnyH_take (i := 13) (oi := { dst := some 40, op := _, type := _, pos := _, after := _, guard := _ }) (v := ?v13z13) rfl (by kernel_rfl) (by kernel_rfl) (by kernel_rfl) (fun _ _ _ h => h) (Or.inl ⟨by rfl, ?y13z13⟩) hA ?r13z13
              case y13z13 => (intro w hSw; (try dsimp only at hSw); go_simp; try with_reducible rfl)
              try simp only [Act.put, List.setIfInBounds_toArray, List.set_cons_zero, List.set_cons_succ]
              refine wpAnyH_take (i := 14) (oi := { dst := some 41, op := _, type := _, pos := _, after := _, guard := _ }) (v := ?v14z14) rfl (by kernel_rfl) (by kernel_rfl) (by kernel_rfl) (fun _ _ _ h => h) (Or.inl ⟨by rfl, ?y14z14⟩) hA ?r14z14
              case y14z14 => (intro w hSw; (try dsimp only at hSw); go_simp; try with_reducible rfl)
              try simp only [Act.put, List.setIfInBounds_toArray, List.set_cons_zero, List.set_cons_succ]
              refine wpAnyH_take (i := 15) (oi := { dst := some 42, op := _, type := _, pos := _, after := _, guard := _ }) (v := ?v15z15) rfl (by kernel_rfl) (by kernel_rfl) (by kernel_rfl) (fun _ _ _ h => h) (Or.inl ⟨by rfl, ?y15z15⟩) hA ?r15z15
              case y15z15 => (intro w hSw; (try dsimp only at hSw); obtain ⟨h0, h1, h2, h3, h4, h5, h6, h7, h8, h9⟩ := ((unhide HLW).keep ((unhide hSw).block b hbW)) y2 nk (unhide HNK); go_simp; try with_reducible rfl)
              try simp only [Act.put, List.setIfInBounds_toArray, List.set_cons_zero, List.set_cons_succ]
              refine wpAnyH_ready (rs := [16]) (by kernel_rfl) (by simp) ?_
              refine AllReadyH.cons (o := { dst := some 43, op := _, type := _, pos := _, after := _, guard := _ }) rfl (fun K hK => ?_) AllReadyH.nil
              go_simp
              refine (covers_any nd nk _ _ _ _ _).mono ?_
              rintro e wqhC ⟨rfl, hb⟩
              rw [unhide HCOV]
              have HhC := hide ((unhide hA).trans (hb.mono (unhide hA).size))
              clear hb
              go_wp2_with fail
              refine hK.out _ _ HhC (fun hC => ?_)
              clear hK K
              try simp only [Act.put, List.setIfInBounds_toArray, List.set_cons_zero, List.set_cons_succ]
              refine wpAnyH_take (i := 17) (oi := { dst := some 44, op := _, type := _, pos := _, after := _, guard := _ }) (v := ?v17z16) rfl (by kernel_rfl) (by kernel_rfl) (by kernel_rfl) (fun _ _ _ h => h) (Or.inl ⟨by rfl, ?y17z16⟩) hC ?r17z16
              case y17z16 => (intro w hSw; (try dsimp only at hSw); go_simp; try with_reducible rfl)
              try simp only [Act.put, List.setIfInBounds_toArray, List.set_cons_zero, List.set_cons_succ]
              refine wpAnyH_take (i := 18) (oi := { dst := some 45, op := _, type := _, pos := _, after := _, guard := _ }) (v := ?v18z17) rfl (by kernel_rfl) (by kernel_rfl) (by kernel_rfl) (fun _ _ _ h => h) (Or.inl ⟨by rfl, ?y18z17⟩) hC ?r18z17
              case y18z17 => (intro w hSw; (try dsimp only at hSw); go_simp; try with_reducible rfl)
              try simp only [Act.put, List.setIfInBounds_toArray, List.set_cons_zero, List.set_cons_succ]
              refine wpAnyH_done (by kernel_rfl) ?_ _
              refine RegTail.only_norm ?_
              have hcB := ((unhide HBBW).below (unhide hC) (unhide HBBW).lt).cell 0
              have hcE := ((unhide HEW).below (unhide hC) (unhide HEW).lt).cell y2
              have hev : (ints es)[y2]? = some (.int .i64 (es.getD y2 0)) := by
                unfold ints
                rw [List.getElem?_toArray, List.getElem?_map, List.getElem?_eq_getElem (by omega)]
                simp [List.getD, List.getElem?_eq_getElem (show y2 < es.length by omega)]
              rw [hev] at hcE
              have hR : OrdRel L nd (fun j => es.getD j 0) x.val W (.int .i64 (es.getD y2 0)) (.int .i64 ((k : Int) + 1)) wqhC := by
                refine ⟨k + 1, es.getD y2 0, by go_num, rfl, by omega, ?_, ?_, (unhide HBR).trans ((unhide hC).mono (unhide HBR).size)⟩
                · have h1 := unhide HD1
                  rw [unhide hce, unhide HHAS, decide_eq_true (unhide HYZ), Bool.true_and, Bool.true_and, Bool.true_and, Int.toNat_natCast] at h1
                  exact h1
                · have h2 := unhide HD2
                  rw [Int.toNat_natCast] at h2
                  exact h2
              have HRR := hide hR
              clear hev hR
              generalize es.getD y2 0 = ez at *
              gi_wp2_with fail
              have hR := unhide HRR
              first | go_roundw | refine ⟨?rel, ?measure⟩
              case rel => exact hR
              case measure => simp [intOf]; omega
            | false =>
              have HBAD := hide (show kidsB L nd (fun j => es.getD j 0) nd.kids ((x.val : Int) + 1) = false from by
                rw [← unhide HD1, unhide hce]; simp)
              gi_wp2_with fail
              refine RegTail.wpIn_region_held (S := fun wx => Hid (Below wr.heap.size wr wx)) (by kernel_rfl) (by kernel_rfl) (show Hid (Below wr.heap.size wr _) from hide (Below.refl _ _).drew) (fun hS => ?_)
              refine wpAnyH_take (i := 0) (oi := { dst := some 27, op := _, type := _, pos := _, after := _, guard := _ }) (v := ?v0z18) rfl (by kernel_rfl) (by kernel_rfl) (by kernel_rfl) (fun _ _ _ h => h) (Or.inl ⟨by rfl, ?y0z18⟩) hS ?r0z18
              case y0z18 => (intro w hSw; (try dsimp only at hSw); go_simp; try with_reducible rfl)
              try simp only [Act.put, List.setIfInBounds_toArray, List.set_cons_zero, List.set_cons_succ]
              refine wpAnyH_take (i := 1) (oi := { dst := some 28, op := _, type := _, pos := _, after := _, guard := _ }) (v := ?v1z19) rfl (by kernel_rfl) (by kernel_rfl) (by kernel_rfl) (fun _ _ _ h => h) (Or.inl ⟨by rfl, ?y1z19⟩) hS ?r1z19
              case y1z19 => (intro w hSw; (try dsimp only at hSw); go_simp; try with_reducible rfl)
              try simp only [Act.put, List.setIfInBounds_toArray, List.set_cons_zero, List.set_cons_succ]
              refine wpAnyH_take (i := 2) (oi := { dst := some 29, op := _, type := _, pos := _, after := _, guard := _ }) (v := ?v2z20) rfl (by kernel_rfl) (by kernel_rfl) (by kernel_rfl) (fun _ _ _ h => h) (Or.inl ⟨by rfl, ?y2z20⟩) hS ?r2z20
              case y2z20 => (intro w hSw; (try dsimp only at hSw); go_simp; try with_reducible rfl)
              try simp only [Act.put, List.setIfInBounds_toArray, List.set_cons_zero, List.set_cons_succ]
              refine wpAnyH_take (i := 3) (oi := { dst := some 30, op := _, type := _, pos := _, after := _, guard := _ }) (v := ?v3z21) rfl (by kernel_rfl) (by kernel_rfl) (by kernel_rfl) (fun _ _ _ h => h) (Or.inl ⟨by rfl, ?y3z21⟩) hS ?r3z21
              case y3z21 => (intro w hSw; (try dsimp only at hSw); go_simp; try with_reducible rfl)
              try simp only [Act.put, List.setIfInBounds_toArray, List.set_cons_zero, List.set_cons_succ]
              refine wpAnyH_take (i := 4) (oi := { dst := some 31, op := _, type := _, pos := _, after := _, guard := _ }) (v := ?v4z22) rfl (by kernel_rfl) (by kernel_rfl) (by kernel_rfl) (fun _ _ _ h => h) (Or.inl ⟨by rfl, ?y4z22⟩) hS ?r4z22
              case y4z22 => (intro w hSw; (try dsimp only at hSw); have h0 := ((unhide HTW).below (unhide hSw) (unhide HTW).lt).cell 0; have h1 := ((unhide HTW).below (unhide hSw) (unhide HTW).lt).cell 1; have h2 := ((unhide HTW).below (unhide hSw) (unhide HTW).lt).cell 2; go_simp; try with_reducible rfl)
              try simp only [Act.put, List.setIfInBounds_toArray, List.set_cons_zero, List.set_cons_succ]
              refine wpAnyH_take (i := 5) (oi := { dst := some 32, op := _, type := _, pos := _, after := _, guard := _ }) (v := ?v5z23) rfl (by kernel_rfl) (by kernel_rfl) (by kernel_rfl) (fun _ _ _ h => h) (Or.inl ⟨by rfl, ?y5z23⟩) hS ?r5z23
              case y5z23 => (intro w hSw; (try dsimp only at hSw); go_simp; try with_reducible rfl)
              try simp only [Act.put, List.setIfInBounds_toArray, List.set_cons_zero, List.set_cons_succ]
              refine wpAnyH_ready (rs := [6]) (by kernel_rfl) (by simp) ?_
              refine AllReadyH.cons (o := { dst := some 33, op := _, type := _, pos := _, after := _, guard := _ }) rfl (fun K hK => ?_) AllReadyH.nil
              go_simp
              refine (has_any _ L.length cap g c _ _).mono ?_
              rintro e wqhA ⟨rfl, hb⟩
              rw [unhide HHAS]
              have HhA := hide ((unhide hS).trans (hb.mono (unhide hS).size))
              clear hb
              go_wp2_with fail
              refine hK.out _ _ HhA (fun hA => ?_)
              clear hK K
              try simp only [Act.put, List.setIfInBounds_toArray, List.set_cons_zero, List.set_cons_succ]
              refine wpAnyH_take (i := 7) (oi := { dst := some 34, op := _, type := _, pos := _, after := _, guard := _ }) (v := ?v7z24) rfl (by kernel_rfl) (by kernel_rfl) (by kernel_rfl) (fun _ _ _ h => h) (Or.inl ⟨by rfl, ?y7z24⟩) hA ?r7z24
              case y7z24 => (intro w hSw; (try dsimp only at hSw); go_simp; try with_reducible rfl)
              try simp only [Act.put, List.setIfInBounds_toArray, List.set_cons_zero, List.set_cons_succ]
              refine wpAnyH_take (i := 8) (oi := { dst := some 35, op := _, type := _, pos := _, after := _, guard := _ }) (v := ?v8z25) rfl (by kernel_rfl) (by kernel_rfl) (by kernel_rfl) (fun _ _ _ h => h) (Or.inl ⟨by rfl, ?y8z25⟩) hA ?r8z25
              case y8z25 => (intro w hSw; (try dsimp only at hSw); go_simp; try with_reducible rfl)
              try simp only [Act.put, List.setIfInBounds_toArray, List.set_cons_zero, List.set_cons_succ]
              refine wpAnyH_take (i := 9) (oi := { dst := some 36, op := _, type := _, pos := _, after := _, guard := _ }) (v := ?v9z26) rfl (by kernel_rfl) (by kernel_rfl) (by kernel_rfl) (fun _ _ _ h => h) (Or.inl ⟨by rfl, ?y9z26⟩) hA ?r9z26
              case y9z26 => (intro w hSw; (try dsimp only at hSw); go_simp; try with_reducible rfl)
              try simp only [Act.put, List.setIfInBounds_toArray, List.set_cons_zero, List.set_cons_succ]
              refine wpAnyH_take (i := 10) (oi := { dst := some 37, op := _, type := _, pos := _, after := _, guard := _ }) (v := ?v10z27) rfl (by kernel_rfl) (by kernel_rfl) (by kernel_rfl) (fun _ _ _ h => h) (Or.inl ⟨by rfl, ?y10z27⟩) hA ?r10z27
              case y10z27 => (intro w hSw; (try dsimp only at hSw); have h0 := ((unhide HNW).below (unhide hSw) (unhide HNW).lt).cell 0; have h1 := ((unhide HNW).below (unhide hSw) (unhide HNW).lt).cell 1; have h2 := ((unhide HNW).below (unhide hSw) (unhide HNW).lt).cell 2; have h3 := ((unhide HNW).below (unhide hSw) (unhide HNW).lt).cell 3; have h4 := ((unhide HNW).below (unhide hSw) (unhide HNW).lt).cell 4; have h5 := ((unhide HNW).below (unhide hSw) (unhide HNW).lt).cell 5; have h6 := ((unhide HNW).below (unhide hSw) (unhide HNW).lt).cell 6; have h7 := ((unhide HNW).below (unhide hSw) (unhide HNW).lt).cell 7; have h8 := ((unhide HNW).below (unhide hSw) (unhide HNW).lt).cell 8; have h9 := ((unhide HNW).below (unhide hSw) (unhide HNW).lt).cell 9; go_simp; try with_reducible rfl)
              try simp only [Act.put, List.setIfInBounds_toArray, List.set_cons_zero, List.set_cons_succ]
              refine wpAnyH_take (i := 11) (oi := { dst := some 38, op := _, type := _, pos := _, after := _, guard := _ }) (v := ?v11z28) rfl (by kernel_rfl) (by kernel_rfl) (by kernel_rfl) (fun _ _ _ h => h) (Or.inl ⟨by rfl, ?y11z28⟩) hA ?r11z28
              case y11z28 => (intro w hSw; (try dsimp only at hSw); go_simp; try with_reducible rfl)
              try simp only [Act.put, List.setIfInBounds_toArray, List.set_cons_zero, List.set_cons_succ]
              refine wpAnyH_take (i := 12) (oi := { dst := some 39, op := _, type := _, pos := _, after := _, guard := _ }) (v := ?v12z29) rfl (by kernel_rfl) (by kernel_rfl) (by kernel_rfl) (fun _ _ _ h => h) (Or.inl ⟨by rfl, ?y12z29⟩) hA ?r12z29
              case y12z29 => (intro w hSw; (try dsimp only at hSw); have h0 := ((unhide HTW).below (unhide hSw) (unhide HTW).lt).cell 0; go_simp; try with_reducible rfl)
              try simp only [Act.put, List.setIfInBounds_toArray, List.set_cons_zero, List.set_cons_succ]
              refine wpAnyH_take (i := 13) (oi := { dst := some 40, op := _, type := _, pos := _, after := _, guard := _ }) (v := ?v13z30) rfl (by kernel_rfl) (by kernel_rfl) (by kernel_rfl) (fun _ _ _ h => h) (Or.inl ⟨by rfl, ?y13z30⟩) hA ?r13z30
              case y13z30 => (intro w hSw; (try dsimp only at hSw); go_simp; try with_reducible rfl)
              try simp only [Act.put, List.setIfInBounds_toArray, List.set_cons_zero, List.set_cons_succ]
              refine wpAnyH_take (i := 14) (oi := { dst := some 41, op := _, type := _, pos := _, after := _, guard := _ }) (v := ?v14z31) rfl (by kernel_rfl) (by kernel_rfl) (by kernel_rfl) (fun _ _ _ h => h) (Or.inl ⟨by rfl, ?y14z31⟩) hA ?r14z31
              case y14z31 => (intro w hSw; (try dsimp only at hSw); go_simp; try with_reducible rfl)
              try simp only [Act.put, List.setIfInBounds_toArray, List.set_cons_zero, List.set_cons_succ]
              refine wpAnyH_take (i := 15) (oi := { dst := some 42, op := _, type := _, pos := _, after := _, guard := _ }) (v := ?v15z32) rfl (by kernel_rfl) (by kernel_rfl) (by kernel_rfl) (fun _ _ _ h => h) (Or.inl ⟨by rfl, ?y15z32⟩) hA ?r15z32
              case y15z32 => (intro w hSw; (try dsimp only at hSw); obtain ⟨h0, h1, h2, h3, h4, h5, h6, h7, h8, h9⟩ := ((unhide HLW).keep ((unhide hSw).block b hbW)) y2 nk (unhide HNK); go_simp; try with_reducible rfl)
              try simp only [Act.put, List.setIfInBounds_toArray, List.set_cons_zero, List.set_cons_succ]
              refine wpAnyH_ready (rs := [16]) (by kernel_rfl) (by simp) ?_
              refine AllReadyH.cons (o := { dst := some 43, op := _, type := _, pos := _, after := _, guard := _ }) rfl (fun K hK => ?_) AllReadyH.nil
              go_simp
              refine (covers_any nd nk _ _ _ _ _).mono ?_
              rintro e wqhC ⟨rfl, hb⟩
              rw [unhide HCOV]
              have HhC := hide ((unhide hA).trans (hb.mono (unhide hA).size))
              clear hb
              go_wp2_with fail
              refine hK.out _ _ HhC (fun hC => ?_)
              clear hK K
              try simp only [Act.put, List.setIfInBounds_toArray, List.set_cons_zero, List.set_cons_succ]
              refine wpAnyH_take (i := 17) (oi := { dst := some 44, op := _, type := _, pos := _, after := _, guard := _ }) (v := ?v17z33) rfl (by kernel_rfl) (by kernel_rfl) (by kernel_rfl) (fun _ _ _ h => h) (Or.inl ⟨by rfl, ?y17z33⟩) hC ?r17z33
              case y17z33 => (intro w hSw; (try dsimp only at hSw); go_simp; try with_reducible rfl)
              try simp only [Act.put, List.setIfInBounds_toArray, List.set_cons_zero, List.set_cons_succ]
              refine wpAnyH_take (i := 18) (oi := { dst := some 45, op := _, type := _, pos := _, after := _, guard := _ }) (v := ?v18z34) rfl (by kernel_rfl) (by kernel_rfl) (by kernel_rfl) (fun _ _ _ h => h) (Or.inl ⟨by rfl, ?y18z34⟩) hC ?r18z34
              case y18z34 => (intro w hSw; (try dsimp only at hSw); go_simp; try with_reducible rfl)
              try simp only [Act.put, List.setIfInBounds_toArray, List.set_cons_zero, List.set_cons_succ]
              refine wpAnyH_done (by kernel_rfl) ?_ _
              refine RegTail.only_norm ?_
              have HBX := hide ((unhide HBR).trans ((unhide hC).mono (unhide HBR).size))
              have bRx := hide ((unhide HRW).below (unhide hC) (unhide HRW).lt)
              have hcx := (unhide bRx).cell 0
              have hfx := (unhide bRx).frozen 0
              gi_wp2_with fail
              refine ⟨⟨?_, ?_⟩, ⟨(unhide bRx).set_ 0 (.bool false), ?_⟩, rfl, fun hp => known_bad (unhide HKN) hget (unhide HBAD) hp⟩
              · exact Nat.le_trans (unhide HBX).size (by simp [World.setCell])
              · intro k o hk ho hc
                exact (KeepsOthers.setCell _ _ _).same k o (((unhide HBX).block k (Array.getElem?_eq_some_iff.1 ho).1).trans ho) hc
              · exact ((unhide HBW).trans ((unhide HBX).mono (unhide HBW).size)).setCell (p := ⟨w.heap.size + 1, 0, none⟩) (Nat.le_succ _) _
          · have hhf : hasI L.length y = false := by simpa using hhas
            have HHAS := hide hhf
            have HBAD := hide (show kidsB L nd (fun j => es.getD j 0) nd.kids ((x.val : Int) + 1) = false from by
              rw [← unhide HD1, hhf]; simp)
            clear hhas hhf
            gi_wp2_with fail
            refine RegTail.wpIn_region_held (S := fun wx => Hid (Below wr.heap.size wr wx)) (by kernel_rfl) (by kernel_rfl) (show Hid (Below wr.heap.size wr _) from hide (Below.refl _ _).drew) (fun hS => ?_)
            refine wpAnyH_take (i := 0) (oi := { dst := some 27, op := _, type := _, pos := _, after := _, guard := _ }) (v := ?v0z35) rfl (by kernel_rfl) (by kernel_rfl) (by kernel_rfl) (fun _ _ _ h => h) (Or.inl ⟨by rfl, ?y0z35⟩) hS ?r0z35
            case y0z35 => (intro w hSw; (try dsimp only at hSw); go_simp; try with_reducible rfl)
            try simp only [Act.put, List.setIfInBounds_toArray, List.set_cons_zero, List.set_cons_succ]
            refine wpAnyH_take (i := 1) (oi := { dst := some 28, op := _, type := _, pos := _, after := _, guard := _ }) (v := ?v1z36) rfl (by kernel_rfl) (by kernel_rfl) (by kernel_rfl) (fun _ _ _ h => h) (Or.inl ⟨by rfl, ?y1z36⟩) hS ?r1z36
            case y1z36 => (intro w hSw; (try dsimp only at hSw); go_simp; try with_reducible rfl)
            try simp only [Act.put, List.setIfInBounds_toArray, List.set_cons_zero, List.set_cons_succ]
            refine wpAnyH_take (i := 2) (oi := { dst := some 29, op := _, type := _, pos := _, after := _, guard := _ }) (v := ?v2z37) rfl (by kernel_rfl) (by kernel_rfl) (by kernel_rfl) (fun _ _ _ h => h) (Or.inl ⟨by rfl, ?y2z37⟩) hS ?r2z37
            case y2z37 => (intro w hSw; (try dsimp only at hSw); go_simp; try with_reducible rfl)
            try simp only [Act.put, List.setIfInBounds_toArray, List.set_cons_zero, List.set_cons_succ]
            refine wpAnyH_take (i := 3) (oi := { dst := some 30, op := _, type := _, pos := _, after := _, guard := _ }) (v := ?v3z38) rfl (by kernel_rfl) (by kernel_rfl) (by kernel_rfl) (fun _ _ _ h => h) (Or.inl ⟨by rfl, ?y3z38⟩) hS ?r3z38
            case y3z38 => (intro w hSw; (try dsimp only at hSw); go_simp; try with_reducible rfl)
            try simp only [Act.put, List.setIfInBounds_toArray, List.set_cons_zero, List.set_cons_succ]
            refine wpAnyH_take (i := 4) (oi := { dst := some 31, op := _, type := _, pos := _, after := _, guard := _ }) (v := ?v4z39) rfl (by kernel_rfl) (by kernel_rfl) (by kernel_rfl) (fun _ _ _ h => h) (Or.inl ⟨by rfl, ?y4z39⟩) hS ?r4z39
            case y4z39 => (intro w hSw; (try dsimp only at hSw); have h0 := ((unhide HTW).below (unhide hSw) (unhide HTW).lt).cell 0; have h1 := ((unhide HTW).below (unhide hSw) (unhide HTW).lt).cell 1; have h2 := ((unhide HTW).below (unhide hSw) (unhide HTW).lt).cell 2; go_simp; try with_reducible rfl)
            try simp only [Act.put, List.setIfInBounds_toArray, List.set_cons_zero, List.set_cons_succ]
            refine wpAnyH_take (i := 5) (oi := { dst := some 32, op := _, type := _, pos := _, after := _, guard := _ }) (v := ?v5z40) rfl (by kernel_rfl) (by kernel_rfl) (by kernel_rfl) (fun _ _ _ h => h) (Or.inl ⟨by rfl, ?y5z40⟩) hS ?r5z40
            case y5z40 => (intro w hSw; (try dsimp only at hSw); go_simp; try with_reducible rfl)
            try simp only [Act.put, List.setIfInBounds_toArray, List.set_cons_zero, List.set_cons_succ]
            refine wpAnyH_ready (rs := [6]) (by kernel_rfl) (by simp) ?_
            refine AllReadyH.cons (o := { dst := some 33, op := _, type := _, pos := _, after := _, guard := _ }) rfl (fun K hK => ?_) AllReadyH.nil
            go_simp
            refine (has_any _ L.length cap g c _ _).mono ?_
            rintro e wqhA ⟨rfl, hb⟩
            rw [unhide HHAS]
            have HhA := hide ((unhide hS).trans (hb.mono (unhide hS).size))
            clear hb
            go_wp2_with fail
            refine hK.out _ _ HhA (fun hA => ?_)
            clear hK K
            try simp only [Act.put, List.setIfInBounds_toArray, List.set_cons_zero, List.set_cons_succ]
            refine wpAnyH_take (i := 7) (oi := { dst := some 34, op := _, type := _, pos := _, after := _, guard := _ }) (v := ?v7z41) rfl (by kernel_rfl) (by kernel_rfl) (by kernel_rfl) (fun _ _ _ h => h) (Or.inl ⟨by rfl, ?y7z41⟩) hA ?r7z41
            case y7z41 => (intro w hSw; (try dsimp only at hSw); go_simp; try with_reducible rfl)
            try simp only [Act.put, List.setIfInBounds_toArray, List.set_cons_zero, List.set_cons_succ]
            refine wpAnyH_take (i := 8) (oi := { dst := some 35, op := _, type := _, pos := _, after := _, guard := _ }) (v := ?v8z42) rfl (by kernel_rfl) (by kernel_rfl) (by kernel_rfl) (fun _ _ _ h => h) (Or.inl ⟨by rfl, ?y8z42⟩) hA ?r8z42
            case y8z42 => (intro w hSw; (try dsimp only at hSw); go_simp; try with_reducible rfl)
            try simp only [Act.put, List.setIfInBounds_toArray, List.set_cons_zero, List.set_cons_succ]
            refine wpAnyH_take (i := 9) (oi := { dst := some 36, op := _, type := _, pos := _, after := _, guard := _ }) (v := ?v9z43) rfl (by kernel_rfl) (by kernel_rfl) (by kernel_rfl) (fun _ _ _ h => h) (Or.inl ⟨by rfl, ?y9z43⟩) hA ?r9z43
            case y9z43 => (intro w hSw; (try dsimp only at hSw); go_simp; try with_reducible rfl)
            try simp only [Act.put, List.setIfInBounds_toArray, List.set_cons_zero, List.set_cons_succ]
            refine wpAnyH_take (i := 10) (oi := { dst := some 37, op := _, type := _, pos := _, after := _, guard := _ }) (v := undef) rfl (by kernel_rfl) (by kernel_rfl) (by kernel_rfl) (fun _ _ _ h => h) (Or.inr ⟨by rfl, rfl⟩) hA ?r10z44
            case' r10z44 => skip
            try simp only [Act.put, List.setIfInBounds_toArray, List.set_cons_zero, List.set_cons_succ]
            refine wpAnyH_take (i := 11) (oi := { dst := some 38, op := _, type := _, pos := _, after := _, guard := _ }) (v := undef) rfl (by kernel_rfl) (by kernel_rfl) (by kernel_rfl) (fun _ _ _ h => h) (Or.inr ⟨by rfl, rfl⟩) hA ?r11z45
            case' r11z45 => skip
            try simp only [Act.put, List.setIfInBounds_toArray, List.set_cons_zero, List.set_cons_succ]
            refine wpAnyH_take (i := 12) (oi := { dst := some 39, op := _, type := _, pos := _, after := _, guard := _ }) (v := undef) rfl (by kernel_rfl) (by kernel_rfl) (by kernel_rfl) (fun _ _ _ h => h) (Or.inr ⟨by rfl, rfl⟩) hA ?r12z46
            case' r12z46 => skip
            try simp only [Act.put, List.setIfInBounds_toArray, List.set_cons_zero, List.set_cons_succ]
            refine wpAnyH_take (i := 13) (oi := { dst := some 40, op := _, type := _, pos := _, after := _, guard := _ }) (v := undef) rfl (by kernel_rfl) (by kernel_rfl) (by kernel_rfl) (fun _ _ _ h => h) (Or.inr ⟨by rfl, rfl⟩) hA ?r13z47
            case' r13z47 => skip
            try simp only [Act.put, List.setIfInBounds_toArray, List.set_cons_zero, List.set_cons_succ]
            refine wpAnyH_take (i := 14) (oi := { dst := some 41, op := _, type := _, pos := _, after := _, guard := _ }) (v := undef) rfl (by kernel_rfl) (by kernel_rfl) (by kernel_rfl) (fun _ _ _ h => h) (Or.inr ⟨by rfl, rfl⟩) hA ?r14z48
            case' r14z48 => skip
            try simp only [Act.put, List.setIfInBounds_toArray, List.set_cons_zero, List.set_cons_succ]
            refine wpAnyH_take (i := 15) (oi := { dst := some 42, op := _, type := _, pos := _, after := _, guard := _ }) (v := undef) rfl (by kernel_rfl) (by kernel_rfl) (by kernel_rfl) (fun _ _ _ h => h) (Or.inr ⟨by rfl, rfl⟩) hA ?r15z49
            case' r15z49 => skip
            try simp only [Act.put, List.setIfInBounds_toArray, List.set_cons_zero, List.set_cons_succ]
            refine wpAnyH_take (i := 16) (oi := { dst := some 43, op := _, type := _, pos := _, after := _, guard := _ }) (v := undef) rfl (by kernel_rfl) (by kernel_rfl) (by kernel_rfl) (fun _ _ _ h => h) (Or.inr ⟨by rfl, rfl⟩) hA ?r16z50
            case' r16z50 => skip
            try simp only [Act.put, List.setIfInBounds_toArray, List.set_cons_zero, List.set_cons_succ]
            refine wpAnyH_take (i := 17) (oi := { dst := some 44, op := _, type := _, pos := _, after := _, guard := _ }) (v := undef) rfl (by kernel_rfl) (by kernel_rfl) (by kernel_rfl) (fun _ _ _ h => h) (Or.inr ⟨by rfl, rfl⟩) hA ?r17z51
            case' r17z51 => skip
            try simp only [Act.put, List.setIfInBounds_toArray, List.set_cons_zero, List.set_cons_succ]
            refine wpAnyH_take (i := 18) (oi := { dst := some 45, op := _, type := _, pos := _, after := _, guard := _ }) (v := ?v18z52) rfl (by kernel_rfl) (by kernel_rfl) (by kernel_rfl) (fun _ _ _ h => h) (Or.inl ⟨by rfl, ?y18z52⟩) hA ?r18z52
            case y18z52 => (intro w hSw; (try dsimp only at hSw); go_simp; try with_reducible rfl)
            try simp only [Act.put, List.setIfInBounds_toArray, List.set_cons_zero, List.set_cons_succ]
            refine wpAnyH_done (by kernel_rfl) ?_ _
            refine RegTail.only_norm ?_
            have HBX := hide ((unhide HBR).trans ((unhide hA).mono (unhide HBR).size))
            have bRx := hide ((unhide HRW).below (unhide hA) (unhide HRW).lt)
            have hcx := (unhide bRx).cell 0
            have hfx := (unhide bRx).frozen 0
            gi_wp2_with fail
            refine ⟨⟨?_, ?_⟩, ⟨(unhide bRx).set_ 0 (.bool false), ?_⟩, rfl, fun hp => known_bad (unhide HKN) hget (unhide HBAD) hp⟩
            · exact Nat.le_trans (unhide HBX).size (by simp [World.setCell])
            · intro k o hk ho hc
              exact (KeepsOthers.setCell _ _ _).same k o (((unhide HBX).block k (Array.getElem?_eq_some_iff.1 ho).1).trans ho) hc
            · exact ((unhide HBW).trans ((unhide HBX).mono (unhide HBW).size)).setCell (p := ⟨w.heap.size + 1, 0, none⟩) (Nat.le_succ _) _
        · have e0 : (y != z) = true := by simp [hyz]
          have HBAD := hide (show kidsB L nd (fun j => es.getD j 0) nd.kids ((x.val : Int) + 1) = false from by
            rw [← unhide HD1, decide_eq_false hyz]; simp)
          clear hyz
          gi_wp2_with fail
          refine RegTail.wpIn_region_held (S := fun wx => Hid (Below wr.heap.size wr wx)) (by kernel_rfl) (by kernel_rfl) (show Hid (Below wr.heap.size wr _) from hide (Below.refl _ _).drew) (fun hS => ?_)
          refine wpAnyH_take (i := 0) (oi := { dst := some 27, op := _, type := _, pos := _, after := _, guard := _ }) (v := ?v0z53) rfl (by kernel_rfl) (by kernel_rfl) (by kernel_rfl) (fun _ _ _ h => h) (Or.inl ⟨by rfl, ?y0z53⟩) hS ?r0z53
          case y0z53 => (intro w hSw; (try dsimp only at hSw); go_simp; try with_reducible rfl)
          try simp only [Act.put, List.setIfInBounds_toArray, List.set_cons_zero, List.set_cons_succ]
          refine wpAnyH_take (i := 1) (oi := { dst := some 28, op := _, type := _, pos := _, after := _, guard := _ }) (v := ?v1z54) rfl (by kernel_rfl) (by kernel_rfl) (by kernel_rfl) (fun _ _ _ h => h) (Or.inl ⟨by rfl, ?y1z54⟩) hS ?r1z54
          case y1z54 => (intro w hSw; (try dsimp only at hSw); go_simp; try with_reducible rfl)
          try simp only [Act.put, List.setIfInBounds_toArray, List.set_cons_zero, List.set_cons_succ]
          refine wpAnyH_take (i := 2) (oi := { dst := some 29, op := _, type := _, pos := _, after := _, guard := _ }) (v := ?v2z55) rfl (by kernel_rfl) (by kernel_rfl) (by kernel_rfl) (fun _ _ _ h => h) (Or.inl ⟨by rfl, ?y2z55⟩) hS ?r2z55
          case y2z55 => (intro w hSw; (try dsimp only at hSw); go_simp; try with_reducible rfl)
          try simp only [Act.put, List.setIfInBounds_toArray, List.set_cons_zero, List.set_cons_succ]
          refine wpAnyH_take (i := 3) (oi := { dst := some 30, op := _, type := _, pos := _, after := _, guard := _ }) (v := ?v3z56) rfl (by kernel_rfl) (by kernel_rfl) (by kernel_rfl) (fun _ _ _ h => h) (Or.inl ⟨by rfl, ?y3z56⟩) hS ?r3z56
          case y3z56 => (intro w hSw; (try dsimp only at hSw); go_simp; try with_reducible rfl)
          try simp only [Act.put, List.setIfInBounds_toArray, List.set_cons_zero, List.set_cons_succ]
          refine wpAnyH_take (i := 4) (oi := { dst := some 31, op := _, type := _, pos := _, after := _, guard := _ }) (v := undef) rfl (by kernel_rfl) (by kernel_rfl) (by kernel_rfl) (fun _ _ _ h => h) (Or.inr ⟨by rfl, rfl⟩) hS ?r4z57
          case' r4z57 => skip
          try simp only [Act.put, List.setIfInBounds_toArray, List.set_cons_zero, List.set_cons_succ]
          refine wpAnyH_take (i := 5) (oi := { dst := some 32, op := _, type := _, pos := _, after := _, guard := _ }) (v := undef) rfl (by kernel_rfl) (by kernel_rfl) (by kernel_rfl) (fun _ _ _ h => h) (Or.inr ⟨by rfl, rfl⟩) hS ?r5z58
          case' r5z58 => skip
          try simp only [Act.put, List.setIfInBounds_toArray, List.set_cons_zero, List.set_cons_succ]
          refine wpAnyH_take (i := 6) (oi := { dst := some 33, op := _, type := _, pos := _, after := _, guard := _ }) (v := undef) rfl (by kernel_rfl) (by kernel_rfl) (by kernel_rfl) (fun _ _ _ h => h) (Or.inr ⟨by rfl, rfl⟩) hS ?r6z59
          case' r6z59 => skip
          try simp only [Act.put, List.setIfInBounds_toArray, List.set_cons_zero, List.set_cons_succ]
          refine wpAnyH_take (i := 7) (oi := { dst := some 34, op := _, type := _, pos := _, after := _, guard := _ }) (v := undef) rfl (by kernel_rfl) (by kernel_rfl) (by kernel_rfl) (fun _ _ _ h => h) (Or.inr ⟨by rfl, rfl⟩) hS ?r7z60
          case' r7z60 => skip
          try simp only [Act.put, List.setIfInBounds_toArray, List.set_cons_zero, List.set_cons_succ]
          refine wpAnyH_take (i := 8) (oi := { dst := some 35, op := _, type := _, pos := _, after := _, guard := _ }) (v := ?v8z61) rfl (by kernel_rfl) (by kernel_rfl) (by kernel_rfl) (fun _ _ _ h => h) (Or.inl ⟨by rfl, ?y8z61⟩) hS ?r8z61
          case y8z61 => (intro w hSw; (try dsimp only at hSw); go_simp; try with_reducible rfl)
          try simp only [Act.put, List.setIfInBounds_toArray, List.set_cons_zero, List.set_cons_succ]
          refine wpAnyH_take (i := 9) (oi := { dst := some 36, op := _, type := _, pos := _, after := _, guard := _ }) (v := ?v9z62) rfl (by kernel_rfl) (by kernel_rfl) (by kernel_rfl) (fun _ _ _ h => h) (Or.inl ⟨by rfl, ?y9z62⟩) hS ?r9z62
          case y9z62 => (intro w hSw; (try dsimp only at hSw); go_simp; try with_reducible rfl)
          try simp only [Act.put, List.setIfInBounds_toArray, List.set_cons_zero, List.set_cons_succ]
          refine wpAnyH_take (i := 10) (oi := { dst := some 37, op := _, type := _, pos := _, after := _, guard := _ }) (v := undef) rfl (by kernel_rfl) (by kernel_rfl) (by kernel_rfl) (fun _ _ _ h => h) (Or.inr ⟨by rfl, rfl⟩) hS ?r10z63
          case' r10z63 => skip
          try simp only [Act.put, List.setIfInBounds_toArray, List.set_cons_zero, List.set_cons_succ]
          refine wpAnyH_take (i := 11) (oi := { dst := some 38, op := _, type := _, pos := _, after := _, guard := _ }) (v := undef) rfl (by kernel_rfl) (by kernel_rfl) (by kernel_rfl) (fun _ _ _ h => h) (Or.inr ⟨by rfl, rfl⟩) hS ?r11z64
          case' r11z64 => skip
          try simp only [Act.put, List.setIfInBounds_toArray, List.set_cons_zero, List.set_cons_succ]
          refine wpAnyH_take (i := 12) (oi := { dst := some 39, op := _, type := _, pos := _, after := _, guard := _ }) (v := undef) rfl (by kernel_rfl) (by kernel_rfl) (by kernel_rfl) (fun _ _ _ h => h) (Or.inr ⟨by rfl, rfl⟩) hS ?r12z65
          case' r12z65 => skip
          try simp only [Act.put, List.setIfInBounds_toArray, List.set_cons_zero, List.set_cons_succ]
          refine wpAnyH_take (i := 13) (oi := { dst := some 40, op := _, type := _, pos := _, after := _, guard := _ }) (v := undef) rfl (by kernel_rfl) (by kernel_rfl) (by kernel_rfl) (fun _ _ _ h => h) (Or.inr ⟨by rfl, rfl⟩) hS ?r13z66
          case' r13z66 => skip
          try simp only [Act.put, List.setIfInBounds_toArray, List.set_cons_zero, List.set_cons_succ]
          refine wpAnyH_take (i := 14) (oi := { dst := some 41, op := _, type := _, pos := _, after := _, guard := _ }) (v := undef) rfl (by kernel_rfl) (by kernel_rfl) (by kernel_rfl) (fun _ _ _ h => h) (Or.inr ⟨by rfl, rfl⟩) hS ?r14z67
          case' r14z67 => skip
          try simp only [Act.put, List.setIfInBounds_toArray, List.set_cons_zero, List.set_cons_succ]
          refine wpAnyH_take (i := 15) (oi := { dst := some 42, op := _, type := _, pos := _, after := _, guard := _ }) (v := undef) rfl (by kernel_rfl) (by kernel_rfl) (by kernel_rfl) (fun _ _ _ h => h) (Or.inr ⟨by rfl, rfl⟩) hS ?r15z68
          case' r15z68 => skip
          try simp only [Act.put, List.setIfInBounds_toArray, List.set_cons_zero, List.set_cons_succ]
          refine wpAnyH_take (i := 16) (oi := { dst := some 43, op := _, type := _, pos := _, after := _, guard := _ }) (v := undef) rfl (by kernel_rfl) (by kernel_rfl) (by kernel_rfl) (fun _ _ _ h => h) (Or.inr ⟨by rfl, rfl⟩) hS ?r16z69
          case' r16z69 => skip
          try simp only [Act.put, List.setIfInBounds_toArray, List.set_cons_zero, List.set_cons_succ]
          refine wpAnyH_take (i := 17) (oi := { dst := some 44, op := _, type := _, pos := _, after := _, guard := _ }) (v := undef) rfl (by kernel_rfl) (by kernel_rfl) (by kernel_rfl) (fun _ _ _ h => h) (Or.inr ⟨by rfl, rfl⟩) hS ?r17z70
          case' r17z70 => skip
          try simp only [Act.put, List.setIfInBounds_toArray, List.set_cons_zero, List.set_cons_succ]
          refine wpAnyH_take (i := 18) (oi := { dst := some 45, op := _, type := _, pos := _, after := _, guard := _ }) (v := ?v18z71) rfl (by kernel_rfl) (by kernel_rfl) (by kernel_rfl) (fun _ _ _ h => h) (Or.inl ⟨by rfl, ?y18z71⟩) hS ?r18z71
          case y18z71 => (intro w hSw; (try dsimp only at hSw); go_simp; try with_reducible rfl)
          try simp only [Act.put, List.setIfInBounds_toArray, List.set_cons_zero, List.set_cons_succ]
          refine wpAnyH_done (by kernel_rfl) ?_ _
          refine RegTail.only_norm ?_
          have HBX := hide ((unhide HBR).trans ((unhide hS).mono (unhide HBR).size))
          have bRx := hide ((unhide HRW).below (unhide hS) (unhide HRW).lt)
          have hcx := (unhide bRx).cell 0
          have hfx := (unhide bRx).frozen 0
          gi_wp2_with fail
          refine ⟨⟨?_, ?_⟩, ⟨(unhide bRx).set_ 0 (.bool false), ?_⟩, rfl, fun hp => known_bad (unhide HKN) hget (unhide HBAD) hp⟩
          · exact Nat.le_trans (unhide HBX).size (by simp [World.setCell])
          · intro k o hk ho hc
            exact (KeepsOthers.setCell _ _ _).same k o (((unhide HBX).block k (Array.getElem?_eq_some_iff.1 ho).1).trans ho) hc
          · exact ((unhide HBW).trans ((unhide HBX).mono (unhide HBW).size)).setCell (p := ⟨w.heap.size + 1, 0, none⟩) (Nat.le_succ _) _
      · have hki : (nd.kids.length : Int) ≤ (k : Int) := by omega
        have hfb := unhide HKB
        have hfz := unhide HKZ
        rw [List.drop_of_length_le (by omega)] at hfb hfz
        have hfb : kidsB L nd (fun j => es.getD j 0) nd.kids ((x.val : Int) + 1) = true := hfb.symm
        have hfz : kidsZ (fun j => es.getD j 0) nd.kids ((x.val : Int) + 1) = z := hfz.symm
        have hsn := known_snoc (unhide HKN) hl hget hfb
        rw [hfz] at hsn
        have HSN := hide hsn
        have hcB := (unhide HBBW).cell 0
        have hcE := (unhide HEW).cell x.val
        have hfE := (unhide HEW).frozen x.val
        have hev : (ints es)[x.val]? = some (.int .i64 (es.getD x.val 0)) := by
          unfold ints
          rw [List.getElem?_toArray, List.getElem?_map, List.getElem?_eq_getElem (by omega)]
          simp [List.getD, List.getElem?_eq_getElem (show x.val < es.length by omega)]
        rw [hev] at hcE
        clear hfb hfz hsn hev hlt
        gi_wp2_with fail
        have hbr := unhide HBR
        refine ⟨⟨?_, ?_⟩, ⟨fun q hq => ?_, ?_⟩, ⟨es.set x.val z, ⟨?_, fun q hq => ?_, ?_⟩, by simpa using hl, unhide HSN⟩, ?_⟩
        · exact Nat.le_trans hbr.size (by simp [World.setCell])
        · intro q o hq ho hc
          exact (KeepsOthers.setCell _ _ _).same q o ((hbr.block q (Array.getElem?_eq_some_iff.1 ho).1).trans ho) hc
        · rw [Below.heap_setCell _ _ _ q (by rcases hq with h | h <;> (simp; omega))]
          exact hbr.block q (by rcases hq with h | h <;> omega)
        · exact Nat.le_trans hbr.size (by simp [World.setCell])
        · have := (unhide HEW).set_ x.val (.int .i64 z)
          unfold ints at this ⊢
          rw [List.map_set]
          simpa using this
        · rw [Below.heap_setCell _ _ _ q (by have := hq.2; simp; omega), hbr.block q (by have := hq.1; omega)]
          exact (unhide HS2) q hq
        · exact Nat.le_trans hsz (Nat.le_trans hbr.size (by simp [World.setCell]))
        · exact ((unhide HBW).trans (hbr.mono hbW0)).setCell (p := ⟨w.heap.size + 2, _, none⟩) (by simp) _
  case done =>
    rintro D ys W hD rfl ⟨⟨es, ⟨hE, hS, hsz⟩, hl, hkn⟩, hBw⟩ hK
    have bT2 : Blk W w.heap.size 25 #[.slice (some ⟨b, off, none⟩) L.length cap, .int .i64 g, c] := (hS _ ⟨by omega, by omega⟩).trans bT
    have bR2 : Blk W (w.heap.size + 1) 4 #[.bool false] := (hS _ ⟨by omega, by omega⟩).trans bR
    have bB2 : Blk W (w.heap.size + 3) 40 #[.slice (some ⟨w.heap.size + 1 + 1, 0, none⟩) L.length L.length] := (hS _ ⟨by omega, by omega⟩).trans bB
    obtain ⟨e0, he0⟩ : ∃ e0, es.getD 0 0 = e0 := ⟨_, rfl⟩
    have hka := known_all hpos hkn
    rw [he0] at hka
    have hev : (ints es)[0]? = some (.int .i64 e0) := by
      unfold ints
      rw [List.getElem?_toArray, List.getElem?_map, List.getElem?_eq_getElem (by omega), ← he0]
      simp [List.getD, List.getElem?_eq_getElem (show 0 < es.length by omega)]
    obtain ⟨q, hq⟩ : ∃ q, (e0 == (L.length : Int)) = q := ⟨_, rfl⟩
    have HR := hide (show ordB L = q from by rw [hka, ← hq]; by_cases h : e0 = (L.length : Int) <;> simp [h])
    have HKx := hide hK
    have HRx := hide bR2
    have hBx := hBw
    have hr2 := bR2.cell 0
    have hf2 := bR2.frozen 0
    have t0 := bT2.cell 0
    have f0 := bB2.cell 0
    have g0 := hE.cell 0
    rw [hev] at g0
    have HD := hide hD
    clear hD hK hka hev hE hS hkn hBw bT2 bR2 bB2 bT bR bE bB bp he0
    have hposi : (0 : Int) < (L.length : Int) := by omega
    gi_wp2_with fail
    refine RegTail.wpIn_region_still_tail 7 (by kernel_rfl) (by kernel_rfl) ?_
    simp only [List.take_succ_cons, List.take_zero, List.drop_succ_cons, List.drop_zero]
    have hr3 : ({ W with drawn := W.drawn + 1 } : World).cell? ⟨w.heap.size + 1, 0, none⟩ = some (.bool false) := hr2
    have hf3 : ({ W with drawn := W.drawn + 1 } : World).frozen? ⟨w.heap.size + 1, 0, none⟩ = false := hf2
    have t3 : ({ W with drawn := W.drawn + 1 } : World).cell? ⟨w.heap.size, 0, none⟩ = some (.slice (some ⟨b, off, none⟩) L.length cap) := t0
    have f3 : ({ W with drawn := W.drawn + 1 } : World).cell? ⟨w.heap.size + 3, 0, none⟩ = some (.slice (some ⟨w.heap.size + 1 + 1, 0, none⟩) L.length L.length) := f0
    have g3 : ({ W with drawn := W.drawn + 1 } : World).cell? ⟨w.heap.size + 2, 0, none⟩ = some (.int .i64 e0) := g0
    have hB5' : Below w.heap.size w (({ W with drawn := W.drawn + 1 } : World).setCell ⟨w.heap.size + 1, 0, none⟩ (.bool q)) := (hBx.drew).setCell (p := ⟨w.heap.size + 1, 0, none⟩) (Nat.le_succ _) _
    have hKx : ({ W with drawn := W.drawn + 1 } : World).heap[D]? = some (.deferred (some [])) := unhide HKx
    have hR3 : Blk ({ W with drawn := W.drawn + 1 } : World) (w.heap.size + 1) 4 #[.bool false] := unhide HRx
    generalize ({ W with drawn := W.drawn + 1 } : World) = wd at *
    have hK' := (KeepsOthers.setCell wd ⟨w.heap.size + 1, 0, none⟩ (.bool q)).same D _ hKx rfl
    have hc5 := cell_kept (World.cell?_setCell_same' wd ⟨w.heap.size + 1, 0, none⟩ (.bool q) (by rw [hr3]; rfl)) (grownBy_putObj' _ D (.deferred none)) (fun r e => by cases e; exact ⟨_, hK', rfl⟩)
    have HB6 := hide hB5'
    have HK' := hide hK'
    have HC5 := hide hc5
    clear hB5' hKx hR3 hK' hc5 hBx
    repeat still_step
    refine wpStill_nil ?_
    gi_wp2_with fail
    refine ⟨by simp, .inl ⟨_, _, rfl, run_takeDeferred (unhide HK'), ?_⟩⟩
    have hc5 := unhide HC5
    refine ⟨.bool q, ?_, by rw [unhide HR], (unhide HB6).trans (belowK_b (w := w) (Nat.le_refl _) _ D _ _ (by have := unhide HD; omega) (unhide HK') rfl rfl)⟩
    simp [results, Tryd.f21, go_sem, hc5]
  case stop =>
    rintro D cc pre W hD hpre ⟨⟨bR2, hB2⟩, rfl, hno⟩ hK
    have hc5 := cell_kept (bR2.cell 0) (grownBy_putObj' W D (.deferred none)) (fun r e => by cases e; exact ⟨_, hK, rfl⟩)
    have HD := hide hD
    have HB4 := hide hB2
    have HK' := hide hK
    have HC5 := hide hc5
    have HNO := hide (hno hpre)
    clear hD hB2 hc5 hK hno bR2
    gi_wp2
    refine ⟨by simp, .inl ⟨_, _, rfl, run_takeDeferred (unhide HK'), ?_⟩⟩
    have hc5 := unhide HC5
    refine ⟨.bool false, ?_, by rw [unhide HNO], (unhide HB4).trans (belowK_b (w := w) (Nat.le_refl _) _ D _ _ (by have := unhide HD; omega) (unhide HK') rfl rfl)⟩
    simp [results, Tryd.f21, go_sem, hc5]
end Go.Proofs.YtckgbalmpddblaaDoor.As
