/-
  The reference's Set, walked. Conditions: at most 1000 lists, of at most 100000 numbers.
-/
import Derived.Test.YtjnljhigaapalaaUnRefSet
set_option linter.unusedVariables false
set_option linter.unusedSimpArgs false
namespace Go.Proofs.Ytjnljhigaapalaa.Un
open Go.RowKit Go.Proofs.Ytjnljhigaapalaa.Mem
open Go.Proofs.Ytjnljhigaapalaa.Ev (CV intA below_box ret_b own_reads own_below own_base)
theorem own_own_ne {W : World} {base base' e e' size size' n n' : Nat} {v v' : Value} {xs xs' : List Value} (h : W.ownsRow base e size v n xs) (h' : W.ownsRow base' e' size' v' n' xs') (hne : e ≠ e') {g : Nat} (hg : v.ownBlock = some g) : v'.ownBlock ≠ some g := by
  rcases h.2 with ⟨rfl, _⟩ | ⟨g1, cap, cur, rfl, _, hh, _⟩
  · cases hg
  · obtain rfl : g1 = g := by simpa [Value.ownBlock] using hg
    rcases h'.2 with ⟨rfl, _⟩ | ⟨g', cap', cur', rfl, _, hh', _⟩
    · simp [Value.ownBlock]
    · intro e1
      have : g' = g1 := by simpa [Value.ownBlock] using e1
      subst this
      rw [hh] at hh'
      simp at hh'
      exact hne hh'.2
theorem own_grown {W W' : World} {base e size n : Nat} {v : Value} {xs : List Value} {row : Option Nat} (h : W.ownsRow base e size v n xs) (hg : W.grownBy W' row) (hr : ∀ g, v.ownBlock = some g → row ≠ some g) : W'.ownsRow base e size v n xs := by
  refine ⟨h.1, ?_⟩
  rcases h.2 with h2 | ⟨g, cap, cur, rfl, h1, h2, h3⟩
  · exact .inl h2
  · exact .inr ⟨g, cap, cur, rfl, h1, (hg.block g (Array.getElem?_eq_some_iff.1 h2).1 (fun e => hr g rfl e.symm)).trans h2, h3⟩
theorem LV.of_own {W : World} {base g c n : Nat} {l : List Int} {P : Nat → Prop} (hn : l.length = n) (h : W.ownsRow base 3 1 (.slice (some ⟨g, 0, none⟩) n c) n (l.map Mem.i64)) (hp : P g) : LV l (some ⟨g, 0, none⟩) c P W := by
  subst hn
  obtain ⟨A, c', e, hr, h1, h2⟩ := own_reads h
  cases e
  refine ⟨h1, h2, fun hn => ?_⟩
  obtain ⟨ad, e, hb, hc⟩ := hr.2 hn
  cases e
  refine ⟨g, rfl, hp, hb, fun j x hx => ?_⟩
  have := hc j (.int .i64 x) (by rw [List.getElem?_map, hx]; rfl)
  rwa [add_flat, Nat.zero_add] at this
theorem RX.of_own {W : World} {base g c n : Nat} {L : List (List Int)} {vs : List Value} {P : Nat → Prop} (hn : L.length = n) (h : W.ownsRow base 32 1 (.slice (some ⟨g, 0, none⟩) n c) n vs) (hp : P g) (he : ∀ (k : Nat) (l : List Int), L[k]? = some l → ∃ A' c', vs[k]? = some (Value.slice A' l.length c') ∧ LV l A' c' P W) : RX L vs (some ⟨g, 0, none⟩) c P W := by
  subst hn
  obtain ⟨A, c', e, hr, h1, h2⟩ := own_reads h
  cases e
  refine ⟨h1, h2, by rw [h.1, Nat.mul_one], fun hn => ?_, he⟩
  obtain ⟨ad, e, hb, hc⟩ := hr.2 hn
  cases e
  refine ⟨g, rfl, hp, hb, fun j x hx => ?_⟩
  have := hc j x hx
  rwa [add_flat, Nat.zero_add] at this
theorem RX.one {L : List (List Int)} {vs : List Value} {A : Option Addr} {c : Nat} {P : Nat → Prop} {w : World} (h : RX L vs A c P w) : ∀ u ∈ vs, u.oneCell' = true := fun u hu => by
  obtain ⟨k, hk⟩ := List.mem_iff_getElem?.1 hu
  have hkl : k < L.length := by rw [← h.len]; exact (List.getElem?_eq_some_iff.1 hk).1
  obtain ⟨A', c', e, -⟩ := h.each k _ (List.getElem?_eq_getElem hkl)
  rw [hk] at e
  cases e
  rfl
theorem RX.reads {L : List (List Int)} {vs : List Value} {A : Option Addr} {c : Nat} {P : Nat → Prop} {w : World} (h : RX L vs A c P w) : Reads w w.heap.size 1 A L.length vs := by
  refine ⟨by rw [h.len, Nat.mul_one], fun hn => ?_⟩
  obtain ⟨b, rfl, -, hb, hc⟩ := h.lies hn
  refine ⟨_, rfl, hb, fun j u hj => ?_⟩
  rw [add_flat, Nat.zero_add]
  exact hc j u hj
theorem info_int : (Try.prog.info? 3).map (fun i => (i.zero, i.size, i.bytes)) = some (some (.int .i64 0), 1, 8) := by kernel_rfl
theorem info_ints : (Try.prog.info? 32).map (fun i => (i.zero, i.size, i.bytes)) = some (some (.slice none 0 0), 1, 24) := by kernel_rfl
theorem one_i64 (l : List Int) : ∀ u ∈ l.map Mem.i64, u.oneCell' = true := by simp [Value.oneCell']
theorem reads_new1 (W : World) (a : Value) (t : TypeId) : Reads (W.alloc (.cells #[a] t)) (W.heap.size + 1) 1 (some ⟨W.heap.size, 0, none⟩) 1 [a] := by
  refine ⟨rfl, fun _ => ⟨_, rfl, by simp, fun j u hj => ?_⟩⟩
  rw [add_flat, Nat.zero_add, World.cell?_alloc_new]
  simpa using hj
section
variable {L : List (List Int)} {A : Option Addr} {c : Nat} {P : Nat → Prop} {w : World}
def RG (L : List (List Int)) (b : Bool) (P : Nat → Prop) (w : World) (e : Ending) (w' : World) : Prop :=
  (∃ A2 c2, e = .returned (.tuple #[.agg #[.slice A2 L.length c2], .bool b]) ∧ RV L A2 c2 (fun k => P k ∨ (w.heap.size ≤ k ∧ k < w'.heap.size)) w') ∧ Below w.heap.size w w'
set_option maxRecDepth 100000 in
set_option maxHeartbeats 2000000 in
theorem rset_out (h : RV L A c P w) (q : Nat) (l : List Int) (hq : L.length = q + 1) (hl : L[q]? = some l) (i x : Int) (hi : hasB l i = false) :
    Calls Try.prog 10 #[.agg #[.slice A L.length c], .int .i64 i, .int .i64 x] w (fun e w' => (∃ A2 c2, e = .returned (.tuple #[.agg #[.slice A2 L.length c2], .bool false]) ∧ RV L A2 c2 (fun k => P k ∨ (w.heap.size ≤ k ∧ k < w'.heap.size)) w') ∧ Below w.heap.size w w') := by
  have h2 := zero_B.1
  have hb := (below_box w (.cells #[.slice A L.length c] 30)).alloc (by simp) (.cells #[.slice none 0 0] 30)
  have bb := (Blk.new w 30 #[.slice A L.length c]).alloc (.cells #[.slice none 0 0] 30)
  have br := Blk.new (w.alloc (.cells #[.slice A L.length c] 30)) 30 #[.slice none 0 0]
  rw [World.size_alloc] at br
  have CN := hide (now_any (h.below hb) q l hq hl)
  have H := hide h
  have HB := hide hb
  have HBB := hide bb
  have HBR := hide br
  have hi2 : i < 0 ∨ (l.length : Int) ≤ i := by unfold hasB at hi; simp at hi; omega
  obtain ⟨n, hn⟩ : ∃ n, L.length = n := ⟨_, rfl⟩
  have HN := hide hn
  rw [hn] at CN HB HBB HBR ⊢
  clear h hb bb br hi hq hl hn
  go_enter Try.func10, Try.ntmps10
  go_wp2_with fail
  refine (unhide CN).mono ?_
  rintro e w3 ⟨⟨A5, c5, rfl, h5⟩, hb3⟩
  have hbb := (unhide HBB).below hb3 (by simp; omega)
  have hbr := (unhide HBR).below hb3 (by simp)
  have b0 : w3.cell? ⟨w.heap.size, 0, none⟩ = some (.slice A n c) := hbb.cell 0
  have b1 : w3.cell? ⟨w.heap.size + 1, 0, none⟩ = some (.slice none 0 0) := hbr.cell 0
  have b2 := hbr.frozen 0
  have HBR3 := hide (hbr.set_ 0 (.slice A n c))
  have HB3 := hide ((unhide HB).trans (hb3.mono (by simp; omega)))
  clear CN HBB HBR h5 hb3 hbb hbr HB
  rcases hi2 with hi2 | hi2
  · have d0 : decide (i < 0) = true := by simpa using hi2
    go_wp2_with fail
    have hbl := (unhide HB3).setCell (p := ⟨w.heap.size + 1, 0, none⟩) (by simp) (.slice A n c)
    exact bodyPost_ret (results_ct rfl _ _ (w.heap.size + 1) _ _ _ rfl rfl (unhide HBR3) Try.underlying30 rfl (by kernel_rfl)) rfl ⟨⟨A, c, rfl, ((unhide H).below hbl).mono fun k h => .inl h⟩, hbl⟩
  · have d0 : decide ((l.length : Int) ≤ i) = true := by simpa using hi2
    by_cases hi3 : i < 0
    · omega
    · have d1 : decide (i < 0) = false := by simpa using hi3
      generalize l.length = nl at *
      go_wp2_with fail
      have hbl := (unhide HB3).setCell (p := ⟨w.heap.size + 1, 0, none⟩) (by simp) (.slice A n c)
      exact bodyPost_ret (results_ct rfl _ _ (w.heap.size + 1) _ _ _ rfl rfl (unhide HBR3) Try.underlying30 rfl (by kernel_rfl)) rfl ⟨⟨A, c, rfl, ((unhide H).below hbl).mono fun k h => .inl h⟩, hbl⟩
set_option maxRecDepth 100000 in
set_option maxHeartbeats 2000000 in
theorem rset_same (h : RV L A c P w) (q : Nat) (l : List Int) (hq : L.length = q + 1) (hl : L[q]? = some l) (k : Nat) (x : Int) (hk : l[k]? = some x) :
    Calls Try.prog 10 #[.agg #[.slice A L.length c], .int .i64 (k : Int), .int .i64 x] w (fun e w' => (∃ A2 c2, e = .returned (.tuple #[.agg #[.slice A2 L.length c2], .bool true]) ∧ RV L A2 c2 (fun k => P k ∨ (w.heap.size ≤ k ∧ k < w'.heap.size)) w') ∧ Below w.heap.size w w') := by
  have h2 := zero_B.1
  have hkl := (List.getElem?_eq_some_iff.1 hk).1
  have hb := (below_box w (.cells #[.slice A L.length c] 30)).alloc (by simp) (.cells #[.slice none 0 0] 30)
  have bb := (Blk.new w 30 #[.slice A L.length c]).alloc (.cells #[.slice none 0 0] 30)
  have br := Blk.new (w.alloc (.cells #[.slice A L.length c] 30)) 30 #[.slice none 0 0]
  rw [World.size_alloc] at br
  have CN := hide (now_any (h.below hb) q l hq hl)
  have H := hide h
  have HB := hide hb
  have HBB := hide bb
  have HBR := hide br
  have HX := hide hk
  obtain ⟨n, hn⟩ : ∃ n, L.length = n := ⟨_, rfl⟩
  have HN := hide hn
  rw [hn] at CN HB HBB HBR ⊢
  clear h hb bb br hk hq hl hn
  go_enter Try.func10, Try.ntmps10
  go_wp2_with fail
  refine (unhide CN).mono ?_
  rintro e w3 ⟨⟨A5, c5, rfl, h5⟩, hb3⟩
  obtain ⟨b5, rfl, -, -, hc5⟩ := h5.lies (by omega)
  have e5 := hc5 k x (unhide HX)
  have hbb := (unhide HBB).below hb3 (by simp; omega)
  have hbr := (unhide HBR).below hb3 (by simp)
  have b0 : w3.cell? ⟨w.heap.size, 0, none⟩ = some (.slice A n c) := hbb.cell 0
  have b1 : w3.cell? ⟨w.heap.size + 1, 0, none⟩ = some (.slice none 0 0) := hbr.cell 0
  have b2 := hbr.frozen 0
  have HBR3 := hide (hbr.set_ 0 (.slice A n c))
  have HB3 := hide ((unhide HB).trans (hb3.mono (by simp; omega)))
  have d0 : decide ((k : Int) < 0) = false := by simp
  have d1 : decide ((l.length : Int) ≤ (k : Int)) = false := by simp; omega
  have d2 : decide (l.length ≤ k) = false := by simp; omega
  have d3 : (k : Int) < (l.length : Int) := by omega
  have d4 : (x == x) = true := by simp
  generalize l.length = nl at *
  clear CN HBB HBR h5 hb3 hbb hbr HB hc5
  go_wp2_with fail
  have hbl := (unhide HB3).setCell (p := ⟨w.heap.size + 1, 0, none⟩) (by simp) (.slice A n c)
  exact bodyPost_ret (results_ct rfl _ _ (w.heap.size + 1) _ _ _ rfl rfl (unhide HBR3) Try.underlying30 rfl (by kernel_rfl)) rfl ⟨⟨A, c, rfl, ((unhide H).below hbl).mono fun k h => .inl h⟩, hbl⟩
theorem rput1 {w3 w4 : World} {n s k : Nat} {l : List Int} {x : Int} {v4 : Value} (hB : Below w.heap.size w w3) (hs2 : w.heap.size + 2 ≤ w3.heap.size) (hbb : Blk w3 w.heap.size 30 #[.slice A n c]) (hbr : Blk w3 (w.heap.size + 1) 30 #[.slice none 0 0])
    (ho : w4.ownsRow w3.heap.size 3 1 v4 (0 + (s + 1)) ([] ++ l.map Mem.i64)) (hg : w3.grownBy w4 (Value.slice none 0 0).ownBlock) (hk : k < s + 1) :
    ∃ g4 c4 old, v4 = .slice (some ⟨g4, 0, none⟩) (s + 1) c4 ∧ w4.cell? ⟨g4, k, none⟩ = some old ∧ w4.frozen? ⟨g4, k, none⟩ = false ∧ (w4.setCell ⟨g4, k, none⟩ (.int .i64 x)).ownsRow w3.heap.size 3 1 (.slice (some ⟨g4, 0, none⟩) (s + 1) c4) (s + 1) ((l.set k x).map Mem.i64) ∧
      Blk (w4.setCell ⟨g4, k, none⟩ (.int .i64 x)) w.heap.size 30 #[.slice A n c] ∧ Blk (w4.setCell ⟨g4, k, none⟩ (.int .i64 x)) (w.heap.size + 1) 30 #[.slice none 0 0] ∧ Below w.heap.size w (w4.setCell ⟨g4, k, none⟩ (.int .i64 x)) ∧ w3.heap.size ≤ (w4.setCell ⟨g4, k, none⟩ (.int .i64 x)).heap.size ∧ w3.heap.size ≤ g4 := by
  rw [Nat.zero_add, List.nil_append] at ho
  obtain ⟨g4, c4, rfl⟩ := ownsRow_succ ho
  obtain ⟨hs4, ⟨old, e4, -⟩, f4⟩ := own_set1 ho hk (.int .i64 x)
  have hg3 : w3.heap.size ≤ g4 := own_base ho g4 rfl
  have hb4 : Below w.heap.size w w4 := hB.grown hg hB.size (fun k e => by cases e)
  refine ⟨g4, c4, old, rfl, e4, f4, by rw [List.map_set]; exact hs4, ((hbb.grown hg (by simp [Value.ownBlock])).far (p := ⟨g4, k, none⟩) (by simp; omega) _), ((hbr.grown hg (by simp [Value.ownBlock])).far (p := ⟨g4, k, none⟩) (by simp; omega) _), hb4.setCell (p := ⟨g4, k, none⟩) (by simp; omega) _, ?_, hg3⟩
  have := hg.size
  simpa [World.setCell] using this
theorem rput2 {w3 w5 w6 : World} {n m : Nat} {g4 c4 s : Nat} {xs vs : List Value} {v6 : Value} {cs ds : Array Value} (hn : 0 < n) (hB : Below w.heap.size w w5) (hs3 : w3.heap.size ≤ w5.heap.size) (hi : w5.ownsRow w3.heap.size 3 1 (.slice (some ⟨g4, 0, none⟩) (s + 1) c4) (s + 1) xs) (hbb : Blk w5 w.heap.size 30 cs) (hbr : Blk w5 (w.heap.size + 1) 30 ds)
    (ho : w6.ownsRow w3.heap.size 32 1 v6 (0 + n) ([] ++ vs)) (hg : w5.grownBy w6 (Value.slice none 0 0).ownBlock) :
    ∃ g6 c6, v6 = .slice (some ⟨g6, 0, none⟩) n c6 ∧ w6.ownsRow w3.heap.size 32 1 (.slice (some ⟨g6, 0, none⟩) n c6) n vs ∧ w6.ownsRow w3.heap.size 3 1 (.slice (some ⟨g4, 0, none⟩) (s + 1) c4) (s + 1) xs ∧ Blk w6 w.heap.size 30 cs ∧ Blk w6 (w.heap.size + 1) 30 ds ∧ Below w.heap.size w w6 ∧ w3.heap.size ≤ w6.heap.size := by
  rw [Nat.zero_add, List.nil_append] at ho
  obtain ⟨t, rfl⟩ : ∃ t, n = t + 1 := ⟨n - 1, by omega⟩
  obtain ⟨g6, c6, rfl⟩ := ownsRow_succ ho
  exact ⟨g6, c6, rfl, ho, own_grown hi hg (by simp [Value.ownBlock]), hbb.grown hg (by simp [Value.ownBlock]), hbr.grown hg (by simp [Value.ownBlock]), hB.grown hg hB.size (fun k e => by cases e), Nat.le_trans hs3 hg.size⟩
theorem rput3 {w3 w6 w7 : World} {n : Nat} {g4 c4 s g6 c6 : Nat} {xs vs : List Value} {v7 : Value} {cs ds : Array Value} {o : Array Value} (hws : w.heap.size + 2 ≤ w3.heap.size) (hB : Below w.heap.size w w6) (hs3 : w3.heap.size ≤ w6.heap.size) (hl : w6.ownsRow w3.heap.size 32 1 (.slice (some ⟨g6, 0, none⟩) n c6) n vs) (hi : w6.ownsRow w3.heap.size 3 1 (.slice (some ⟨g4, 0, none⟩) (s + 1) c4) (s + 1) xs) (hbb : Blk w6 w.heap.size 30 cs) (hbr : Blk w6 (w.heap.size + 1) 30 ds)
    (ho : w7.ownsRow w3.heap.size 32 1 v7 (n + 1) (vs ++ [.slice (some ⟨g4, 0, none⟩) (s + 1) c4])) (hg : (w6.alloc (.cells o 32)).grownBy w7 (Value.slice (some ⟨g6, 0, none⟩) n c6).ownBlock) :
    ∃ g7 c7, v7 = .slice (some ⟨g7, 0, none⟩) (n + 1) c7 ∧ w7.ownsRow w3.heap.size 32 1 (.slice (some ⟨g7, 0, none⟩) (n + 1) c7) (n + 1) (vs ++ [.slice (some ⟨g4, 0, none⟩) (s + 1) c4]) ∧ w7.ownsRow w3.heap.size 3 1 (.slice (some ⟨g4, 0, none⟩) (s + 1) c4) (s + 1) xs ∧ Blk w7 w.heap.size 30 cs ∧ Blk w7 (w.heap.size + 1) 30 ds ∧ Below w.heap.size w w7 ∧ w3.heap.size ≤ w7.heap.size := by
  obtain ⟨g7, c7, rfl⟩ := ownsRow_succ ho
  have hl2 := hl.alloc (.cells o 32)
  have hbb2 := hbb.alloc (.cells o 32)
  have hbr2 := hbr.alloc (.cells o 32)
  have hi2 := hi.alloc (.cells o 32)
  have hg6 : w3.heap.size ≤ g6 := own_base hl g6 rfl
  refine ⟨g7, c7, rfl, ho, own_grown hi2 hg (fun g e => own_own_ne hi2 hl2 (by decide) e), hbb2.grown hg (fun e => own_blk_ne hl2 hbb2 (by decide) e.symm), hbr2.grown hg (fun e => own_blk_ne hl2 hbr2 (by decide) e.symm), (hB.alloc hB.size _).grown hg (by rw [World.size_alloc]; have := hB.size; omega) (fun k e => by cases e; simp; omega), ?_⟩
  have := hg.size
  rw [World.size_alloc] at this
  omega
theorem rput4 {w3 w7 wf : World} {n s g4 c4 g7 c7 k : Nat} {l : List Int} {x : Int} {vs0 : List Value} (h : RX L vs0 A c P w) (hn : L.length = n) (hs : l.length = s + 1) (hws : w.heap.size + 2 ≤ w3.heap.size)
    (hl : w7.ownsRow w3.heap.size 32 1 (.slice (some ⟨g7, 0, none⟩) (n + 1) c7) (n + 1) (vs0 ++ [.slice (some ⟨g4, 0, none⟩) (s + 1) c4])) (hi : w7.ownsRow w3.heap.size 3 1 (.slice (some ⟨g4, 0, none⟩) (s + 1) c4) (s + 1) ((l.set k x).map Mem.i64)) (hB : Below w.heap.size w wf)
    (hsz : w7.heap.size ≤ wf.heap.size) (hk : ∀ k, k ≠ w.heap.size → k ≠ w.heap.size + 1 → wf.heap[k]? = w7.heap[k]?) : RV (L ++ [l.set k x]) (some ⟨g7, 0, none⟩) c7 (fun k => P k ∨ (w.heap.size ≤ k ∧ k < wf.heap.size)) wf := by
  have own : ∀ {e : TypeId} {m g c : Nat} {xs : List Value}, w7.ownsRow w3.heap.size e 1 (.slice (some ⟨g, 0, none⟩) m c) m xs → wf.ownsRow w3.heap.size e 1 (.slice (some ⟨g, 0, none⟩) m c) m xs ∧ w3.heap.size ≤ g ∧ g < wf.heap.size := by
    intro e m g c xs ho
    have hb := own_base ho g rfl
    refine ⟨⟨ho.1, ?_⟩, hb, ?_⟩
    · rcases ho.2 with h2 | ⟨g', cap, cur, e1, h1, h2, h3⟩
      · exact .inl h2
      · cases e1
        exact .inr ⟨g, c, cur, rfl, h1, (hk g (by omega) (by omega)).trans h2, h3⟩
    · rcases ho.2 with ⟨h2, -⟩ | ⟨g', cap, cur, e1, h1, h2, h3⟩
      · cases h2
      · cases e1
        have := (Array.getElem?_eq_some_iff.1 h2).1
        omega
  obtain ⟨l1, l2, l3⟩ := own hl
  obtain ⟨i1, i2, i3⟩ := own hi
  refine ⟨_, RX.of_own (by rw [List.length_append, hn]; rfl) l1 (.inr ⟨by omega, l3⟩) (fun j m hm => ?_)⟩
  rcases Nat.lt_or_ge j n with hj | hj
  · rw [List.getElem?_append_left (by omega)] at hm
    obtain ⟨A', c', e1, h1⟩ := h.each j m hm
    exact ⟨A', c', by rw [List.getElem?_append_left (by rw [h.len]; omega)]; exact e1, (h1.below hB).mono fun k h => .inl h⟩
  · rw [List.getElem?_append_right (by omega)] at hm
    have hj0 : j = n := by
      have := (List.getElem?_eq_some_iff.1 hm).1
      simp at this
      omega
    subst hj0
    rw [hn, Nat.sub_self, List.getElem?_cons_zero] at hm
    cases hm
    refine ⟨_, _, ?_, LV.of_own (by rw [List.length_set]; exact hs) i1 (.inr ⟨by omega, i3⟩)⟩
    rw [List.getElem?_append_right (by rw [h.len]; omega), h.len, hn, Nat.sub_self, List.getElem?_cons_zero, List.length_set, hs]
set_option maxRecDepth 100000 in
set_option maxHeartbeats 4000000 in
theorem rset_new (h : RV L A c P w) (hP : ∀ k, P k → k < w.heap.size) (q : Nat) (l : List Int) (hq : L.length = q + 1) (hl : L[q]? = some l) (k : Nat) (was x : Int) (hk : l[k]? = some was) (hne : was ≠ x) (hL : L.length ≤ 1000) (hll : l.length ≤ 100000) :
    Calls Try.prog 10 #[.agg #[.slice A L.length c], .int .i64 (k : Int), .int .i64 x] w (fun e w' => (∃ A2 c2, e = .returned (.tuple #[.agg #[.slice A2 (L.length + 1) c2], .bool true]) ∧ RV (L ++ [l.set k x]) A2 c2 (fun k => P k ∨ (w.heap.size ≤ k ∧ k < w'.heap.size)) w') ∧ Below w.heap.size w w') := by
  have h2 := zero_B.1
  obtain ⟨i0, hi, hz0, hz1, hz2⟩ := info_parts info_int
  obtain ⟨j0, hj, jz0, jz1, jz2⟩ := info_parts info_ints
  have hkl := (List.getElem?_eq_some_iff.1 hk).1
  have hb := (below_box w (.cells #[.slice A L.length c] 30)).alloc (by simp) (.cells #[.slice none 0 0] 30)
  have bb := (Blk.new w 30 #[.slice A L.length c]).alloc (.cells #[.slice none 0 0] 30)
  have br := Blk.new (w.alloc (.cells #[.slice A L.length c] 30)) 30 #[.slice none 0 0]
  rw [World.size_alloc] at br
  have CN := hide (now_any (h.below hb) q l hq hl)
  obtain ⟨vs, h⟩ := h
  have H := hide h
  have HP := hide hP
  have HB := hide hb
  have HBB := hide bb
  have HBR := hide br
  have HX := hide hk
  obtain ⟨n, hn⟩ : ∃ n, L.length = n := ⟨_, rfl⟩
  obtain ⟨s, hs⟩ : ∃ s, l.length = s + 1 := ⟨l.length - 1, by omega⟩
  have HN := hide hn
  have HS := hide hs
  have HQ := hide (show n = q + 1 by rw [← hn]; exact hq)
  rw [hn] at CN HB HBB HBR hL ⊢
  rw [hs] at CN hkl hll
  clear h hb bb br hk hq hl hn hP hs
  go_enter Try.func10, Try.ntmps10
  go_wp2_with fail
  refine (unhide CN).mono ?_
  rintro e w3 ⟨⟨A5, c5, rfl, h5⟩, hb3⟩
  have H5 := hide h5
  obtain ⟨b5, rfl, -, hb5, hc5⟩ := h5.lies (by rw [unhide HS]; omega)
  have e5 := hc5 k was (unhide HX)
  have hbb := (unhide HBB).below hb3 (by simp; omega)
  have hbr := (unhide HBR).below hb3 (by simp)
  have b0 : w3.cell? ⟨w.heap.size, 0, none⟩ = some (.slice A n c) := hbb.cell 0
  have HBB3 := hide hbb
  have HBR3 := hide hbr
  have HB3 := hide ((unhide HB).trans (hb3.mono (by simp; omega)))
  have hsz3 : w.heap.size + 2 ≤ w3.heap.size := by have := hb3.size; simpa using this
  have d0 : decide ((k : Int) < 0) = false := by simp
  have d1 : decide (((s + 1 : Nat) : Int) ≤ (k : Int)) = false := by simp; omega
  have d2 : decide (s + 1 ≤ k) = false := by simp; omega
  have d3 : (k : Int) < ((s + 1 : Nat) : Int) := by omega
  have d4 : (was == x) = false := by simp [hne]
  have hrd := h5.cv.reads
  rw [unhide HS] at hrd
  have HRD := hide hrd
  have hmx : 0 + (s + 1) ≤ maxLen := by unfold maxLen; omega
  clear CN HBB HBR h5 hb3 hbb hbr HB hc5 hrd hne
  have hone := (unhide H).one
  have HONE := hide hone
  clear hone
  go_wp2_with (first | (at_builtin; refine wpList_append_any _ rfl (.tmp 29) (.tmp 30) 32 rfl w3.heap.size 3 i0 (.int .i64 0) 1 8 Try.underlying32 hi hz0 hz1 hz2 rfl (by decide) (.slice none 0 0) 0 [] rfl (World.ownsRow_nil _ _ _ _) w3.heap.size _ (s + 1) _ (l.map Mem.i64) rfl (unhide HRD) (one_i64 l) hmx (by omega) (Nat.le_refl _) ?_; intro v4 w4 ho4 hg4 hn4; obtain ⟨g4, c4, old, rfl, e4, f4, hi5, hbb5, hbr5, hB5, hs5, hg45⟩ := rput1 (x := x) (unhide HB3) hsz3 (unhide HBB3) (unhide HBR3) ho4 hg4 hkl; have b5 : (w4.setCell ⟨g4, k, none⟩ (.int .i64 x)).cell? ⟨w.heap.size, 0, none⟩ = some (.slice A n c) := hbb5.cell 0; have HI5 := hide hi5; have HBB5 := hide hbb5; have HBR5 := hide hbr5; have HB5 := hide hB5; have HS5 := hide hs5; have HR5 := hide (by have h := ((unhide H).below hB5).reads; rw [unhide HN] at h; exact h); clear ho4 hg4 hn4 hi5 hbb5 hbr5 hB5 hs5) | (at_builtin; refine wpList_append_any _ rfl (.tmp 36) (.tmp 38) 28 rfl w3.heap.size 32 j0 (.slice none 0 0) 1 24 Try.underlying28 hj jz0 jz1 jz2 rfl (by decide) (.slice none 0 0) 0 [] rfl (World.ownsRow_nil _ _ _ _) _ _ n _ vs rfl (unhide HR5) (unhide HONE) (by unfold maxLen; omega) (by omega) (unhide HS5) ?_; intro v6 w6 ho6 hg6 hn6; obtain ⟨g6, c6, rfl, hl6, hi6, hbb6, hbr6, hB6, hs6⟩ := rput2 (m := 0) (by have := unhide HQ; omega) (unhide HB5) (unhide HS5) (unhide HI5) (unhide HBB5) (unhide HBR5) ho6 hg6; have HL6 := hide hl6; have HI6 := hide hi6; have HBB6 := hide hbb6; have HBR6 := hide hbr6; have HB6 := hide hB6; have HS6 := hide hs6; clear ho6 hg6 hn6 hl6 hi6 hbb6 hbr6 hB6 hs6) | (at_builtin; refine wpList_append_any _ rfl (.tmp 40) (.tmp 42) 28 rfl w3.heap.size 32 j0 (.slice none 0 0) 1 24 Try.underlying28 hj jz0 jz1 jz2 rfl (by decide) _ n vs rfl ((unhide HL6).alloc _) _ _ 1 _ [_] rfl (reads_new1 _ _ _) (by simp [Value.oneCell']) (by unfold maxLen; omega) (by omega) (by rw [World.size_alloc]; have := unhide HS6; omega) ?_; intro v7 w7 ho7 hg7 hn7; obtain ⟨g7, c7, rfl, hl7, hi7, hbb7, hbr7, hB7, hs7⟩ := rput3 hsz3 (unhide HB6) (unhide HS6) (unhide HL6) (unhide HI6) (unhide HBB6) (unhide HBR6) ho7 hg7; have b7 : w7.cell? ⟨w.heap.size, 0, none⟩ = some (.slice A n c) := hbb7.cell 0; have f7 := hbb7.frozen 0; have HBB8 := hide (hbb7.set_ 0 (.slice (some ⟨g7, 0, none⟩) (n + 1) c7)); have hbr8 := hbr7.far (p := ⟨w.heap.size, 0, none⟩) (by simp) (.slice (some ⟨g7, 0, none⟩) (n + 1) c7); have b8 : (w7.setCell ⟨w.heap.size, 0, none⟩ (.slice (some ⟨g7, 0, none⟩) (n + 1) c7)).cell? ⟨w.heap.size + 1, 0, none⟩ = some (.slice none 0 0) := hbr8.cell 0; have f8 := hbr8.frozen 0; have HBR9 := hide (hbr8.set_ 0 (.slice (some ⟨g7, 0, none⟩) (n + 1) c7)); have HL7 := hide hl7; have HI7 := hide hi7; have HB7 := hide hB7; clear ho7 hg7 hn7 hl7 hi7 hbb7 hbr7 hbr8 hB7 hs7))
  have hbf : Below w.heap.size w ((w7.setCell ⟨w.heap.size, 0, none⟩ (.slice (some ⟨g7, 0, none⟩) (n + 1) c7)).setCell ⟨w.heap.size + 1, 0, none⟩ (.slice (some ⟨g7, 0, none⟩) (n + 1) c7)) := ((unhide HB7).setCell (p := ⟨w.heap.size, 0, none⟩) (Nat.le_refl _) _).setCell (p := ⟨w.heap.size + 1, 0, none⟩) (by simp) _
  refine bodyPost_ret (results_ct rfl _ _ (w.heap.size + 1) _ _ _ rfl rfl (unhide HBR9) Try.underlying30 rfl (by kernel_rfl)) rfl ⟨⟨some ⟨g7, 0, none⟩, c7, rfl, rput4 (unhide H) (unhide HN) (unhide HS) hsz3 (unhide HL7) (unhide HI7) hbf (by simp [World.setCell]) (fun j h1 h2 => ?_)⟩, hbf⟩
  exact (Below.heap_setCell _ ⟨w.heap.size + 1, 0, none⟩ _ j h2).trans (Below.heap_setCell _ ⟨w.heap.size, 0, none⟩ _ j h1)
theorem rset_any (h : RV L A c P w) (hP : ∀ k, P k → k < w.heap.size) (q : Nat) (l : List Int) (hq : L.length = q + 1) (hl : L[q]? = some l) (i x : Int) (hL : L.length ≤ 1000) (hll : l.length ≤ 100000) :
    Calls Try.prog 10 #[.agg #[.slice A L.length c], .int .i64 i, .int .i64 x] w (fun e w' => (∃ A2 c2, e = .returned (.tuple #[.agg #[.slice A2 (setL L l i x).length c2], .bool (hasB l i)]) ∧ RV (setL L l i x) A2 c2 (fun k => P k ∨ (w.heap.size ≤ k ∧ k < w'.heap.size)) w') ∧ Below w.heap.size w w') := by
  by_cases hb : hasB l i = true
  · obtain ⟨k, rfl, hk⟩ := has_nat hb
    obtain ⟨was, hw⟩ : ∃ was, l[k]? = some was := ⟨_, List.getElem?_eq_getElem hk⟩
    by_cases he : was = x
    · subst he
      have e : setL L l (k : Int) was = L := by unfold setL; rw [if_neg]; intro h; rw [Int.toNat_natCast] at h; exact h.2 hw
      rw [e, hb]
      exact rset_same h q l hq hl k was hw
    · have e : setL L l (k : Int) x = L ++ [l.set k x] := by
        unfold setL
        rw [if_pos ⟨hb, by rw [Int.toNat_natCast, hw]; intro h; exact he (Option.some.inj h)⟩, Int.toNat_natCast]
      rw [e, hb, List.length_append]
      exact rset_new h hP q l hq hl k was x hw he hL hll
  · have hf : hasB l i = false := by simpa using hb
    have e : setL L l i x = L := by unfold setL; rw [if_neg (fun h => hb h.1)]
    rw [e, hf]
    exact rset_out h q l hq hl i x hf
end
end Go.Proofs.Ytjnljhigaapalaa.Un
