/-
  The law's own 'of': a tree, node by node, as the reference has it: the same tree in new memory. Conditions: the tree lies in memory; it has at most 1,000 nodes, each with at most 1,000,000 ranges.
-/
import Derived.Test.YtckgbalmpddblaaDoorAsRefEnd
set_option linter.unusedVariables false
set_option linter.unusedSimpArgs false
namespace Go.Proofs.YtckgbalmpddblaaDoor.As
open Go.RowKit Go.Proofs.YtckgbalmpddblaaDoor.Mem Go.Proofs.YtckgbalmpddblaaDoor.Rs

theorem own_own_ne {W : World} {base base' e e' size size' n n' : Nat} {v v' : Value} {xs xs' : List Value} (h : W.ownsRow base e size v n xs) (h' : W.ownsRow base' e' size' v' n' xs') (hne : e ≠ e') : v.ownBlock = none ∨ v.ownBlock ≠ v'.ownBlock := by
  rcases h.2 with ⟨rfl, _⟩ | ⟨g, cap, cur, rfl, _, hh, _⟩
  · exact .inl (by simp [Value.ownBlock])
  · right
    rcases h'.2 with ⟨rfl, _⟩ | ⟨g', cap', cur', rfl, _, hh', _⟩
    · simp [Value.ownBlock]
    · intro e1
      have : g = g' := by simpa [Value.ownBlock] using e1
      subst this
      rw [hh] at hh'
      simp at hh'
      exact hne hh'.2
theorem own_lt {W : World} {base e size n : Nat} {v : Value} {xs : List Value} (h : W.ownsRow base e size v n xs) : ∀ g, v.ownBlock = some g → g < W.heap.size := by
  intro k hk
  rcases h.2 with ⟨rfl, _⟩ | ⟨g, cap, cur, rfl, hb, hh, _⟩
  · simp [Value.ownBlock] at hk
  · obtain rfl : g = k := by simpa [Value.ownBlock] using hk
    rcases Nat.lt_or_ge g W.heap.size with hlt | hge
    · exact hlt
    · rw [Array.getElem?_eq_none hge] at hh; cases hh

/-- a node's ten cells -/
def ndC (nd : Nd) (sv kv : Value) : Array Value := #[.int .i64 nd.kind, .int .i64 nd.from_, .int .i64 nd.to_, .int .i64 nd.num, .int .i64 nd.mn, .int .i64 nd.mx, .int .i64 nd.mode, str nd.name, sv, kv]
abbrev Cel := Nd × Value × Value
def celL (d : Cel) : List Value := (ndC d.1 d.2.1 d.2.2).toList
def celsL (D : List Cel) : List Value := D.flatMap celL
theorem celsL_len : ∀ D : List Cel, (celsL D).length = D.length * 10
  | [] => rfl
  | d :: D => by
    have h : celsL (d :: D) = celL d ++ celsL D := rfl
    rw [h, List.length_append, celsL_len D, List.length_cons]
    have : (celL d).length = 10 := rfl
    omega
theorem celsL_at : ∀ (D : List Cel) (k j : Nat) (d : Cel), D[k]? = some d → j < 10 → (celsL D)[k * 10 + j]? = (celL d)[j]?
  | [], k, j, d, h, _ => by simp at h
  | d0 :: D, 0, j, d, h, hj => by
    obtain rfl : d0 = d := by simpa using h
    have e : celsL (d0 :: D) = celL d0 ++ celsL D := rfl
    rw [e, List.getElem?_append_left (by show _ < 10; omega)]
    congr 1
    omega
  | d0 :: D, k + 1, j, d, h, hj => by
    have e : celsL (d0 :: D) = celL d0 ++ celsL D := rfl
    have h10 : (celL d0).length = 10 := rfl
    rw [e, List.getElem?_append_right (by omega), h10, show (k + 1) * 10 + j - 10 = k * 10 + j by omega]
    exact celsL_at D k j d (by simpa using h) hj
/-- THE NODES THAT ARE DONE: a row of the call's own; each has its ranges in a row of the call's own, its kids where they lay -/
def Done (base B : Nat) (D : List Cel) (v : Value) (w : World) : Prop :=
  w.ownsRow base 50 10 v D.length (celsL D) ∧ ∀ d ∈ D, w.ownsRow base 53 2 d.2.1 d.1.set.length (flat d.1.set) ∧ KidsV w B d.1.kids d.2.2
theorem Done.nil (base B : Nat) (w : World) : Done base B [] (.slice none 0 0) w := ⟨World.ownsRow_nil _ _ _ _, fun d hd => by cases hd⟩
theorem Done.below {base B : Nat} {D : List Cel} {v : Value} {w w' : World} (h : Done base B D v w) (hb : Below w.heap.size w w') (hB : B ≤ w.heap.size) : Done base B D v w' :=
  ⟨Rs.own_below h.1 hb, fun d hd => ⟨Rs.own_below (h.2 d hd).1 hb, (h.2 d hd).2.keep fun p hp => hb.cell (by omega)⟩⟩
theorem Done.app {base B : Nat} {D : List Cel} {v v' : Value} {w w' : World} {d : Cel} (h : Done base B D v w) (hbase : B ≤ base) (hB : B ≤ w.heap.size)
    (hs : w.ownsRow base 53 2 d.2.1 d.1.set.length (flat d.1.set)) (hk : KidsV w B d.1.kids d.2.2)
    (ho : w'.ownsRow base 50 10 v' (D.length + 1) (celsL D ++ celL d)) (hg : w.grownBy w' v.ownBlock) : Done base B (D ++ [d]) v' w' := by
  have hcell : ∀ p : Addr, p.block < B → w'.cell? p = w.cell? p := fun p hp => World.cell?_of_block (hg.block p.block (by omega) (fun e => by have := Rs.own_base h.1 _ e.symm; omega))
  refine ⟨?_, fun x hx => ?_⟩
  · rw [List.length_append, List.length_singleton]
    have e : celsL (D ++ [d]) = celsL D ++ celL d := by simp [celsL]
    rw [e]; exact ho
  · rcases List.mem_append.1 hx with hx | hx
    · exact ⟨(h.2 x hx).1.kept hg (own_own_ne (h.2 x hx).1 h.1 (by decide)), (h.2 x hx).2.keep hcell⟩
    · obtain rfl : x = d := by simpa using hx
      exact ⟨hs.kept hg (own_own_ne hs h.1 (by decide)), hk.keep hcell⟩
theorem Done.apart {base B : Nat} {D : List Cel} {v : Value} {w w' : World} {g : Nat} {T : TypeId} {cs : Array Value} (h : Done base B D v w) (hb : Blk w g T cs) (h1 : 50 ≠ T) (h2 : 53 ≠ T) (hg : B ≤ g) (hw : w.grownBy w' (some g)) : Done base B D v w' :=
  ⟨h.1.kept hw (.inr (own_blk_ne h.1 hb h1)), fun d hd => ⟨(h.2 d hd).1.kept hw (.inr (own_blk_ne (h.2 d hd).1 hb h2)), (h.2 d hd).2.keep fun p hp => by
    rcases Nat.lt_or_ge p.block w.heap.size with hl | hl
    · exact World.cell?_of_block (hw.block p.block hl (fun e => by injection e with e; omega))
    · have := hb.lt; omega⟩⟩
theorem own_set {W : World} {base e : Nat} {v : Value} {l : List R} (h : W.ownsRow base e 2 v l.length (flat l)) : SetV W W.heap.size l v := by
  obtain ⟨A, cap, rfl, hl, hc, hm⟩ := own_lst2 h
  exact ⟨A, cap, rfl, hc, by unfold maxLen at hm; omega, hl⟩
theorem KidsV.more {w : World} {B B' : Nat} {l : List Int} {v : Value} (h : KidsV w B l v) (hB : B ≤ B') : KidsV w B' l v := by
  obtain ⟨A, cap, h1, h2, h3, h4⟩ := h
  exact ⟨A, cap, h1, h2, h3, h4.more hB⟩
theorem NamesV.more {w : World} {B B' : Nat} {l : List (List UInt8)} {v : Value} (h : NamesV w B l v) (hB : B ≤ B') : NamesV w B' l v := by
  obtain ⟨A, cap, h1, h2, h3, h4⟩ := h
  refine ⟨A, cap, h1, h2, h3, fun hn => ?_⟩
  obtain ⟨b, off, e, hb, hc⟩ := h4 hn
  exact ⟨b, off, e, by omega, hc⟩
theorem SetV.more {w : World} {B B' : Nat} {l : List R} {v : Value} (h : SetV w B l v) (hB : B ≤ B') : SetV w B' l v := by
  obtain ⟨A, cap, h1, h2, h3, h4⟩ := h
  exact ⟨A, cap, h1, h2, h3, h4.more hB⟩
theorem NodesV.more {w : World} {B B' : Nat} {l : List Nd} {v : Value} (h : NodesV w B l v) (hB : B ≤ B') : NodesV w B' l v := by
  obtain ⟨A, cap, h1, h2, h3, h4⟩ := h
  refine ⟨A, cap, h1, h2, h3, fun hn => ?_⟩
  obtain ⟨b, off, e, hb, hc⟩ := h4 hn
  refine ⟨b, off, e, by omega, fun k nd hk => ?_⟩
  obtain ⟨c0, c1, c2, c3, c4, c5, c6, c7, ⟨v8, c8, c8'⟩, v9, c9, c9'⟩ := hc k nd hk
  exact ⟨c0, c1, c2, c3, c4, c5, c6, c7, ⟨v8, c8, c8'.more hB⟩, v9, c9, c9'.more hB⟩
theorem TreeV.more {w : World} {B B' : Nat} {t : Tr} {v : Value} (h : TreeV w B t v) (hB : B ≤ B') : TreeV w B' t v := by
  obtain ⟨a, c, h1, h2, h3⟩ := h
  exact ⟨a, c, h1, h2.more hB, h3.more hB⟩
/-- cells that are nodes, in a row -/
theorem cells_nodes {w : World} {B g cap : Nat} {D : List Cel} (hB : g < B) (hcap : D.length ≤ cap) (hm : cap ≤ 9223372036854775807) (hc : ∀ j u, (celsL D)[j]? = some u → w.cell? ((⟨g, 0, none⟩ : Addr).add j) = some u) (hD : ∀ d ∈ D, SetV w B d.1.set d.2.1 ∧ KidsV w B d.1.kids d.2.2) : NodesV w B (D.map (·.1)) (.slice (some ⟨g, 0, none⟩) D.length cap) := by
  refine ⟨some ⟨g, 0, none⟩, cap, by simp, by simpa using hcap, hm, fun hl => ⟨g, 0, rfl, hB, fun k nd hk => ?_⟩⟩
  rw [List.getElem?_map] at hk
  obtain ⟨d, hd, rfl⟩ := Option.map_eq_some_iff.1 hk
  have hmm := List.mem_of_getElem? hd
  have key : ∀ j u, j < 10 → (celL d)[j]? = some u → w.cell? ⟨g, 0 + k * 10 + j, none⟩ = some u := by
    intro j u hj hu
    have := hc (k * 10 + j) u ((celsL_at D k j d hd hj).trans hu)
    rwa [add_flat, ← Nat.add_assoc] at this
  exact ⟨key 0 _ (by omega) rfl, key 1 _ (by omega) rfl, key 2 _ (by omega) rfl, key 3 _ (by omega) rfl, key 4 _ (by omega) rfl, key 5 _ (by omega) rfl, key 6 _ (by omega) rfl, key 7 _ (by omega) rfl,
    ⟨_, key 8 _ (by omega) rfl, (hD d hmm).1⟩, _, key 9 _ (by omega) rfl, (hD d hmm).2⟩
theorem Done.nodes {base B : Nat} {D : List Cel} {v : Value} {w : World} (h : Done base B D v w) (hB : B ≤ w.heap.size) : NodesV w w.heap.size (D.map (·.1)) v := by
  rcases h.1.2 with ⟨rfl, hn⟩ | ⟨g, cap, cur, rfl, hb, hh, hnc, hcm, hcs, ht⟩
  · exact ⟨none, 0, by simp [hn], by simp [hn], by omega, fun hl => by simp at hl; omega⟩
  · refine ⟨some ⟨g, 0, none⟩, cap, by simp, by simpa using hnc, by unfold maxLen at hcm; omega, fun hl => ⟨g, 0, rfl, ?_, fun k nd hk => ?_⟩⟩
    · exact own_lt h.1 g rfl
    · rw [List.getElem?_map] at hk
      obtain ⟨d, hd, rfl⟩ := Option.map_eq_some_iff.1 hk
      have hm := List.mem_of_getElem? hd
      have hc := h.1.cells (g := g) rfl
      have key : ∀ j u, j < 10 → (celL d)[j]? = some u → w.cell? ⟨g, 0 + k * 10 + j, none⟩ = some u := by
        intro j u hj hu
        have := hc (k * 10 + j) u ((celsL_at D k j d hd hj).trans hu)
        rwa [add_flat, ← Nat.add_assoc] at this
      exact ⟨key 0 _ (by omega) rfl, key 1 _ (by omega) rfl, key 2 _ (by omega) rfl, key 3 _ (by omega) rfl, key 4 _ (by omega) rfl, key 5 _ (by omega) rfl, key 6 _ (by omega) rfl, key 7 _ (by omega) rfl,
        ⟨_, key 8 _ (by omega) rfl, own_set (h.2 d hm).1⟩, _, key 9 _ (by omega) rfl, (h.2 d hm).2.more hB⟩

theorem info_N : (Tryd.prog.info? 50).map (fun i => (i.zero, i.size, i.bytes)) = some (some (.agg #[.int .i64 0, .int .i64 0, .int .i64 0, .int .i64 0, .int .i64 0, .int .i64 0, .int .i64 0, .string ⟨#[]⟩, .slice none 0 0, .slice none 0 0]), 10, 120) := by kernel_rfl
theorem info_R : (Tryd.prog.info? 53).map (fun i => (i.zero, i.size, i.bytes)) = some (some (.agg #[.int .i64 0, .int .i64 0]), 2, 16) := by kernel_rfl
end Go.Proofs.YtckgbalmpddblaaDoor.As
