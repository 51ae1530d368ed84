/-
  The law's own 'of', walked: the same tree in new memory. Conditions: the tree lies in memory; it has at most 1,000 nodes, each with at most 1,000,000 ranges.
-/
import Derived.Test.YtckgbalmpddblaaDoorAsOf
import Derived.Laws.Tables
set_option linter.unusedVariables false
set_option linter.unusedSimpArgs false
namespace Go.Proofs.YtckgbalmpddblaaDoor.As
open Go.RowKit Go.Proofs.YtckgbalmpddblaaDoor.Mem Go.Proofs.YtckgbalmpddblaaDoor.Rs

/-- the outer loop: k nodes are done -/
def ORel (L : List Nd) (w W : World) (B : Nat) (v i : Value) (wr : World) : Prop := ∃ (k : Nat) (D : List Cel), i = .int .i64 k ∧ k ≤ L.length ∧ D.length = k ∧ D.map (·.1) = L.take k ∧ Done W.heap.size B D v wr ∧ Below W.heap.size W wr
/-- the inner loop: j ranges of the node are done; the box mb has the ten cells -/
def IRel (nd : Nd) (kv : Value) (R0 : World) (mb : Nat) (i : Value) (wr : World) : Prop := ∃ (j : Nat) (sv : Value), i = .int .i64 j ∧ j ≤ nd.set.length ∧ Blk wr mb 50 (ndC nd sv kv) ∧ wr.ownsRow R0.heap.size 53 2 sv j (flat (nd.set.take j)) ∧ Below R0.heap.size R0 wr

theorem build_N (a b c d e f g : Int) (s : ByteArray) (A : Option Addr) (n k : Nat) (w : World) : Sem.run Tryd.prog (Instr.build 50 #[(0, .int .i64 a), (1, .int .i64 b), (2, .int .i64 c), (3, .int .i64 d), (4, .int .i64 e), (5, .int .i64 f), (6, .int .i64 g), (7, .string s), (9, .slice A n k)]) w = .ok (.agg #[.int .i64 a, .int .i64 b, .int .i64 c, .int .i64 d, .int .i64 e, .int .i64 f, .int .i64 g, .string s, .slice none 0 0, .slice A n k]) w := run_build w 50 _ _ (by kernel_rfl)
theorem build_T (A C : Option Addr) (n k m c : Nat) (g : Int) (w : World) : Sem.run Tryd.prog (Instr.build 29 #[(0, .slice A n k), (1, .int .i64 g), (2, .slice C m c)]) w = .ok (.agg #[.slice A n k, .int .i64 g, .slice C m c]) w := run_build w 29 _ _ (by kernel_rfl)
attribute [local go_sem] build_N build_T

set_option maxRecDepth 100000 in
set_option maxHeartbeats 4000000 in
theorem of_any (t : Tr) (v : Value) (B : Nat) (hlen : t.nodes.length ≤ 1000) (hset : ∀ nd ∈ t.nodes, nd.set.length ≤ 1000000) (w : World) (hB : B ≤ w.heap.size) (hT : TreeV w B t v) :
    Calls Tryd.prog 8 #[v] w fun e w' => ∃ v', e = .returned v' ∧ TreeV w' w'.heap.size t v' ∧ Below w.heap.size w w' := by
  obtain ⟨a, c, rfl, ⟨A, cap, rfl, hc1, hc2, hn⟩, hns⟩ := hT
  have HN := hide hn
  have HNS := hide hns
  have HSET := hide hset
  obtain ⟨iN, hiN, hzN0, hzN1, hzN2⟩ := info_parts info_N
  obtain ⟨iR, hiR, hzR0, hzR1, hzR2⟩ := info_parts info_R
  clear hn hns hset
  go_enter Tryd.func8, Tryd.ntmps8
  go_wp2_with fail
  go_loopw [3, 12] (fun x i wr => ORel t.nodes w ((w.alloc (.cells #[.slice A t.nodes.length cap, .int .i64 t.groups, c] 25)).alloc (.cells #[.slice none 0 0, .int .i64 0, .slice none 0 0] 29)) B x i wr) (fun _ i _ => t.nodes.length - (intOf i).toNat)
  case atStart => exact ⟨0, [], rfl, by omega, rfl, rfl, Done.nil _ _ _, Below.refl _ _⟩
  case round =>
    obtain ⟨k, D, rfl, hk, hDl, hDm, hD, hb⟩ := hrel
    go_hideQ
    have HD := hide hD
    have HB := hide hb
    have HDM := hide hDm
    have HDL := hide hDl
    have hb0 : Below w.heap.size w wr := (((Below.refl w.heap.size w).alloc (Nat.le_refl _) _).alloc (by simp) _).trans (hb.mono (by simp; omega))
    have HB0 := hide hb0
    clear hD hb hDm hDl hb0
    by_cases hlt : k < t.nodes.length
    · have hki : (k : Int) < (t.nodes.length : Int) := by omega
      obtain ⟨nd, hnd⟩ : ∃ nd, t.nodes[k]? = some nd := ⟨_, List.getElem?_eq_getElem hlt⟩
      obtain ⟨b, off, rfl, hbb, hcs⟩ := (unhide HN) (by omega)
      obtain ⟨h0, h1, h2, h3, h4, h5, h6, h7, ⟨v8, h8, A8, cap8, rfl, h81, h82, h8s⟩, v9, h9, A9, cap9, rfl, h91, h92, h9k⟩ := hcs k nd hnd
      have hset1 := (unhide HSET) nd (List.mem_of_getElem? hnd)
      have up : ∀ j u, w.cell? ⟨b, off + k * 10 + j, none⟩ = some u → wr.cell? ⟨b, off + k * 10 + j, none⟩ = some u := fun j u h => ((unhide HB0).cell (p := ⟨b, off + k * 10 + j, none⟩) (by show b < w.heap.size; omega)).trans h
      have d0 : wr.cell? ⟨b, off + k * 10, none⟩ = some (.int .i64 nd.kind) := up 0 _ h0
      have d1 := up 1 _ h1
      have d2 := up 2 _ h2
      have d3 := up 3 _ h3
      have d4 := up 4 _ h4
      have d5 := up 5 _ h5
      have d6 := up 6 _ h6
      have d7 := up 7 _ h7
      have d8 := up 8 _ h8
      have d9 := up 9 _ h9
      have HK9 := hide (KidsV.keep (w' := wr) ⟨A9, cap9, rfl, h91, h92, h9k⟩ fun p hp => (unhide HB0).cell (by omega))
      have HL8 := hide ((h8s.keep (w' := wr) fun p hp => (unhide HB0).cell (by omega)).more (show B ≤ wr.heap.size by have := (unhide HB0).size; omega))
      have HND := hide hnd
      clear hcs h0 h1 h2 h3 h4 h5 h6 h7 h8 h8s h9 h9k up hnd hbb
      go_wp2_with fail
      obtain ⟨wo, rfl⟩ : ∃ wo : World, wo = wr := ⟨_, rfl⟩
      go_loopw [38] (fun i wx => IRel nd (.slice A9 nd.kids.length cap9) wo (wo.heap.size + 1) i wx) (fun i _ => nd.set.length - (intOf i).toNat)
      case atStart =>
        refine ⟨0, .slice none 0 0, rfl, by omega, ?_, World.ownsRow_nil _ _ _ _, ((Below.refl _ _).alloc (Nat.le_refl _) _).alloc (by simp) _⟩
        have hbk := Blk.new (wo.alloc (.cells #[.int .i64 nd.kind, .int .i64 nd.from_, .int .i64 nd.to_, .int .i64 nd.num, .int .i64 nd.mn, .int .i64 nd.mx, .int .i64 nd.mode, str nd.name, .slice A8 nd.set.length cap8, .slice A9 nd.kids.length cap9] 42)) 50 (ndC nd (.slice none 0 0) (.slice A9 nd.kids.length cap9))
        rw [World.size_alloc] at hbk
        exact hbk
      case round =>
        obtain ⟨j, sv, rfl, hj, hbk, hsv, hbx⟩ := hrel
        go_hideQ
        have HSV := hide hsv
        have HBX := hide hbx
        have HBK := hide hbk
        have e8 : wr.cell? ⟨wo.heap.size + 1, 8, none⟩ = some sv := hbk.cell 8
        have hbl := hbk.lt
        clear hsv hbx
        by_cases hjl : j < nd.set.length
        · have hji : (j : Int) < (nd.set.length : Int) := by omega
          obtain ⟨r, hr⟩ : ∃ r, nd.set[j]? = some r := ⟨_, List.getElem?_eq_getElem hjl⟩
          obtain ⟨bs, os, rfl, hbs, hcs⟩ := ((unhide HL8).below (unhide HBX)) (by omega)
          have r0 := (hcs j r hr).1
          have r1 := (hcs j r hr).2
          have HTK := hide (show flat (nd.set.take (j + 1)) = flat (nd.set.take j) ++ (#[.int .i64 r.1, .int .i64 r.2] : Array Value).toList by
            obtain ⟨hk', e⟩ := List.getElem?_eq_some_iff.1 hr
            rw [List.take_succ_eq_append_getElem hk', flat_append, e]; rfl)
          have hmx : j + 1 ≤ maxLen := by unfold maxLen; omega
          have hone : ∀ u ∈ (#[.int .i64 r.1, .int .i64 r.2] : Array Value).toList, u.oneCell' = true := by simp [Value.oneCell']
          clear hcs hr hbs hbk
          go_wp2_with (at_builtin; refine wpList_append_any _ rfl (.tmp 43) (.tmp 45) 48 rfl wo.heap.size 53 iR (.agg #[.int .i64 0, .int .i64 0]) 2 16 Tryd.underlying48 hiR hzR0 hzR1 hzR2 rfl (by decide) _ j _ rfl (((unhide HSV).alloc _).alloc _) _ _ 1 1 _ rfl (reads_at (by rw [World.size_alloc]) #[.int .i64 r.1, .int .i64 r.2] 53 1 2 rfl) hone hmx (by omega) (by rw [World.size_alloc, World.size_alloc]; omega) ?_; intro v5 w5 ho5 hg5 hn5; obtain ⟨A5, c5, rfl, -, -⟩ := own_reads ho5; have hb5 := Rs.below_app (below_al (unhide HBX) (unhide HBX).size _) ((unhide HSV).alloc _) hg5; have bk5 := (((unhide HBK).alloc _).alloc _).grown hg5 (fun e => own_blk_ne (unhide HSV) (unhide HBK) (by decide) e.symm); have g8 : w5.cell? ⟨wo.heap.size + 1, 8, none⟩ = some sv := bk5.cell 8; have f8 := bk5.frozen 8; have HO5 := hide ho5; have HB5 := hide hb5; have HBK5 := hide bk5; clear ho5 hg5 hn5 hb5 bk5)
          have hR : IRel nd (.slice A9 nd.kids.length cap9) wo (wo.heap.size + 1) (.int .i64 ((j : Int) + 1)) (w5.setCell ⟨wo.heap.size + 1, 8, none⟩ (.slice A5 (j + 1) c5)) := by
            refine ⟨j + 1, .slice A5 (j + 1) c5, by go_num, by omega, (unhide HBK5).set_ 8 (.slice A5 (j + 1) c5), ?_, (unhide HB5).setCell (by simp) _⟩
            rw [unhide HTK]
            exact (unhide HO5).kept (only_setCell (World.grownBy.refl _ _) (.inl rfl) _) (.inr (own_blk_ne (unhide HO5) (unhide HBK5) (by decide)))
          exact ⟨hR, by simp [intOf]; omega⟩
        · have hji : (nd.set.length : Int) ≤ (j : Int) := by omega
          obtain rfl : j = nd.set.length := by omega
          have HSV2 : Hid (wr.ownsRow wo.heap.size 53 2 sv nd.set.length (flat nd.set)) := hide (by have h := unhide HSV; rwa [List.take_length] at h)
          obtain ⟨A7, c7, rfl, -, -⟩ := own_reads (unhide HSV)
          have e0 : wr.cell? ⟨wo.heap.size + 1, 0, none⟩ = some (.int .i64 nd.kind) := hbk.cell 0
          have e1 : wr.cell? ⟨wo.heap.size + 1, 1, none⟩ = some (.int .i64 nd.from_) := hbk.cell 1
          have e2 : wr.cell? ⟨wo.heap.size + 1, 2, none⟩ = some (.int .i64 nd.to_) := hbk.cell 2
          have e3 : wr.cell? ⟨wo.heap.size + 1, 3, none⟩ = some (.int .i64 nd.num) := hbk.cell 3
          have e4 : wr.cell? ⟨wo.heap.size + 1, 4, none⟩ = some (.int .i64 nd.mn) := hbk.cell 4
          have e5 : wr.cell? ⟨wo.heap.size + 1, 5, none⟩ = some (.int .i64 nd.mx) := hbk.cell 5
          have e6 : wr.cell? ⟨wo.heap.size + 1, 6, none⟩ = some (.int .i64 nd.mode) := hbk.cell 6
          have e7 : wr.cell? ⟨wo.heap.size + 1, 7, none⟩ = some (str nd.name) := hbk.cell 7
          have e9 : wr.cell? ⟨wo.heap.size + 1, 9, none⟩ = some (.slice A9 nd.kids.length cap9) := hbk.cell 9
          have hBo := (unhide HB0).size
          have HD2 := hide ((unhide HD).below (unhide HBX) (by omega))
          have hDl := unhide HDL
          have hmx : D.length + 1 ≤ maxLen := by unfold maxLen; omega
          have hone : ∀ u ∈ (ndC nd (.slice A7 nd.set.length c7) (.slice A9 nd.kids.length cap9)).toList, u.oneCell' = true := by simp [ndC, Value.oneCell']
          have hsz := (unhide HBX).size
          have hDn : D.length ≤ 1000 := by omega
          have hwsz := Nat.le_trans (unhide HB).size hsz
          have hwo := (unhide HB0).size
          have HWSZ := hide hwsz
          have HBA := hide (below_al (Below.refl wr.heap.size wr) (Nat.le_refl _) (.cells (ndC nd (.slice A7 nd.set.length c7) (.slice A9 nd.kids.length cap9)) 50))
          clear hbk hDl hBo
          clear hwsz
          go_wp2_with (at_builtin; refine wpList_append_any _ rfl (.tmp 49) (.tmp 51) 27 rfl _ 50 iN (.agg #[.int .i64 0, .int .i64 0, .int .i64 0, .int .i64 0, .int .i64 0, .int .i64 0, .int .i64 0, .string ⟨#[]⟩, .slice none 0 0, .slice none 0 0]) 10 120 Tryd.underlying27 hiN hzN0 hzN1 hzN2 rfl (by decide) _ D.length _ rfl ((unhide HD2).1.alloc _) _ _ 1 1 _ rfl (reads_at rfl (ndC nd (.slice A7 nd.set.length c7) (.slice A9 nd.kids.length cap9)) 50 1 10 rfl) hone hmx (by omega) (Nat.le_trans (unhide HWSZ) (by rw [World.size_alloc]; exact Nat.le_succ _)) ?_; intro v5 w5 ho5 hg5 hn5; have HO5 := hide ho5; have HG5 := hide hg5; clear ho5 hg5 hn5)
          have hR : ORel t.nodes w ((w.alloc (.cells #[.slice (some ⟨b, off, none⟩) t.nodes.length cap, .int .i64 t.groups, c] 25)).alloc (.cells #[.slice none 0 0, .int .i64 0, .slice none 0 0] 29)) B v5 (.int .i64 ((k : Int) + 1)) w5 := by
            refine ⟨k + 1, D ++ [(nd, .slice A7 nd.set.length c7, .slice A9 nd.kids.length cap9)], by go_num, by omega, by rw [List.length_append, unhide HDL]; rfl, ?_, ?_, ?_⟩
            · rw [List.map_append, unhide HDM]
              obtain ⟨hk', e⟩ := List.getElem?_eq_some_iff.1 (unhide HND)
              rw [List.take_succ_eq_append_getElem hk', e]; rfl
            · refine Done.app (w := wr.alloc (.cells (ndC nd (.slice A7 nd.set.length c7) (.slice A9 nd.kids.length cap9)) 50)) ((unhide HD2).below (unhide HBA) (by omega)) (by simp only [World.size_alloc]; omega) (by simp only [World.size_alloc]; omega) ((own_lower (unhide HSV2) (unhide HB).size).alloc _) (((unhide HK9).keep fun p hp => (unhide HBX).cell (by omega)).keep fun p hp => (unhide HBA).cell (by omega)) (unhide HO5) (unhide HG5)
            · exact Rs.below_app ((unhide HB).trans ((unhide HBX).mono (unhide HB).size)) (unhide HD2).1 (unhide HG5)
          go_roundw
          case rel => exact hR
          case measure => simp [intOf]; omega
    · have hki : (t.nodes.length : Int) ≤ (k : Int) := by omega
      obtain rfl : k = t.nodes.length := by omega
      have bk1 := ((Blk.new w 25 #[.slice A t.nodes.length cap, .int .i64 t.groups, c]).alloc (.cells #[.slice none 0 0, .int .i64 0, .slice none 0 0] 29)).below (unhide HB) (by simp; omega)
      have bk2 := (Blk.new (w.alloc (.cells #[.slice A t.nodes.length cap, .int .i64 t.groups, c] 25)) 29 #[.slice none 0 0, .int .i64 0, .slice none 0 0]).below (unhide HB) (by simp)
      rw [World.size_alloc] at bk2
      have c1 := bk1.cell 1
      have c2 := bk1.cell 2
      have f0 := bk2.frozen 0
      have f1 := bk2.frozen 1
      have f2 := bk2.frozen 2
      have d0 := bk2.cell 0
      have d1 := bk2.cell 1
      have d2 := bk2.cell 2
      obtain ⟨A7, c7, rfl, -, -⟩ := own_reads (unhide HD).1
      obtain ⟨An, cn, rfl, hn1, hn2, hn3⟩ := unhide HNS
      have hDl := unhide HDL
      rw [hDl]
      have bk3 := ((bk2.set_ 0 (.slice A7 t.nodes.length c7)).set_ 1 (.int .i64 t.groups)).set_ 2 (.slice An t.names.length cn)
      have E0 := hide (bk3.cell 0)
      have E1 := hide (bk3.cell 1)
      have E2 := hide (bk3.cell 2)
      have hbb := (((unhide HB0).setCell (p := ⟨w.heap.size + 1, 0, none⟩) (by simp) (.slice A7 t.nodes.length c7)).setCell (p := ⟨w.heap.size + 1, 1, none⟩) (by simp) (.int .i64 t.groups)).setCell (p := ⟨w.heap.size + 1, 2, none⟩) (by simp) (.slice An t.names.length cn)
      have hgg := only_setCell (p := ⟨w.heap.size + 1, 2, none⟩) (only_setCell (p := ⟨w.heap.size + 1, 1, none⟩) (only_setCell (p := ⟨w.heap.size + 1, 0, none⟩) (World.grownBy.refl wr (some (w.heap.size + 1))) (.inl rfl) (.slice A7 t.nodes.length c7)) (.inl rfl) (.int .i64 t.groups)) (.inl rfl) (.slice An t.names.length cn)
      have HBB := hide hbb
      have HGG := hide hgg
      have HBT := hide bk2
      clear hDl bk1 bk2 bk3 hbb hgg hn3
      go_wp2_with fail
      have e0 := unhide E0
      have e1 := unhide E1
      have e2 := unhide E2
      refine bodyPost_ret (v := .agg #[.slice A7 t.nodes.length c7, .int .i64 t.groups, .slice An t.names.length cn]) (by simp [results, Tryd.results8, go_sem, e0, e1, e2]) rfl ?_
      refine ⟨_, rfl, ⟨_, _, rfl, ?_, ?_⟩, unhide HBB⟩
      · have hd := ((unhide HD).apart (unhide HBT) (by decide) (by decide) (by have := hB; omega) (unhide HGG)).nodes (by have := (unhide HBB).size; omega)
        rw [unhide HDM, List.take_length, unhide HDL] at hd
        exact hd
      · exact ((unhide HNS).keep fun p hp => (unhide HBB).cell (by omega)).more (by have := (unhide HBB).size; omega)
end Go.Proofs.YtckgbalmpddblaaDoor.As
