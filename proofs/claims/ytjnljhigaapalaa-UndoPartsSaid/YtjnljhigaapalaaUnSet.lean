/-
  Set of a book, walked. Condition: at most 1000 changes so far.
-/
import Derived.Test.YtjnljhigaapalaaUnSmall
set_option linter.unusedVariables false
set_option linter.unusedSimpArgs false
namespace Go.Proofs.Ytjnljhigaapalaa.Un
open Go.RowKit Go.Proofs.Ytjnljhigaapalaa.Mem
open Go.Proofs.Ytjnljhigaapalaa.Ev (intA own_reads own_below ret_b run_not_true run_not_false below_box)
theorem info_ch : (Try.prog.info? 54).map (fun i => (i.zero, i.size, i.bytes)) = some (some (.agg #[.int .i64 0, .int .i64 0]), 2, 16) := by kernel_rfl
theorem build_ch (i x : Int) (w : World) : Sem.run Try.prog (Instr.build 54 #[(0, .int .i64 i), (1, .int .i64 x)]) w = .ok (.agg #[.int .i64 i, .int .i64 x]) w := run_build w 54 _ _ (by kernel_rfl)
theorem reads_new2 (W : World) (a b : Value) (t : TypeId) : Reads (W.alloc (.cells #[a, b] t)) (W.heap.size + 1) 2 (some ⟨W.heap.size, 0, none⟩) 1 [a, b] := by
  refine ⟨rfl, fun _ => ⟨_, rfl, by simp, fun j u hj => ?_⟩⟩
  rw [add_flat, Nat.zero_add, World.cell?_alloc_new]
  simpa using hj
section
variable {K : Nat → Prop} {base bb nb : Nat} {tv : Value} {ns : List Int} {tr : List Ch} {w : World}
theorem wp_app_ch {ops : Array Oper} {rest : List Oper} {o : Oper} {a : Act} {Q : Exit → Act → World → Prop} {so sn : Tmp} {i : Nat} {x : Int} {g : Nat}
    (h : BX K base bb nb tv ns tr w) (hi : i < ns.length) (hl : tr.length ≤ 1000) (hgd : o.guard = none) (ho : o.op = .call { callee := .builtin .append, args := #[.tmp so, .tmp sn], argTypes := #[50, 50] })
    (hs : a.eval (.tmp so) = tv) (hx : a.eval (.tmp sn) = .slice (some ⟨g, 0, none⟩) 1 1) (hg : g = w.heap.size)
    (hK : ∀ g5 c5 w', BX K base bb nb (.slice (some ⟨g5, 0, none⟩) (tr.length + 1) c5) ns (tr ++ [(i, x)]) (w'.setCell ⟨bb, 1, none⟩ (.slice (some ⟨g5, 0, none⟩) (tr.length + 1) c5)) → Keep K w w' → Blk w' bb 52 #[.slice (some ⟨nb, 0, none⟩) ns.length ns.length, tv] → wpList Try.prog ops Q rest (a.put o.dst (.slice (some ⟨g5, 0, none⟩) (tr.length + 1) c5)) w') :
    wpList Try.prog ops Q (o :: rest) a (w.alloc (.cells #[.int .i64 (i : Int), .int .i64 x] 54)) := by
  subst hg
  obtain ⟨i0, hi0, hz0, hz1, hz2⟩ := info_parts info_ch
  have hbs := h.base_size
  have hA := h.below (below_box w (.cells #[.int .i64 (i : Int), .int .i64 x] 54))
  refine wpList_append_any _ hgd (.tmp so) (.tmp sn) 50 ho base 54 i0 (.agg #[.int .i64 0, .int .i64 0]) 2 16 Try.underlying50 hi0 hz0 hz1 hz2 rfl (by decide) tv tr.length (flat tr) hs hA.trail (w.heap.size + 1) (some ⟨w.heap.size, 0, none⟩) 1 1 [.int .i64 (i : Int), .int .i64 x] hx (reads_new2 w _ _ _) (by simp [Value.oneCell']) (by unfold maxLen; omega) (by omega) (by rw [World.size_alloc]; omega) ?_
  intro tv' w' ho' hg' hn'
  have hbox : Blk w' bb 52 #[.slice (some ⟨nb, 0, none⟩) ns.length ns.length, tv] := hA.box.grown hg' (fun e => hA.tb_ne e.symm)
  have hnum : Blk w' nb 3 (intA ns) := hA.nums.grown hg' (fun e => hA.tn_ne e.symm)
  have hkp : Keep K w w' := ((Keep.refl K w).alloc h.hi _).trans (Keep.of_grown hg' hA.hi (fun g e => h.kt g e))
  obtain ⟨g5, c5, rfl⟩ := ownsRow_succ ho'
  refine hK g5 c5 w' ?_ hkp hbox
  have e1 : flat tr ++ [.int .i64 (i : Int), .int .i64 x] = flat (tr ++ [(i, x)]) := by rw [flat_app]; rfl
  rw [e1] at ho'
  refine ⟨hbox.set_ 1 _, hnum.far (p := ⟨bb, 1, none⟩) (fun e => h.nb_ne e.symm) _, ownsRow_setCell_other (by rw [List.length_append]; exact ho') (a := ⟨bb, 1, none⟩) (own_blk_ne ho' hbox (by decide)) _, h.kb, h.kn, fun g e => ?_, fun c hc => ?_, h.lo, fun k hk => ?_, h.small⟩
  · rcases hn' with e2 | e2
    · exact h.kt g (e2.symm.trans e)
    · intro hk
      have := h.hi g hk
      rw [e2] at e
      injection e with e
      rw [World.size_alloc] at e
      omega
  · rcases List.mem_append.1 hc with h1 | h1
    · exact h.places c h1
    · obtain rfl := List.mem_singleton.1 h1
      exact hi
  · have := Nat.lt_of_lt_of_le (h.hi k hk) hkp.size
    simpa [World.setCell] using this
attribute [local go_sem] build_ch
set_option maxHeartbeats 1000000 in
theorem set_out (h : BX K base bb nb tv ns tr w) (i x : Int) (hi : hasB ns i = false) : Calls Try.prog 9 #[.pointer (some ⟨bb, 0, none⟩), .int .i64 i, .int .i64 x] w fun e w' => e = .returned (.bool false) ∧ w' = w := by
  have C := hide (has_any h i)
  rw [hi] at C
  clear h hi
  go_enter Try.func9, Try.ntmps9
  go_wp2_with fail
  refine (unhide C).mono ?_
  rintro e w1 ⟨rfl, rfl⟩
  go_wp2
  go_ret
  exact ⟨rfl, rfl⟩
set_option maxHeartbeats 1000000 in
theorem set_same_ (h : BX K base bb nb tv ns tr w) (k : Nat) (x : Int) (hx : ns[k]? = some x) : Calls Try.prog 9 #[.pointer (some ⟨bb, 0, none⟩), .int .i64 (k : Int), .int .i64 x] w fun e w' => e = .returned (.bool true) ∧ w' = w := by
  have hk := (List.getElem?_eq_some_iff.1 hx).1
  have C := hide (has_any h (k : Int))
  rw [show hasB ns (k : Int) = true by unfold hasB; simp; omega] at C
  obtain ⟨c0, c1⟩ := cells2 h.box
  have c2 := h.num hx
  have hki : (k : Int) < (ns.length : Int) := by omega
  generalize ns.length = n at *
  clear h hx
  go_enter Try.func9, Try.ntmps9
  go_wp2_with fail
  refine (unhide C).mono ?_
  rintro e w1 ⟨rfl, rfl⟩
  go_wp2
  go_ret
  exact ⟨rfl, rfl⟩
set_option maxHeartbeats 2000000 in
theorem set_new (h : BX K base bb nb tv ns tr w) (k : Nat) (x was : Int) (hx : ns[k]? = some was) (hne : was ≠ x) (hl : tr.length ≤ 1000) : Calls Try.prog 9 #[.pointer (some ⟨bb, 0, none⟩), .int .i64 (k : Int), .int .i64 x] w fun e w' => e = .returned (.bool true) ∧ (∃ tv', BX K base bb nb tv' (ns.set k x) (tr ++ [(k, was)]) w') ∧ Keep K w w' := by
  have hk := (List.getElem?_eq_some_iff.1 hx).1
  have C := hide (has_any h (k : Int))
  rw [show hasB ns (k : Int) = true by unfold hasB; simp; omega] at C
  obtain ⟨c0, c1⟩ := cells2 h.box
  have c2 := h.num hx
  have hki : (k : Int) < (ns.length : Int) := by omega
  have d0 : (was != x) = true := by simp [hne]
  obtain ⟨A, cap, htv, -, -, -⟩ := own_reads h.trail
  have H := hide h
  have HK := hide hk
  have HX := hide hx
  have HL := hide hl
  have HNB := hide h.nb_ne
  have HKN := hide h.kn
  have HKB := hide h.kb
  have HHI := hide h.hi
  obtain ⟨n, hn⟩ : ∃ n, ns.length = n := ⟨_, rfl⟩
  have HN := hide hn
  rw [hn] at c0 hki hk
  clear h hx hl hne hn
  go_enter Try.func9, Try.ntmps9
  go_wp2_with fail
  refine (unhide C).mono ?_
  rintro e w1 ⟨rfl, rfl⟩
  clear C
  rw [htv] at c1
  go_wp2_with (at_builtin; refine wp_app_ch (unhide H) (unhide HK) (unhide HL) rfl rfl (Eq.symm htv) rfl rfl ?_; intro g5 c5 w2 hbx hkp hbox; have HBX := hide hbx; have HKP := hide hkp; obtain ⟨e0, e1⟩ := cells2 hbox; have f1 := hbox.frozen 1; obtain ⟨g0, g1⟩ := cells2 hbx.box; have g2 := hbx.nums.frozen k; have g3 := hbx.num (unhide HX); rw [unhide HN] at e0 g0; clear hbx hkp hbox)
  go_ret
  exact ⟨rfl, ⟨_, (unhide HBX).put k x⟩, ((unhide HKP).setCell (p := ⟨bb, 1, none⟩) (unhide HKB) _).setCell (p := ⟨nb, k, none⟩) (unhide HKN) _⟩
theorem set_any {K : Nat → Prop} {base bb : Nat} {ns : List Int} {tr : List Ch} {w : World} (h : BV K base bb ns tr w) (i x : Int) (hl : tr.length ≤ 1000) : Calls Try.prog 9 #[.pointer (some ⟨bb, 0, none⟩), .int .i64 i, .int .i64 x] w fun e w' => e = .returned (.bool (hasB ns i)) ∧ BV K base bb (setN ns i x) (setT ns tr i x) w' ∧ Keep K w w' := by
  obtain ⟨nb, tv, h⟩ := h
  unfold setN setT
  by_cases hb : hasB ns i = true
  · rw [if_pos hb]
    obtain ⟨k, rfl, hk⟩ := has_nat hb
    rw [Int.toNat_natCast]
    obtain ⟨was, hw⟩ : ∃ was, ns[k]? = some was := ⟨_, List.getElem?_eq_getElem hk⟩
    by_cases he : was = x
    · subst he
      rw [if_neg (fun h => h.2 hw), set_same hw]
      refine (set_same_ h k was hw).mono ?_
      rintro e w1 ⟨rfl, rfl⟩
      exact ⟨by rw [hb], ⟨nb, tv, h⟩, Keep.refl _ _⟩
    · rw [if_pos ⟨hb, fun h => he (Option.some.inj (hw.symm.trans h))⟩]
      refine (set_new h k x was hw he hl).mono ?_
      rintro e w1 ⟨rfl, ⟨tv', h1⟩, h2⟩
      have e1 : ns.getD k 0 = was := by rw [List.getD_eq_getElem?_getD, hw]; rfl
      rw [e1]
      exact ⟨by rw [hb], ⟨nb, tv', h1⟩, h2⟩
  · rw [if_neg hb, if_neg (fun h => hb h.1)]
    have hf : hasB ns i = false := by simpa using hb
    rw [hf]
    refine (set_out h i x hf).mono ?_
    rintro e w1 ⟨rfl, rfl⟩
    exact ⟨rfl, ⟨nb, tv, h⟩, Keep.refl _ _⟩
end
end Go.Proofs.Ytjnljhigaapalaa.Un
