/-
  What stands again, by the reference (clewref13.Again), walked.
-/
import Derived.Test.YtdeaaidbmneplaaDoorMTxAgain
set_option linter.unusedSimpArgs false
set_option linter.unusedVariables false
namespace Go.Proofs.YtdeaaidbmneplaaDoor.Tx
open Go.RowKit Go.Proofs.YtdeaaidbmneplaaDoor.Mem
variable {l : List Int} {A : Option Addr} {cap : Nat} {w : World}
theorem rfold_any (x : Int) (w : World) : Calls Tryd.prog 32 #[.int .i64 x] w fun e w' => e = .returned (.int .i64 (Fo.foldZ x)) ∧ Below w.heap.size w w' :=
  (Fo.fold_any x w).mono fun e w' ⟨l, hl, he, hb⟩ => ⟨by rw [he, Fo.orb_unique hl]; rfl, hb⟩
set_option maxHeartbeats 1000000 in
theorem rag_1 {n : Nat} (f t a mode : Int) (h : f < 0) : Calls Tryd.prog 21 #[.slice A n cap, .int .i64 f, .int .i64 t, .int .i64 a, .int .i64 mode] w (AgG none w) := by
  have d0 : decide (f < 0) = true := by rw [decide_eq_true_iff]; omega
  clear h
  go_enter Tryd.func21, Tryd.ntmps21
  go_wp2_with fail
  (try simp only [Exit.inBlock, Exit.then])
  exact bodyPost_ret (v := .tuple #[.int .i64 0, .bool false]) (by simp [results, Tryd.f21]) rfl ⟨rfl, Below.refl _ _⟩
set_option maxHeartbeats 1000000 in
theorem rag_2 {n : Nat} (f t a mode : Int) (h : 0 ≤ f ∧ t < f) : Calls Tryd.prog 21 #[.slice A n cap, .int .i64 f, .int .i64 t, .int .i64 a, .int .i64 mode] w (AgG none w) := by
  have d0 : decide (f < 0) = false := by rw [decide_eq_false_iff_not]; omega
  have d1 : decide (t < f) = true := by rw [decide_eq_true_iff]; omega
  clear h
  go_enter Tryd.func21, Tryd.ntmps21
  go_wp2_with fail
  (try simp only [Exit.inBlock, Exit.then])
  exact bodyPost_ret (v := .tuple #[.int .i64 0, .bool false]) (by simp [results, Tryd.f21]) rfl ⟨rfl, Below.refl _ _⟩
set_option maxHeartbeats 1000000 in
theorem rag_3 {n : Nat} (f t a mode : Int) (h : 0 ≤ f ∧ f ≤ t ∧ (n : Int) < t) : Calls Tryd.prog 21 #[.slice A n cap, .int .i64 f, .int .i64 t, .int .i64 a, .int .i64 mode] w (AgG none w) := by
  have d0 : decide (f < 0) = false := by rw [decide_eq_false_iff_not]; omega
  have d1 : decide (t < f) = false := by rw [decide_eq_false_iff_not]; omega
  have d2 : decide ((n : Int) < t) = true := by rw [decide_eq_true_iff]; omega
  clear h
  go_enter Tryd.func21, Tryd.ntmps21
  go_wp2_with fail
  (try simp only [Exit.inBlock, Exit.then])
  exact bodyPost_ret (v := .tuple #[.int .i64 0, .bool false]) (by simp [results, Tryd.f21]) rfl ⟨rfl, Below.refl _ _⟩
set_option maxHeartbeats 1000000 in
theorem rag_4 {n : Nat} (f t a mode : Int) (h : 0 ≤ f ∧ f ≤ t ∧ t ≤ (n : Int) ∧ a < 0) : Calls Tryd.prog 21 #[.slice A n cap, .int .i64 f, .int .i64 t, .int .i64 a, .int .i64 mode] w (AgG none w) := by
  have d0 : decide (f < 0) = false := by rw [decide_eq_false_iff_not]; omega
  have d1 : decide (t < f) = false := by rw [decide_eq_false_iff_not]; omega
  have d2 : decide ((n : Int) < t) = false := by rw [decide_eq_false_iff_not]; omega
  have d3 : decide (a < 0) = true := by rw [decide_eq_true_iff]; omega
  clear h
  go_enter Tryd.func21, Tryd.ntmps21
  go_wp2_with fail
  (try simp only [Exit.inBlock, Exit.then])
  exact bodyPost_ret (v := .tuple #[.int .i64 0, .bool false]) (by simp [results, Tryd.f21]) rfl ⟨rfl, Below.refl _ _⟩
set_option maxHeartbeats 1000000 in
theorem rag_5 {n : Nat} (f t a mode : Int) (h : 0 ≤ f ∧ f ≤ t ∧ t ≤ (n : Int) ∧ 0 ≤ a ∧ (n : Int) < a) : Calls Tryd.prog 21 #[.slice A n cap, .int .i64 f, .int .i64 t, .int .i64 a, .int .i64 mode] w (AgG none w) := by
  have d0 : decide (f < 0) = false := by rw [decide_eq_false_iff_not]; omega
  have d1 : decide (t < f) = false := by rw [decide_eq_false_iff_not]; omega
  have d2 : decide ((n : Int) < t) = false := by rw [decide_eq_false_iff_not]; omega
  have d3 : decide (a < 0) = false := by rw [decide_eq_false_iff_not]; omega
  have d4 : decide ((n : Int) < a) = true := by rw [decide_eq_true_iff]; omega
  clear h
  go_enter Tryd.func21, Tryd.ntmps21
  go_wp2_with fail
  (try simp only [Exit.inBlock, Exit.then])
  exact bodyPost_ret (v := .tuple #[.int .i64 0, .bool false]) (by simp [results, Tryd.f21]) rfl ⟨rfl, Below.refl _ _⟩
def GRel (mode : Int) (l : List Int) (f t a : Nat) (w : World) (i : Value) (wr : World) : Prop :=
  ∃ k : Nat, i = .int .i64 (((f + k : Nat) : Nat) : Int) ∧ k ≤ t - f ∧ runL mode (l.drop f) (l.drop a) k = true ∧ (a + k ≤ l.length ∨ k = 0) ∧ Below w.heap.size w wr
theorem rrun_step {mode : Int} {l : List Int} {f a k : Nat} {q : Bool} (h : runL mode (l.drop f) (l.drop a) k = true) (hq : sameZ mode (atZ l ((f + k : Nat) : Int)) (atZ l ((a + k : Nat) : Int)) = q) : runL mode (l.drop f) (l.drop a) (k + 1) = q := by
  rw [runL, h, Bool.true_and, atZ_drop, atZ_drop, hq]
set_option maxRecDepth 100000 in
set_option maxHeartbeats 4000000 in
theorem rag_6 (f t a : Nat) (mode : Int) (hS : SV l A cap w) (h1 : f ≤ t) (h3 : t ≤ l.length) (h5 : a ≤ l.length) (o : Option Int)
    (ho1 : a + (t - f) ≤ l.length → runL mode (l.drop f) (l.drop a) (t - f) = true → o = some ((a : Int) + (t : Int) - (f : Int))) (ho2 : ∀ k, k ≤ t - f → (runL mode (l.drop f) (l.drop a) k = false ∨ l.length < a + k) → o = none) :
    Calls Tryd.prog 21 #[.slice A l.length cap, .int .i64 (f : Int), .int .i64 (t : Int), .int .i64 (a : Int), .int .i64 mode] w (AgG o w) := by
  have HO1 := hide ho1
  have HO2 := hide ho2
  have HS := hide hS
  have hsm := hS.small
  have hrm := hS.room
  have htp := hS.top
  have d0 : decide ((f : Int) < 0) = false := by rw [decide_eq_false_iff_not]; omega
  have d1 : decide ((t : Int) < (f : Int)) = false := by rw [decide_eq_false_iff_not]; omega
  have d1' : decide (t < f) = false := by rw [decide_eq_false_iff_not]; omega
  have d2 : decide ((l.length : Int) < (t : Int)) = false := by rw [decide_eq_false_iff_not]; omega
  have d2' : decide (l.length < t) = false := by rw [decide_eq_false_iff_not]; omega
  have d3 : decide ((a : Int) < 0) = false := by rw [decide_eq_false_iff_not]; omega
  have d4 : decide ((l.length : Int) < (a : Int)) = false := by rw [decide_eq_false_iff_not]; omega
  have d4' : decide (l.length < a) = false := by rw [decide_eq_false_iff_not]; omega
  clear hS ho1 ho2
  go_enter Tryd.func21, Tryd.ntmps21
  go_wp2_with fail
  go_loopw [12] (fun i wr => GRel mode l f t a w i wr) (fun i _ => t - (intOf i).toNat)
  case atStart => exact ⟨0, by rw [Nat.add_zero], by omega, rfl, .inr rfl, Below.refl _ _⟩
  case round =>
    obtain ⟨k, rfl, hk, hrun, hak, hB⟩ := hrel
    go_hideQ
    have HRUN := hide hrun
    have HB := hide hB
    have HAK := hide hak
    have hs1 := (unhide HS).below hB
    have HS1 := hide hs1
    clear hrun hB hak hs1 d0 d1 d2 d3 d4 d1' d2' d4'
    obtain ⟨i, hi⟩ : ∃ i, f + k = i := ⟨_, rfl⟩
    rw [hi]
    have HI := hide hi
    by_cases hlt : i < t
    · have hli : i < l.length := by omega
      have hd : decide ((i : Int) < (t : Int)) = true := by rw [decide_eq_true_iff]; omega
      have hx := List.getElem?_eq_getElem hli
      obtain ⟨x, hx2⟩ : ∃ x, l[i] = x := ⟨_, rfl⟩
      rw [hx2] at hx
      obtain ⟨b, off, rfl, hb, hc⟩ := (unhide HS1).reads.flat (by omega)
      have c1 := hc i (.int .i64 x) (by rw [List.getElem?_map, hx]; rfl)
      have hat := atZ_in hx
      have q1 : IntKind.i64.wrap ((a : Int) + (i : Int)) = (a : Int) + (i : Int) := Rs.wrap_id _ (by omega) (by omega)
      have q2 : IntKind.i64.wrap ((a : Int) + (i : Int) - (f : Int)) = ((a + k : Nat) : Int) := by rw [Rs.wrap_id _ (by omega) (by omega)]; omega
      obtain ⟨y, hy⟩ : ∃ y, atZ l ((a + k : Nat) : Int) = y := ⟨_, rfl⟩
      have CA := hide (rat_any l (some ⟨b, off, none⟩) cap ((a + k : Nat) : Int) wr (unhide HS1))
      rw [hy] at CA
      have hyb := atZ_bound (unhide HS1).sm ((a + k : Nat) : Int)
      have hyn := atZ_neg (unhide HS1).sm ((a + k : Nat) : Int)
      rw [hy] at hyb hyn
      have HYN := hide hyn
      have HST := hide (fun q (hq : sameZ mode x y = q) => rrun_step (l := l) (f := f) (a := a) (k := k) (q := q) (unhide HRUN) (by rw [hy, show f + k = i from hi, hat]; exact hq))
      have HK1 := hide (show k + 1 ≤ t - f by omega)
      have HMS := hide (show t - (i + 1) < t - i by omega)
      have HI1 := hide (show ((i : Int) + 1) = ((f + (k + 1) : Nat) : Int) by omega)
      clear hx hx2 hc hb hat hy hyn hi
      by_cases hneg : y < 0
      · have dn : decide (y < 0) = true := decide_eq_true hneg
        have HE := hide ((unhide HO2) (k + 1) (unhide HK1) (.inr (by have := (unhide HYN).1 hneg; omega)))
        clear hneg
        go_wp2_with fail
        refine (unhide CA).mono ?_
        rintro e w1 ⟨rfl, hw1⟩
        obtain rfl : _ = w1 := hw1.symm
        go_wp2_with fail
        (try simp only [Exit.inBlock, Exit.then])
        exact bodyPost_ret (v := .tuple #[.int .i64 0, .bool false]) (by simp [results, Tryd.f21]) rfl ⟨by rw [unhide HE]; rfl, unhide HB⟩
      · have dn : decide (y < 0) = false := decide_eq_false hneg
        have HAK1 := hide (show a + (k + 1) ≤ l.length from Classical.byContradiction fun hc => hneg ((unhide HYN).2 (.inr (by omega))))
        clear hneg
        by_cases hm : mode = 1
        · subst hm
          have hsz : sameZ 1 x y = (Fo.foldZ x == Fo.foldZ y) := by unfold sameZ; rw [if_pos rfl]
          have CF := hide (fun x w => rfold_any x w)
          by_cases he : Fo.foldZ x = Fo.foldZ y
          · have HST1 := hide ((unhide HST) true (by rw [hsz, beq_iff_eq]; exact he))
            obtain ⟨fx, hfx⟩ : ∃ fx, Fo.foldZ x = fx := ⟨_, rfl⟩
            have HFX := hide hfx
            have HFY := hide (show Fo.foldZ y = fx by rw [← he, hfx])
            clear he hsz hfx
            go_wp2_with fail
            refine (unhide CA).mono ?_
            rintro e w1 ⟨rfl, hw1⟩
            obtain rfl : _ = w1 := hw1.symm
            go_wp2_with fail
            refine ((unhide CF) _ _).mono ?_
            rintro e w2 ⟨rfl, hB2⟩
            have HB2 := hide ((unhide HB).trans (hB2.mono (unhide HB).size))
            clear hB2
            rw [unhide HFX]
            go_wp2_with fail
            refine ((unhide CF) _ _).mono ?_
            rintro e w3 ⟨rfl, hB3⟩
            have HB3 := hide ((unhide HB2).trans (hB3.mono (unhide HB2).size))
            clear hB3
            rw [unhide HFY]
            go_wp2_with fail
            have hR : GRel 1 l f t a w (.int .i64 ((i : Int) + 1)) w3 := ⟨k + 1, by rw [unhide HI1], unhide HK1, unhide HST1, .inl (unhide HAK1), unhide HB3⟩
            have hme : t - (intOf (.int .i64 ((i : Int) + 1))).toNat < t - (intOf (.int .i64 ((f + k : Nat) : Int))).toNat := by have := unhide HMS; have := unhide HI; simp only [intOf]; omega
            first | exact ⟨hR, hme⟩ | exact ⟨⟨_, _, _, hR, rfl, rfl, rfl⟩, hme⟩ | (go_roundw; exact hR; exact hme)
          · have HE := hide ((unhide HO2) (k + 1) (unhide HK1) (.inl ((unhide HST) false (by rw [hsz, beq_eq_false_iff_ne]; exact he))))
            obtain ⟨fx, hfx⟩ : ∃ fx, Fo.foldZ x = fx := ⟨_, rfl⟩
            obtain ⟨fy, hfy⟩ : ∃ fy, Fo.foldZ y = fy := ⟨_, rfl⟩
            have HFX := hide hfx
            have HFY := hide hfy
            have en : (fx != fy) = true := by rw [← hfx, ← hfy, bne_iff_ne]; exact he
            have en2 : (fx == fy) = false := by rw [← hfx, ← hfy, beq_eq_false_iff_ne]; exact he
            clear he hsz hfx hfy
            go_wp2_with fail
            refine (unhide CA).mono ?_
            rintro e w1 ⟨rfl, hw1⟩
            obtain rfl : _ = w1 := hw1.symm
            go_wp2_with fail
            refine ((unhide CF) _ _).mono ?_
            rintro e w2 ⟨rfl, hB2⟩
            have HB2 := hide ((unhide HB).trans (hB2.mono (unhide HB).size))
            clear hB2
            rw [unhide HFX]
            go_wp2_with fail
            refine ((unhide CF) _ _).mono ?_
            rintro e w3 ⟨rfl, hB3⟩
            have HB3 := hide ((unhide HB2).trans (hB3.mono (unhide HB2).size))
            clear hB3
            rw [unhide HFY]
            go_wp2_with fail
            (try simp only [Exit.inBlock, Exit.then])
            exact bodyPost_ret (v := .tuple #[.int .i64 0, .bool false]) (by simp [results, Tryd.f21]) rfl ⟨by rw [unhide HE]; rfl, unhide HB3⟩
        · have em : (mode == 1) = false := by rw [beq_eq_false_iff_ne]; exact hm
          have em2 : (mode != 1) = true := by rw [bne_iff_ne]; exact hm
          have hsz : sameZ mode x y = (x == y) := by unfold sameZ; rw [if_neg hm]
          by_cases he : x = y
          · have HST1 := hide ((unhide HST) true (by rw [hsz, beq_iff_eq]; exact he))
            have en : (x != y) = false := by rw [bne_eq_false_iff_eq]; exact he
            have en2 : (x == y) = true := by rw [beq_iff_eq]; exact he
            clear he hsz hm
            go_wp2_with fail
            refine (unhide CA).mono ?_
            rintro e w1 ⟨rfl, hw1⟩
            obtain rfl : _ = w1 := hw1.symm
            go_wp2_with fail
            have hR : GRel mode l f t a w (.int .i64 ((i : Int) + 1)) wr := ⟨k + 1, by rw [unhide HI1], unhide HK1, unhide HST1, .inl (unhide HAK1), unhide HB⟩
            have hme : t - (intOf (.int .i64 ((i : Int) + 1))).toNat < t - (intOf (.int .i64 ((f + k : Nat) : Int))).toNat := by have := unhide HMS; have := unhide HI; simp only [intOf]; omega
            first | exact ⟨hR, hme⟩ | exact ⟨⟨_, _, _, hR, rfl, rfl, rfl⟩, hme⟩ | (go_roundw; exact hR; exact hme)
          · have HE := hide ((unhide HO2) (k + 1) (unhide HK1) (.inl ((unhide HST) false (by rw [hsz, beq_eq_false_iff_ne]; exact he))))
            have en : (x != y) = true := by rw [bne_iff_ne]; exact he
            have en2 : (x == y) = false := by rw [beq_eq_false_iff_ne]; exact he
            clear he hsz hm
            go_wp2_with fail
            refine (unhide CA).mono ?_
            rintro e w1 ⟨rfl, hw1⟩
            obtain rfl : _ = w1 := hw1.symm
            go_wp2_with fail
            (try simp only [Exit.inBlock, Exit.then])
            exact bodyPost_ret (v := .tuple #[.int .i64 0, .bool false]) (by simp [results, Tryd.f21]) rfl ⟨by rw [unhide HE]; rfl, unhide HB⟩
    · have hd : decide ((i : Int) < (t : Int)) = false := by rw [decide_eq_false_iff_not]; omega
      have q1 : IntKind.i64.wrap ((a : Int) + (t : Int)) = (a : Int) + (t : Int) := Rs.wrap_id _ (by omega) (by omega)
      have q2 : IntKind.i64.wrap ((a : Int) + (t : Int) - (f : Int)) = (a : Int) + (t : Int) - (f : Int) := Rs.wrap_id _ (by omega) (by omega)
      obtain rfl : k = t - f := by omega
      have HE := hide ((unhide HO1) (by have := unhide HAK; omega) (unhide HRUN))
      clear hi
      go_wp2_with fail
      (try simp only [Exit.inBlock, Exit.then])
      exact bodyPost_ret (v := .tuple #[.int .i64 ((a : Int) + (t : Int) - (f : Int)), .bool true]) (by simp [results, Tryd.f21]) rfl ⟨by rw [unhide HE]; rfl, unhide HB⟩
theorem ragain_any (f t a mode : Int) (hS : SV l A cap w) : Calls Tryd.prog 21 #[.slice A l.length cap, .int .i64 f, .int .i64 t, .int .i64 a, .int .i64 mode] w (AgG (againZ l f t a mode) w) := by
  by_cases h : 0 ≤ f ∧ f ≤ t ∧ t ≤ l.length ∧ 0 ≤ a ∧ a ≤ l.length
  · obtain ⟨f, rfl⟩ : ∃ n : Nat, f = (n : Int) := ⟨f.toNat, by omega⟩
    obtain ⟨t, rfl⟩ : ∃ n : Nat, t = (n : Int) := ⟨t.toNat, by omega⟩
    obtain ⟨a, rfl⟩ : ∃ n : Nat, a = (n : Int) := ⟨a.toNat, by omega⟩
    refine rag_6 f t a mode hS (by omega) (by omega) (by omega) _ (fun h5 hr => ?_) (fun k hk hc => ?_)
    · rw [again_nat (by omega) (by omega) h5, hr, show (a : Int) + ((t : Int) - (f : Int)) = (a : Int) + (t : Int) - (f : Int) by omega]; rfl
    · by_cases h5 : a + (t - f) ≤ l.length
      · rw [again_nat (by omega) (by omega) h5]
        rcases hc with hc | hc
        · rw [runL_false hc _ hk]; rfl
        · omega
      · rw [again_none (by omega)]
  · rw [again_none (by omega)]
    by_cases h1 : f < 0
    · exact rag_1 f t a mode h1
    by_cases h2 : t < f
    · exact rag_2 f t a mode (by omega)
    by_cases h3 : (l.length : Int) < t
    · exact rag_3 f t a mode (by omega)
    by_cases h4 : a < 0
    · exact rag_4 f t a mode (by omega)
    · exact rag_5 f t a mode (by omega)
end Go.Proofs.YtdeaaidbmneplaaDoor.Tx
