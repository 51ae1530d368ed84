/-
  The law's of, walked: the program copied for the reference. Conditions: the program lies in memory; few instructions, sets, counts.
-/
import Derived.Test.YtiaelaepfhiabaaDoorCoOf
import Derived.Test.YtiaelaepfhiabaaDoorCoRBar
set_option linter.unusedVariables false
set_option linter.unusedSimpArgs false
namespace Go.Proofs.YtiaelaepfhiabaaDoor.Co
open Go.RowKit Go.Proofs.YtiaelaepfhiabaaDoor.Mem Go.Proofs.YtiaelaepfhiabaaDoor.Rs
attribute [local go_sem] run_not_true run_not_false build_ref
theorem wrap64_big {j : Nat} (h : (j : Int) ≤ 9000000000000000000) : wrap64 ((j : Int) + 1) = ((j + 1 : Nat) : Int) := by
  have := wrap_id ((j : Int) + 1) (by omega) (by omega)
  rw [← IntWalk.i64_left, this]
  simp
theorem one_sl (A : Option Addr) (n c : Nat) : ∀ u ∈ [Value.slice A n c], u.oneCell' = true := by
  intro u hu
  simp at hu
  subst hu
  rfl
set_option maxRecDepth 100000 in
set_option maxHeartbeats 8000000 in
theorem of_any (l : List In) (ss : List (List R)) (kk : List Cn) (As Al A : Option Addr) (c cs ck : Nat) (g : Int) (w : World) (hl : l.length ≤ 1000) (hsl : ss.length ≤ 1000) (hkl : kk.length ≤ 1000) (h : Pv w w.heap.size l ss kk A As Al) :
    Calls Tryd.prog 9 #[.agg #[.slice A l.length c, .slice As ss.length cs, .slice Al kk.length ck, .int .i64 g]] w fun e w' => ∃ A2 As2 Al2 c2 cs2 ck2, e = .returned (.agg #[.slice A2 l.length c2, .slice As2 ss.length cs2, .slice Al2 kk.length ck2, .int .i64 g]) ∧ Pv w' w'.heap.size l ss kk A2 As2 Al2 ∧ Below w.heap.size w w' := by
  have HP := hide h
  have HL := hide (And.intro hl (And.intro hsl hkl))
  obtain ⟨i0, hi, hz0, hz1, hz2⟩ := info_parts info_I
  have m1 := ((Blk.new w 26 #[.slice A l.length c, .slice As ss.length cs, .slice Al kk.length ck, .int .i64 g]).alloc (.cells #[.slice none 0 0, .slice none 0 0, .slice none 0 0, .int .i64 0] 33)).alloc (.cells #[.slice none 0 0, .slice none 0 0, .slice none 0 0, .int .i64 g] 33)
  have m2 := (Blk.new (w.alloc (.cells #[.slice A l.length c, .slice As ss.length cs, .slice Al kk.length ck, .int .i64 g] 26)) 33 #[.slice none 0 0, .slice none 0 0, .slice none 0 0, .int .i64 0]).alloc (.cells #[.slice none 0 0, .slice none 0 0, .slice none 0 0, .int .i64 g] 33)
  have m3 := Blk.new ((w.alloc (.cells #[.slice A l.length c, .slice As ss.length cs, .slice Al kk.length ck, .int .i64 g] 26)).alloc (.cells #[.slice none 0 0, .slice none 0 0, .slice none 0 0, .int .i64 0] 33)) 33 #[.slice none 0 0, .slice none 0 0, .slice none 0 0, .int .i64 g]
  simp only [World.size_alloc] at m1 m2 m3
  have b0 := below_al (below_al (below_al (Below.refl w.heap.size w) (Nat.le_refl _) (.cells #[.slice A l.length c, .slice As ss.length cs, .slice Al kk.length ck, .int .i64 g] 26)) (by simp) (.cells #[.slice none 0 0, .slice none 0 0, .slice none 0 0, .int .i64 0] 33)) (by simp; omega) (.cells #[.slice none 0 0, .slice none 0 0, .slice none 0 0, .int .i64 g] 33)
  have hz : (((w.alloc (.cells #[.slice A l.length c, .slice As ss.length cs, .slice Al kk.length ck, .int .i64 g] 26)).alloc (.cells #[.slice none 0 0, .slice none 0 0, .slice none 0 0, .int .i64 0] 33)).alloc (.cells #[.slice none 0 0, .slice none 0 0, .slice none 0 0, .int .i64 g] 33)).heap.size = w.heap.size + 3 := by simp
  have M1 := hide m1
  have M2 := hide m2
  have M3 := hide m3
  have HB0 := hide b0
  have HZ := hide hz
  clear h hl hsl hkl m1 m2 m3 b0 hz
  go_enter Tryd.func9, Tryd.ntmps9
  go_wp2_with fail
  generalize (((w.alloc (.cells #[.slice A l.length c, .slice As ss.length cs, .slice Al kk.length ck, .int .i64 g] 26)).alloc (.cells #[.slice none 0 0, .slice none 0 0, .slice none 0 0, .int .i64 0] 33)).alloc (.cells #[.slice none 0 0, .slice none 0 0, .slice none 0 0, .int .i64 g] 33)) = R0 at *
  go_loopw [19] (fun i wr => ∃ k : Nat, i = .int .i64 (k : Int) ∧ k ≤ l.length ∧ OI w R0 (w.heap.size + 2) 48 6 (flI (l.take k)) k (fun v => #[v, .slice none 0 0, .slice none 0 0, .int .i64 g]) #[.slice A l.length c, .slice As ss.length cs, .slice Al kk.length ck, .int .i64 g] wr) (fun i _ => l.length - (intOf i).toNat)
  case atStart => exact ⟨0, rfl, Nat.zero_le _, World.grownBy.refl _ _, ⟨.slice none 0 0, World.ownsRow_nil _ _ _ _, unhide M3⟩, unhide M1⟩
  case round =>
    obtain ⟨k, rfl, hk, hoi⟩ := hrel
    go_hideQ
    obtain ⟨v, ho, hq⟩ := hoi.row
    obtain ⟨Av, cv, rfl, -, -⟩ := own_reads ho
    have HOI := hide (And.intro hoi (And.intro ho hq))
    by_cases hlt : k < l.length
    · obtain ⟨i, hs⟩ : ∃ s, l[k]? = some s := ⟨l[k], List.getElem?_eq_getElem hlt⟩
      obtain ⟨b, off, rfl, hb, hc⟩ := (unhide HP).ins (by omega)
      have hbe := ((unhide HB0)).grown hoi.kp (unhide HB0).size (fun j hj => by injection hj; omega)
      obtain ⟨c0, c1, c2, c3, c4, c5⟩ := hc k i hs
      replace c0 := (hbe.cell (p := ⟨b, _, none⟩) hb).trans c0
      replace c1 := (hbe.cell (p := ⟨b, _, none⟩) hb).trans c1
      replace c2 := (hbe.cell (p := ⟨b, _, none⟩) hb).trans c2
      replace c3 := (hbe.cell (p := ⟨b, _, none⟩) hb).trans c3
      replace c4 := (hbe.cell (p := ⟨b, _, none⟩) hb).trans c4
      replace c5 := (hbe.cell (p := ⟨b, _, none⟩) hb).trans c5
      have q0 := (hq.alloc (.cells #[.int .i64 i.op, .int .i64 i.x, .int .i64 i.y, .int .i64 i.z, .int .i64 i.nd, .int .i64 i.ph] 37)).cell 0
      have HS := hide hs
      have hltI : (k : Int) < (l.length : Int) := by omega
      have hsz := hbe.size
      have HSZ := hide (And.intro hsz (show R0.heap.size ≤ wr.heap.size from hoi.kp.size))
      clear hoi ho hq hs hc hbe hsz hk
      go_wp2_with (first
        | (at_builtin; refine wpList_append_any _ rfl (.tmp 24) (.tmp 26) 29 rfl R0.heap.size 48 i0 (.agg #[.int .i64 0, .int .i64 0, .int .i64 0, .int .i64 0, .int .i64 0, .int .i64 0]) 6 48 Tryd.underlying29 hi hz0 hz1 hz2 rfl (by decide) _ k _ rfl (own_below (own_below (unhide HOI).2.1 (below_al (Below.refl _ _) (Nat.le_refl _) _)) (below_al (Below.refl _ _) (Nat.le_refl _) _)) _ _ 1 1 _ rfl (reads_at (by simp) #[.int .i64 i.op, .int .i64 i.x, .int .i64 i.y, .int .i64 i.z, .int .i64 i.nd, .int .i64 i.ph] _ 1 6 rfl) (one_cI i) (by have := (unhide HL).1; unfold maxLen; omega) (by have := (unhide HL).1; omega) (by have := (unhide HSZ).2; simp; omega) ?_; intro v8 w8 ho8 hg8 hn8; obtain ⟨A8, c8, rfl, -, -⟩ := own_reads ho8; have k8 := (((unhide HOI).2.2.alloc (.cells #[.int .i64 i.op, .int .i64 i.x, .int .i64 i.y, .int .i64 i.z, .int .i64 i.nd, .int .i64 i.ph] 37)).alloc (.cells #[.int .i64 i.op, .int .i64 i.x, .int .i64 i.y, .int .i64 i.z, .int .i64 i.nd, .int .i64 i.ph] _)).grown hg8 (fun e => by have h1 := own_base (unhide HOI).2.1 _ e.symm; have h2 := unhide HZ; omega); have s0 := k8.cell 0; have f0 := k8.frozen 0; have H8 := hide (And.intro ho8 hg8); clear ho8 hg8 hn8 k8)
        | fail)
      have hw := wrap64_id (j := k) (by have := (unhide HL).1; omega)
      refine ⟨⟨k + 1, by rw [hw], hlt, ?_⟩, mea_n hlt hw⟩
      rw [flI_take (unhide HS)]
      exact (unhide HOI).1.step (by have := unhide HZ; omega) (by omega) (unhide HOI).2.1 (unhide H8).1 (unhide H8).2 (fun u => rfl) (unhide HOI).2.2
    · have hkl : k = l.length := by omega
      have hkn : (l.length : Int) ≤ (k : Int) := by omega
      have hkn2 : decide (k < l.length) = false := decide_eq_false hlt
      have p1 := hoi.pbx.cell 1
      clear hoi ho hq hk hlt
      go_wp2_with fail
      clear hkn hkn2
      rw [hkl] at HOI
      have hoi := (unhide HOI).1
      obtain ⟨R1, hR1⟩ : ∃ R, R = wr := ⟨_, rfl⟩
      have HR1 := hide hR1
      have HBR := hide (show Below w.heap.size w R1 from hR1 ▸ (unhide HB0).grown hoi.kp (unhide HB0).size (fun j hj => by injection hj; omega))
      have HZ1 := hide (show R0.heap.size ≤ R1.heap.size from hR1 ▸ hoi.kp.size)
      have HSO := hide (show SO w R1 (w.heap.size + 2) ss 0 (fun u => #[.slice Av l.length cv, u, .slice none 0 0, .int .i64 g]) #[.slice A l.length c, .slice As ss.length cs, .slice Al kk.length ck, .int .i64 g] (.slice none 0 0) [] R1 from ⟨World.grownBy.refl _ _, World.ownsRow_nil _ _ _ _, hR1 ▸ (unhide HOI).2.2, hR1 ▸ hoi.pbx, fun j s h => absurd h (by omega)⟩)
      clear hoi p1
      rw [← hR1]
      clear hR1
      obtain ⟨e0, ei, ez0, ez1, ez2⟩ := info_parts info_R
      obtain ⟨f0, fi, fz0, fz1, fz2⟩ := info_parts info_LR
      go_loopw [33] (fun i wr => ∃ (k2 : Nat) (vs : Value) (vals : List Value), i = .int .i64 (k2 : Int) ∧ k2 ≤ ss.length ∧ SO w R1 (w.heap.size + 2) ss k2 (fun u => #[.slice Av l.length cv, u, .slice none 0 0, .int .i64 g]) #[.slice A l.length c, .slice As ss.length cs, .slice Al kk.length ck, .int .i64 g] vs vals wr) (fun i _ => ss.length - (intOf i).toNat)
      case atStart => exact ⟨0, _, _, rfl, Nat.zero_le _, unhide HSO⟩
      case round =>
        obtain ⟨k2, vs, vals, rfl, hk2, hso⟩ := hrel
        go_hideQ
        obtain ⟨Avs, cvs, rfl, -, -⟩ := own_reads hso.row
        have p1 := hso.pbx.cell 1
        have HS2 := hide hso
        by_cases hlt : k2 < ss.length
        · obtain ⟨s, hs⟩ : ∃ s, ss[k2]? = some s := ⟨ss[k2], List.getElem?_eq_getElem hlt⟩
          obtain ⟨bS, offS, rfl, hbS, hcS⟩ := (unhide HP).sts (by omega)
          obtain ⟨A', cap', c0, hls, hcap, hsl⟩ := hcS k2 s hs
          have hbe := (unhide HBR).grown hso.kp (unhide HBR).size (fun j hj => by have := unhide HZ; have := unhide HZ1; injection hj; omega)
          replace c0 := (hbe.cell (p := ⟨bS, _, none⟩) hbS).trans c0
          have HLS := hide (hls.below hbe)
          have HBE := hide hbe
          have HSS := hide (And.intro hs (And.intro hcap hsl))
          have hltI : (k2 : Int) < (ss.length : Int) := by omega
          clear hso hk2 hs hcS hls hcap hsl hbe
          go_wp2_with fail
          go_loopw [8, 39] (fun v i wq => ∃ m : Nat, i = .int .i64 (m : Int) ∧ m ≤ s.length ∧ wq.ownsRow wr.heap.size 53 2 v m (flat (s.take m)) ∧ Below wr.heap.size wr wq) (fun _ i _ => s.length - (intOf i).toNat)
          case atStart => exact ⟨0, rfl, Nat.zero_le _, World.ownsRow_nil _ _ _ _, Below.refl _ _⟩
          case round =>
            obtain ⟨m, rfl, hm, ho3, hb3⟩ := hrel
            clear c0 p1
            go_hideQ
            have H3 := hide (And.intro ho3 hb3)
            by_cases hml : m < s.length
            · obtain ⟨r, hr⟩ : ∃ r, s[m]? = some r := ⟨s[m], List.getElem?_eq_getElem hml⟩
              obtain ⟨b5, off5, rfl, hb5, hc5⟩ := (unhide HLS) (by omega)
              obtain ⟨d0, d1⟩ := hc5 m r hr
              replace d0 := (hb3.cell (p := ⟨b5, _, none⟩) (by have := (unhide HBE).size; simp; omega)).trans d0
              replace d1 := (hb3.cell (p := ⟨b5, _, none⟩) (by have := (unhide HBE).size; simp; omega)).trans d1
              have HR := hide hr
              have hmlI : (m : Int) < (s.length : Int) := by omega
              clear ho3 hb3 hr hc5 hm
              go_wp2_with (first
                | (at_builtin; refine wpList_append_any _ rfl (.tmp 43) (.tmp 45) 45 rfl _ 53 e0 (.agg #[.int .i64 0, .int .i64 0]) 2 16 Tryd.underlying45 ei ez0 ez1 ez2 rfl (by decide) _ m _ rfl (own_below (own_below (unhide H3).1 (below_al (Below.refl _ _) (Nat.le_refl _) _)) (below_al (Below.refl _ _) (Nat.le_refl _) _)) _ _ 1 1 _ rfl (reads_at (by simp) #[.int .i64 r.1, .int .i64 r.2] _ 1 2 rfl) (one_enc r) (by have := (unhide HSS).2.2; unfold maxLen; omega) (by have := (unhide HSS).2.2; omega) (by have := (unhide H3).2.size; simp; omega) ?_; intro v8 w8 ho8 hg8 hn8; have H8 := hide (And.intro ho8 hg8); clear ho8 hg8 hn8)
                | fail)
              have hw := wrap64_big (j := m) (by have := (unhide HSS).2.2; omega)
              refine ⟨⟨v8, _, .int .i64 (wrap64 ((m : Int) + 1)), ⟨m + 1, by rw [hw], hml, ?_, ?_⟩, rfl, rfl, rfl⟩, mea_n hml hw⟩
              · rw [flat_take (unhide HR)]
                exact (unhide H8).1
              · exact (below_al (below_al (unhide H3).2 (unhide H3).2.size _) (by have := (unhide H3).2.size; simp; omega) _).grown (unhide H8).2 (by have := (unhide H3).2.size; simp; omega) (own_base (unhide H3).1)
            · have hme : m = s.length := by omega
              subst hme
              have hkn : decide (s.length < s.length) = false := by simp
              rw [List.take_length] at ho3
              obtain ⟨A8, c8, rfl, -, -, -⟩ := own_lst2 ho3
              have HO3 := hide (And.intro ho3 hb3)
              have q1 := (((unhide HS2).qb.below hb3 (unhide HS2).qb.lt)).cell 1
              clear ho3 hb3 hm hml H3
              go_wp2_with (first
                | (at_builtin; refine wpList_append_any _ rfl (.tmp 49) (.tmp 51) 30 rfl R1.heap.size 45 f0 (.slice none 0 0) 1 24 Tryd.underlying30 fi fz0 fz1 fz2 rfl (by decide) _ k2 _ rfl (own_below (own_below (unhide HS2).row (unhide HO3).2) (below_al (Below.refl _ _) (Nat.le_refl _) _)) _ _ 1 1 _ rfl (reads_at (by simp) #[.slice A8 s.length c8] _ 1 1 rfl) (one_sl _ _ _) (by have := (unhide HL).2.1; unfold maxLen; omega) (by have := (unhide HL).2.1; omega) (by have := (unhide HS2).kp.size; have := (unhide HO3).2.size; simp; omega) ?_; intro v8 w8 ho8 hg8 hn8; obtain ⟨A9, c9, rfl, -, -⟩ := own_reads ho8; have k8 := (((unhide HS2).qb.below (unhide HO3).2 (unhide HS2).qb.lt).alloc (.cells #[.slice A8 s.length c8] _)).grown hg8 (fun e => by have h1 := own_base (unhide HS2).row _ e.symm; have h2 := unhide HZ; have h3 := unhide HZ1; omega); have s0 := k8.cell 1; have g0 := k8.frozen 1; have H8 := hide (And.intro ho8 (And.intro hg8 hn8)); clear ho8 hg8 hn8 k8)
                | fail)
              have hw := wrap64_id (j := k2) (by have := (unhide HL).2.1; omega)
              refine ⟨⟨_, _, _, .int .i64 (wrap64 ((k2 : Int) + 1)), ⟨k2 + 1, by rw [hw], hlt, _, _, (unhide HS2).step (by have := unhide HZ; have := unhide HZ1; omega) (by omega) (unhide HSS).1 (unhide HO3).2 (unhide HO3).1 (unhide H8).1 (unhide H8).2.1 (unhide H8).2.2 (fun u => rfl)⟩, rfl, rfl, rfl, rfl⟩, mea_n hlt hw⟩
        · have hke : k2 = ss.length := by omega
          subst hke
          have hkn2 : decide (ss.length < ss.length) = false := by simp
          have p2 := hso.pbx.cell 2
          have HSF := hide (hso.stsF (by have := unhide HZ; have := unhide HZ1; omega) (fun k s hs => by
            obtain ⟨_, _, _, _, hcc⟩ := (unhide HP).sts (by have := (List.getElem?_eq_some_iff.1 hs).1; omega)
            obtain ⟨_, _, _, _, _, hh⟩ := hcc k s hs
            exact hh))
          have HBE2 := hide ((unhide HBR).grown hso.kp (unhide HBR).size (fun j hj => by have := unhide HZ; have := unhide HZ1; injection hj; omega))
          have HZ2 := hide hso.kp.size
          clear hso hk2 hlt p1
          go_wp2_with fail
          obtain ⟨R2, hR2⟩ : ∃ R, R = wr := ⟨_, rfl⟩
          have HO2 := hide (show OI w R2 (w.heap.size + 2) 47 3 (flC (kk.take 0)) 0 (fun v => #[.slice Av l.length cv, .slice Avs ss.length cvs, v, .int .i64 g]) #[.slice A l.length c, .slice As ss.length cs, .slice Al kk.length ck, .int .i64 g] R2 from hR2 ▸ ⟨World.grownBy.refl _ _, ⟨.slice none 0 0, World.ownsRow_nil _ _ _ _, (unhide HS2).qb⟩, (unhide HS2).pbx⟩)
          have HEQ := hide hR2
          rw [← hR2]
          clear hR2 p2
          obtain ⟨d0, di, dz0, dz1, dz2⟩ := info_parts info_C
          go_loopw [58] (fun i wq => ∃ k3 : Nat, i = .int .i64 (k3 : Int) ∧ k3 ≤ kk.length ∧ OI w R2 (w.heap.size + 2) 47 3 (flC (kk.take k3)) k3 (fun v => #[.slice Av l.length cv, .slice Avs ss.length cvs, v, .int .i64 g]) #[.slice A l.length c, .slice As ss.length cs, .slice Al kk.length ck, .int .i64 g] wq) (fun i _ => kk.length - (intOf i).toNat)
          case atStart => exact ⟨0, rfl, Nat.zero_le _, unhide HO2⟩
          case round =>
            obtain ⟨k3, rfl, hk3, hoi⟩ := hrel
            go_hideQ
            obtain ⟨v, ho, hq⟩ := hoi.row
            obtain ⟨Ac, cc, rfl, -, -⟩ := own_reads ho
            have HO3 := hide (And.intro hoi (And.intro ho hq))
            have HBW := hide (show Below w.heap.size w R2 from (unhide HEQ) ▸ unhide HBE2)
            have HZR := hide (show R1.heap.size ≤ R2.heap.size from (unhide HEQ) ▸ unhide HZ2)
            by_cases hlt : k3 < kk.length
            · obtain ⟨⟨lo, hi9, md⟩, hs⟩ : ∃ s, kk[k3]? = some s := ⟨kk[k3], List.getElem?_eq_getElem hlt⟩
              obtain ⟨b, off, rfl, hb, hc⟩ := (unhide HP).cns (by omega)
              have hbe := (unhide HBW).grown hoi.kp (unhide HBW).size (fun j hj => by injection hj; omega)
              obtain ⟨c0, c1, c2⟩ := hc k3 _ hs
              dsimp only at c0 c1 c2
              replace c0 := (hbe.cell (p := ⟨b, _, none⟩) hb).trans c0
              replace c1 := (hbe.cell (p := ⟨b, _, none⟩) hb).trans c1
              replace c2 := (hbe.cell (p := ⟨b, _, none⟩) hb).trans c2
              have q0 := (hq.alloc (.cells #[.int .i64 lo, .int .i64 hi9, .int .i64 md] 54)).cell 2
              have HS3 := hide hs
              have hltI : (k3 : Int) < (kk.length : Int) := by omega
              have HSZ := hide (show R2.heap.size ≤ wr.heap.size from hoi.kp.size)
              clear hoi ho hq hs hc hbe hk3
              go_wp2_with (first
                | (at_builtin; refine wpList_append_any _ rfl (.tmp 63) (.tmp 65) 31 rfl R2.heap.size 47 d0 (.agg #[.int .i64 0, .int .i64 0, .int .i64 0]) 3 24 Tryd.underlying31 di dz0 dz1 dz2 rfl (by decide) _ k3 _ rfl (own_below (own_below (unhide HO3).2.1 (below_al (Below.refl _ _) (Nat.le_refl _) _)) (below_al (Below.refl _ _) (Nat.le_refl _) _)) _ _ 1 1 _ rfl (reads_at (by simp) #[.int .i64 lo, .int .i64 hi9, .int .i64 md] _ 1 3 rfl) (one_cC (lo, hi9, md)) (by have := (unhide HL).2.2; unfold maxLen; omega) (by have := (unhide HL).2.2; omega) (by have := unhide HSZ; simp; omega) ?_; intro v8 w8 ho8 hg8 hn8; obtain ⟨A8, c8, rfl, -, -⟩ := own_reads ho8; have k8 := (((unhide HO3).2.2.alloc (.cells #[.int .i64 lo, .int .i64 hi9, .int .i64 md] 54)).alloc (.cells #[.int .i64 lo, .int .i64 hi9, .int .i64 md] _)).grown hg8 (fun e => by have h1 := own_base (unhide HO3).2.1 _ e.symm; have h2 := unhide HZ; have h3 := unhide HZ1; have h4 := unhide HZR; omega); have s0 := k8.cell 2; have g0 := k8.frozen 2; have H8 := hide (And.intro ho8 hg8); clear ho8 hg8 hn8 k8)
                | fail)
              have hw := wrap64_id (j := k3) (by have := (unhide HL).2.2; omega)
              have hR : ∃ k4 : Nat, wrap64 ((k3 : Int) + 1) = (k4 : Int) ∧ k4 ≤ kk.length ∧ OI w R2 (w.heap.size + 2) 47 3 (flC (kk.take k4)) k4 (fun v => #[.slice Av l.length cv, .slice Avs ss.length cvs, v, .int .i64 g]) #[.slice A l.length c, .slice As ss.length cs, .slice (some ⟨b, off, none⟩) kk.length ck, .int .i64 g] (w8.setCell ⟨w.heap.size + 2, 2, none⟩ (.slice A8 (k3 + 1) c8)) := ⟨k3 + 1, by rw [hw], hlt, by
                rw [flC_take (unhide HS3)]
                exact (unhide HO3).1.step (by have := unhide HZ; have := unhide HZ1; have := unhide HZR; omega) (by omega) (unhide HO3).2.1 (unhide H8).1 (unhide H8).2 (fun u => rfl) (unhide HO3).2.2⟩
              first
                | exact ⟨hR, mea_n hlt hw⟩
                | exact ⟨⟨_, _, hR, rfl, rfl⟩, mea_n hlt hw⟩
            · have hke : k3 = kk.length := by omega
              subst hke
              have hkn3 : decide (kk.length < kk.length) = false := by simp
              have hk1 : R0.grownBy R1 (some (w.heap.size + 2)) := (unhide HR1) ▸ (unhide HOI).1.kp
              have hk2 : R1.grownBy R2 (some (w.heap.size + 2)) := (unhide HEQ) ▸ (unhide HS2).kp
              have hkk := hoi.kp
              have ne2 : some (w.heap.size + 1) ≠ some (w.heap.size + 2) := fun e => by injection e; omega
              have n2 := (((unhide M2).grown hk1 ne2).grown hk2 ne2).grown hkk ne2
              have t0 := n2.cell 0
              have t1 := n2.cell 1
              have t2 := n2.cell 2
              have t3 := n2.cell 3
              have z0 := n2.frozen 0
              have z1 := n2.frozen 1
              have z2 := n2.frozen 2
              have z3 := n2.frozen 3
              have c0 := hq.cell 0
              have c1 := hq.cell 1
              have c2 := hq.cell 2
              have c3 := hq.cell 3
              have HK := hide (And.intro hk1 (And.intro hk2 (And.intro hkk n2)))
              clear hoi ho hq hk1 hk2 hkk ne2 n2 hk3 hlt
              have HO3e := hide (show wr.ownsRow R2.heap.size 47 3 (.slice Ac kk.length cc) kk.length (flC kk) from by have := (unhide HO3).2.1; rwa [List.take_length] at this)
              go_wp2_with fail
              have hg4 := only_setCell (only_setCell (only_setCell (only_setCell (World.grownBy.refl wr (some (w.heap.size + 1))) (p := ⟨w.heap.size + 1, 0, none⟩) (.inl rfl) (.slice Av l.length cv)) (p := ⟨w.heap.size + 1, 1, none⟩) (.inl rfl) (.slice Avs ss.length cvs)) (p := ⟨w.heap.size + 1, 2, none⟩) (.inl rfl) (.slice Ac kk.length cc)) (p := ⟨w.heap.size + 1, 3, none⟩) (.inl rfl) (.int .i64 g)
              have n4 := ((((unhide HK).2.2.2.set_ 0 (.slice Av l.length cv)).set_ 1 (.slice Avs ss.length cvs)).set_ 2 (.slice Ac kk.length cc)).set_ 3 (.int .i64 g)
              refine bodyPost_ret (results_cell_row rfl _ _ (w.heap.size + 1) 33 #[.slice Av l.length cv, .slice Avs ss.length cvs, .slice Ac kk.length cc, .int .i64 g] (0, 0) _ rfl n4 Tryd.underlying33 rfl (by kernel_rfl)) rfl ⟨Av, Avs, Ac, cv, cvs, cc, rfl, ?_, ?_⟩
              · refine of_end (T1 := 48) (cv := cv) (unhide HZ) ?_ (unhide HK).1 (unhide HK).2.1 (unhide HK).2.2.1 ?_ (unhide HO3e) hg4 (unhide HL).2
                · have := (unhide HOI).2.1
                  rw [List.take_length, ← unhide HR1] at this
                  exact this
                · exact (unhide HEQ) ▸ unhide HSF
              · exact ((unhide HBW).grown (unhide HK).2.2.1 (unhide HBW).size (fun j hj => by injection hj; omega)).grown hg4 (by have := (unhide HBW).size; have := (unhide HK).2.2.1.size; omega) (fun j hj => by injection hj; omega)
end Go.Proofs.YtiaelaepfhiabaaDoor.Co
