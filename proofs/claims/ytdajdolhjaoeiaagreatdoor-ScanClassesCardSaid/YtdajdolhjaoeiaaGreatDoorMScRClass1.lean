/-
  The reference's Class (clewref07), walked: a turned one. Conditions: the bytes lie in memory, 4096 at most.
-/
import Derived.Test.YtdajdolhjaoeiaaGreatDoorMScRK
set_option linter.unusedVariables false
set_option linter.unusedSimpArgs false
namespace Go.Proofs.YtdajdolhjaoeiaaGreatDoor.Sc
open Go.RowKit Go.Proofs.YtdajdolhjaoeiaaGreatDoor.Mem
open Go.Proofs.YtdajdolhjaoeiaaGreatDoor.Sy (g g_of g_lt isS at_)
open Go.Proofs.YtdajdolhjaoeiaaGreatDoor.Cl (isOf isName nameL)

attribute [local go_sem] build_r0 build_r3 build_pR build_p1 build_pp build_pi Go.Proofs.YtdajdolhjaoeiaaGreatDoor.Rs.run_not_true Go.Proofs.YtdajdolhjaoeiaaGreatDoor.Rs.run_not_false
set_option maxRecDepth 100000 in
set_option maxHeartbeats 40000000 in
theorem rclass_not (bs : List UInt8) (A : Option Addr) (cap k : Nat) (w : World) (hP : PV bs A cap w) (hk : k < bs.length) (hl : bs.length ≤ 4096) (h91 : g bs k = 91) (h94 : g bs (k + 1) = 94) :
    Calls Tryz.prog 15 #[.slice A bs.length cap, .int .i64 (k : Int)] w (GivesRK (clsP bs k) true w) := by
  have HP := hide hP
  have hroom := hP.room
  have htop := hP.top
  have hli : (bs.length : Int) ≤ 4096 := by omega
  have hki : (k : Int) + 1 ≤ (bs.length : Int) := by omega
  have C1 := hide (rat_e hP (i := (k : Int)) (k := k) (c := 91) rfl h91)
  have hPC := hP.cell hk
  have HPC := hide hPC
  clear hP hPC
  obtain ⟨f, hf⟩ : ∃ f, k + 2 = f := ⟨_, rfl⟩
  have hfi : (k : Int) + 1 + 1 = (f : Int) := by omega
  have HFP := hide (show clsP bs k = clsF bs k f f [] by unfold clsP fsP; rw [if_pos h94, hf])
  have C2 := hide (rat_e (unhide HP) (i := (k : Int) + 1) (k := k + 1) (c := 94) (by push_cast; rfl) h94)
  have hk2 := g_in (bs := bs) (k := k + 1) (by omega)
  have hki2 : (k : Int) + 2 ≤ (bs.length : Int) := by omega
  have hfl : f ≤ bs.length := by omega
  have HFL := hide hfl
  clear hk2 h91 h94 hf hfl
  go_enter Tryz.func15, Tryz.ntmps15
  go_wp2_with fail
  refine (unhide C1).mono ?_
  rintro e w1 ⟨rfl, hw1⟩
  obtain rfl : _ = w1 := hw1.symm
  go_wp2_with fail
  refine (unhide C2).mono ?_
  rintro e w1 ⟨rfl, hw1⟩
  obtain rfl : _ = w1 := hw1.symm
  go_wp2_with fail
  go_loopw [9, 11] (fun i v wr => RKRel bs k f w i v wr) (fun i _ _ => bs.length - (intOf i).toNat)
  case atStart => exact ⟨f, [], rfl, Nat.le_refl _, unhide HFL, unhide HFP, by simp, (fun p hp => by cases hp), World.ownsRow_nil _ _ _ _, Below.refl _ _⟩
  case round =>
    obtain ⟨m, acc, rfl, hfm, hm, hF, hal, hak, hcut⟩ := hrel
    go_hideQ
    have HF := hide hF
    have HCUT := hide hcut
    have HAK := hide hak
    have hmi : (m : Int) ≤ (bs.length : Int) := by omega
    clear hF hcut hak
    by_cases hmf : m = f
    · have e1 : ((m : Int) == (f : Int)) = true := by rw [beq_iff_eq]; omega
      have hno : ¬ (m ≠ f ∧ g bs m = 93) := fun h => h.1 hmf
      clear hmf
      by_cases hin : m < bs.length
      · have hin' : (m : Int) < (bs.length : Int) := by omega
        have HE := hide (fun e h => (unhide HF).trans (clsF_err (acc := acc) (e := e) hin hno h))
        have HO := hide (fun p q h hq => (unhide HF).trans (clsF_on (acc := acc) (p := p) (q := q) hin hno h hq))
        clear HF hno
        have CP := hide (rpiece_any bs A cap m wr ((unhide HP).below (unhide HCUT).2) hin hl)
        have hpi := piece_in hin
        cases hx : pieceP bs m with
        | err c =>
          rw [hx] at CP hpi
          unfold GivesRef at CP
          rw [rv_err] at CP
          have HQE := hide ((unhide HE) (c, m) (show partP bs m = .error (c, m) by unfold partP; rw [hx]))
          have e0 : ((c : Int) != 0) = true := by have := hpi.1; simp; omega
          have e0' : ¬ ((c : Int) = 0) := by have := hpi.1; omega
          clear hpi HE HO hx
          go_wp2_with fail
          refine (unhide CP).mono ?_
          rintro e w5 ⟨rfl, hB⟩
          have HB5 := hide ((unhide HCUT).2.trans (hB.mono (unhide HCUT).2.size))
          have HOW := hide (Rs.own_below (unhide HCUT).1 hB)
          have hwz5 := (unhide HB5).size
          clear CP
          have HBA := hide ((unhide HB5).alloc (unhide HB5).size (.cells #[.int .i64 0, .int .i64 0, .int .i64 0, .string ⟨#[]⟩, .int .u8 0, .bool false] 31))
          clear hB
          go_wp2_with fail
          (try simp only [Exit.inBlock, Exit.then])
          exact bodyPost_ret (v := .tuple #[.slice none 0 0, .bool false, .int .i64 0, .int .i64 (c : Int), .int .i64 (m : Int)]) (by simp [results, Tryz.f15]) rfl (by rw [unhide HQE]; exact ⟨rfl, unhide HBA⟩)
        | cls c q =>
          rw [hx] at CP hpi
          unfold GivesRef at CP
          rw [rv_cls] at CP
          obtain ⟨hq1, hq2, hok⟩ := hpi
          have HQ := hide ((unhide HO) (.it (.cls c q)) q (show partP bs m = .ok (.it (.cls c q), q) by unfold partP; rw [hx]; rfl) hq1)
          have HOK := hide (show OkP (.it (.cls c q)) from hok.1)
          clear hok HE HO hx
          go_wp2_with fail
          refine (unhide CP).mono ?_
          rintro e w5 ⟨rfl, hB⟩
          have HB5 := hide ((unhide HCUT).2.trans (hB.mono (unhide HCUT).2.size))
          have HOW := hide (Rs.own_below (unhide HCUT).1 hB)
          have hwz5 := (unhide HB5).size
          clear CP
          have hb6 : Below w.heap.size w (w5.alloc (.cells #[.int .i64 2, .int .i64 (q : Int), .int .i64 0, .string ⟨#[]⟩, .int .u8 (c : Int), .bool false] 31)) := (unhide HB5).alloc (unhide HB5).size _
          clear hB
          have HOWW := hide ((unhide HOW).alloc (.cells #[.int .i64 2, .int .i64 (q : Int), .int .i64 0, .string ⟨#[]⟩, .int .u8 (c : Int), .bool false] 31))
          have HBW := hide (hb6)
          have HKX := hide (Blk.new w5 31 #[.int .i64 2, .int .i64 (q : Int), .int .i64 0, .string ⟨#[]⟩, .int .u8 (c : Int), .bool false])
          have hal5 : acc.length ≤ 5000 := by omega
          go_wp2_with (at_builtin; refine wp_app_P (w0 := w) (.it (.cls c q)) acc rfl rfl rfl rfl rfl (by simp) (unhide HOWW) (unhide HBW) hal5 ?_; intro v6 w6 ho6 ho7; have HO6 := hide ho6; obtain ⟨⟨u0, u1, u2, u3, u4, u5⟩, -⟩ := cells6 (ho7 _ _ _ (unhide HKX) (by decide)); clear ho6 ho7)
          have HR := hide (show RKRel bs k f w (.int .i64 (q : Int)) v6 w6 from ⟨q, acc ++ [.it (.cls c q)], rfl, by omega, by omega, unhide HQ, by simp; omega, allOk_snoc (unhide HAK) (unhide HOK), unhide HO6⟩)
          go_wp2_with fail
          have hR := unhide HR
          first | exact ⟨hR, by simp [intOf]; omega⟩ | (go_roundw; (case rel => exact hR); (case measure => (simp [intOf]; omega)))
        | nam s t q =>
          rw [hx] at CP hpi
          unfold GivesRef at CP
          rw [rv_nam] at CP
          obtain ⟨hq1, hq2, hok⟩ := hpi
          have HQ := hide ((unhide HO) (.it (.nam s t q)) q (show partP bs m = .ok (.it (.nam s t q), q) by unfold partP; rw [hx]; rfl) hq1)
          have HOK := hide (show OkP (.it (.nam s t q)) from trivial)
          clear hok HE HO hx
          go_wp2_with fail
          refine (unhide CP).mono ?_
          rintro e w5 ⟨rfl, hB⟩
          have HB5 := hide ((unhide HCUT).2.trans (hB.mono (unhide HCUT).2.size))
          have HOW := hide (Rs.own_below (unhide HCUT).1 hB)
          have hwz5 := (unhide HB5).size
          clear CP
          have hb6 : Below w.heap.size w (w5.alloc (.cells #[.int .i64 2, .int .i64 (q : Int), .int .i64 0, .string ⟨s.toArray⟩, .int .u8 0, .bool t] 31)) := (unhide HB5).alloc (unhide HB5).size _
          clear hB
          have HOWW := hide ((unhide HOW).alloc (.cells #[.int .i64 2, .int .i64 (q : Int), .int .i64 0, .string ⟨s.toArray⟩, .int .u8 0, .bool t] 31))
          have HBW := hide (hb6)
          have HKX := hide (Blk.new w5 31 #[.int .i64 2, .int .i64 (q : Int), .int .i64 0, .string ⟨s.toArray⟩, .int .u8 0, .bool t])
          have hal5 : acc.length ≤ 5000 := by omega
          go_wp2_with (at_builtin; refine wp_app_P (w0 := w) (.it (.nam s t q)) acc rfl rfl rfl rfl rfl (by simp) (unhide HOWW) (unhide HBW) hal5 ?_; intro v6 w6 ho6 ho7; have HO6 := hide ho6; obtain ⟨⟨u0, u1, u2, u3, u4, u5⟩, -⟩ := cells6 (ho7 _ _ _ (unhide HKX) (by decide)); clear ho6 ho7)
          have HR := hide (show RKRel bs k f w (.int .i64 (q : Int)) v6 w6 from ⟨q, acc ++ [.it (.nam s t q)], rfl, by omega, by omega, unhide HQ, by simp; omega, allOk_snoc (unhide HAK) (unhide HOK), unhide HO6⟩)
          go_wp2_with fail
          have hR := unhide HR
          first | exact ⟨hR, by simp [intOf]; omega⟩ | (go_roundw; (case rel => exact hR); (case measure => (simp [intOf]; omega)))
        | hld a b => rw [hx] at hpi; exact hpi.elim
        | ref a b => rw [hx] at hpi; exact hpi.elim
        | key a b => rw [hx] at hpi; exact hpi.elim
        | lit n q =>
          rw [hx] at CP hpi
          unfold GivesRef at CP
          rw [rv_lit] at CP
          obtain ⟨hq1, hq2, hn3⟩ := hpi
          have hqi : (q : Int) ≤ (bs.length : Int) := by omega
          have HP5 := hide (fun W (hB : Below w.heap.size w W) => (unhide HP).below hB)
          by_cases hr : rgP bs q = true
          · obtain ⟨h45, hq3, h93⟩ := rg_in hr
            have hpi2 := piece_in hq3
            have hqi3 : (q : Int) + 1 < (bs.length : Int) := by omega
            have e93 : ((g bs (q + 1) : Int) != 93) = true := by rw [bne_iff_ne]; omega
            have e93' : ¬ ((g bs (q + 1) : Int) = 93) := by omega
            have HX := hide hx
            have HRG := hide hr
            clear hx hr
            cases hy : pieceP bs (q + 1) with
            | err c =>
              rw [hy] at hpi2
              have HQE := hide ((unhide HE) (c, q + 1) (show partP bs m = .error (c, q + 1) by unfold partP; rw [unhide HX]; dsimp only; rw [if_pos (unhide HRG), hy]))
              have e0 : ((c : Int) != 0) = true := by have := hpi2.1; simp; omega
              have e0' : ¬ ((c : Int) = 0) := by have := hpi2.1; omega
              clear hpi2 HE HO HX HRG
              go_wp2_with fail
              refine (unhide CP).mono ?_
              rintro e w5 ⟨rfl, hB⟩
              have HB5 := hide ((unhide HCUT).2.trans (hB.mono (unhide HCUT).2.size))
              have HOW := hide (Rs.own_below (unhide HCUT).1 hB)
              have hwz5 := (unhide HB5).size
              clear CP
              have hb6 : Below w.heap.size w ((w5.alloc (.cells #[.int .i64 1, .int .i64 (q : Int), .int .i64 (n : Int), .string ⟨#[]⟩, .int .u8 0, .bool false] 31)).alloc (.cells #[.int .i64 1, .int .i64 (q : Int), .int .i64 (n : Int), .string ⟨#[]⟩, .int .u8 0, .bool false] 31)) := ((unhide HB5).alloc (unhide HB5).size _).alloc (by simp; omega) _
              have HB6 := hide hb6
              have HK6 := hide ((Blk.new w5 31 #[.int .i64 1, .int .i64 (q : Int), .int .i64 (n : Int), .string ⟨#[]⟩, .int .u8 0, .bool false]).alloc (.cells #[.int .i64 1, .int .i64 (q : Int), .int .i64 (n : Int), .string ⟨#[]⟩, .int .u8 0, .bool false] 31))
              have hk7 := Blk.new (w5.alloc (.cells #[.int .i64 1, .int .i64 (q : Int), .int .i64 (n : Int), .string ⟨#[]⟩, .int .u8 0, .bool false] 31)) 31 #[.int .i64 1, .int .i64 (q : Int), .int .i64 (n : Int), .string ⟨#[]⟩, .int .u8 0, .bool false]
              rw [World.size_alloc] at hk7
              have HK7 := hide hk7
              have HO6 := hide (((unhide HOW).alloc (.cells #[.int .i64 1, .int .i64 (q : Int), .int .i64 (n : Int), .string ⟨#[]⟩, .int .u8 0, .bool false] 31)).alloc (.cells #[.int .i64 1, .int .i64 (q : Int), .int .i64 (n : Int), .string ⟨#[]⟩, .int .u8 0, .bool false] 31))
              obtain ⟨⟨x0, x1, x2, x3, x4, x5⟩, -⟩ := cells6 (unhide HK6)
              have CA := hide (rat_e ((unhide HP5) _ hb6) (i := (q : Int)) (k := q) (c := 45) rfl h45)
              obtain ⟨ab, off, eA, hb, hc⟩ := unhide HPC
              subst eA
              have c9 := (hb6.cell (p := ⟨ab, off + (q + 1), none⟩) hb).trans (hc (q + 1) hq3)
              have CP2 := hide (rpiece_any bs _ cap (q + 1) _ ((unhide HP5) _ hb6) hq3 hl)
              rw [Int.natCast_add] at CP2
              clear hb6 hk7 hB h45 hb hc HPC
              rw [hy] at CP2
              unfold GivesRef at CP2
              rw [rv_err] at CP2
              clear hy
              generalize g bs (q + 1) = y93 at *
              go_wp2_with fail
              refine (unhide CA).mono ?_
              rintro e w1 ⟨rfl, hw1⟩
              obtain rfl : _ = w1 := hw1.symm
              go_wp2_with fail
              refine (unhide CP2).mono ?_
              rintro e w8 ⟨rfl, hB⟩
              have HB8 := hide ((unhide HB6).trans (hB.mono (unhide HB6).size))
              have HK8 := hide ((unhide HK6).below hB (unhide HK6).lt)
              have HK9 := hide ((unhide HK7).below hB (unhide HK7).lt)
              have HO8 := hide (Rs.own_below (unhide HO6) hB)
              clear hB CP2 CA c9 x0 x1 x2 x3 x4 x5
              obtain ⟨⟨x0, x1, x2, x3, x4, x5⟩, -⟩ := cells6 (unhide HK8)
              obtain ⟨⟨y0, y1, y2, y3, y4, y5⟩, z0, z1, z2, z3, z4, z5⟩ := cells6 (unhide HK9)
              have HBZ := hide (bel6 (unhide HB8) (show w.heap.size ≤ w5.heap.size + 1 by omega) (.int .i64 0) (.int .i64 0) (.int .i64 0) (.string ⟨#[]⟩) (.int .u8 0) (.bool false))
              go_wp2_with fail
              go_quiet (fail)
              all_goals
                go_wp2_with fail
                (try simp only [Exit.inBlock, Exit.then])
                exact bodyPost_ret (v := .tuple #[.slice none 0 0, .bool false, .int .i64 0, .int .i64 (c : Int), .int .i64 ((q : Int) + 1)]) (by simp [results, Tryz.f15]) rfl (by rw [unhide HQE]; exact ⟨rfl, below_drewN (unhide HBZ) _⟩)
            | cls c q2 =>
              have HQE := hide ((unhide HE) (33, m) (show partP bs m = .error (33, m) by unfold partP; rw [unhide HX]; dsimp only; rw [if_pos (unhide HRG), hy]))
              clear hpi2 HE HO HX HRG
              go_wp2_with fail
              refine (unhide CP).mono ?_
              rintro e w5 ⟨rfl, hB⟩
              have HB5 := hide ((unhide HCUT).2.trans (hB.mono (unhide HCUT).2.size))
              have HOW := hide (Rs.own_below (unhide HCUT).1 hB)
              have hwz5 := (unhide HB5).size
              clear CP
              have hb6 : Below w.heap.size w ((w5.alloc (.cells #[.int .i64 1, .int .i64 (q : Int), .int .i64 (n : Int), .string ⟨#[]⟩, .int .u8 0, .bool false] 31)).alloc (.cells #[.int .i64 1, .int .i64 (q : Int), .int .i64 (n : Int), .string ⟨#[]⟩, .int .u8 0, .bool false] 31)) := ((unhide HB5).alloc (unhide HB5).size _).alloc (by simp; omega) _
              have HB6 := hide hb6
              have HK6 := hide ((Blk.new w5 31 #[.int .i64 1, .int .i64 (q : Int), .int .i64 (n : Int), .string ⟨#[]⟩, .int .u8 0, .bool false]).alloc (.cells #[.int .i64 1, .int .i64 (q : Int), .int .i64 (n : Int), .string ⟨#[]⟩, .int .u8 0, .bool false] 31))
              have hk7 := Blk.new (w5.alloc (.cells #[.int .i64 1, .int .i64 (q : Int), .int .i64 (n : Int), .string ⟨#[]⟩, .int .u8 0, .bool false] 31)) 31 #[.int .i64 1, .int .i64 (q : Int), .int .i64 (n : Int), .string ⟨#[]⟩, .int .u8 0, .bool false]
              rw [World.size_alloc] at hk7
              have HK7 := hide hk7
              have HO6 := hide (((unhide HOW).alloc (.cells #[.int .i64 1, .int .i64 (q : Int), .int .i64 (n : Int), .string ⟨#[]⟩, .int .u8 0, .bool false] 31)).alloc (.cells #[.int .i64 1, .int .i64 (q : Int), .int .i64 (n : Int), .string ⟨#[]⟩, .int .u8 0, .bool false] 31))
              obtain ⟨⟨x0, x1, x2, x3, x4, x5⟩, -⟩ := cells6 (unhide HK6)
              have CA := hide (rat_e ((unhide HP5) _ hb6) (i := (q : Int)) (k := q) (c := 45) rfl h45)
              obtain ⟨ab, off, eA, hb, hc⟩ := unhide HPC
              subst eA
              have c9 := (hb6.cell (p := ⟨ab, off + (q + 1), none⟩) hb).trans (hc (q + 1) hq3)
              have CP2 := hide (rpiece_any bs _ cap (q + 1) _ ((unhide HP5) _ hb6) hq3 hl)
              rw [Int.natCast_add] at CP2
              clear hb6 hk7 hB h45 hb hc HPC
              rw [hy] at CP2
              unfold GivesRef at CP2
              rw [rv_cls] at CP2
              clear hy
              generalize g bs (q + 1) = y93 at *
              go_wp2_with fail
              refine (unhide CA).mono ?_
              rintro e w1 ⟨rfl, hw1⟩
              obtain rfl : _ = w1 := hw1.symm
              go_wp2_with fail
              refine (unhide CP2).mono ?_
              rintro e w8 ⟨rfl, hB⟩
              have HB8 := hide ((unhide HB6).trans (hB.mono (unhide HB6).size))
              have HK8 := hide ((unhide HK6).below hB (unhide HK6).lt)
              have HK9 := hide ((unhide HK7).below hB (unhide HK7).lt)
              have HO8 := hide (Rs.own_below (unhide HO6) hB)
              clear hB CP2 CA c9 x0 x1 x2 x3 x4 x5
              obtain ⟨⟨x0, x1, x2, x3, x4, x5⟩, -⟩ := cells6 (unhide HK8)
              obtain ⟨⟨y0, y1, y2, y3, y4, y5⟩, z0, z1, z2, z3, z4, z5⟩ := cells6 (unhide HK9)
              have HBZ := hide (bel6 (unhide HB8) (show w.heap.size ≤ w5.heap.size + 1 by omega) (.int .i64 2) (.int .i64 (q2 : Int)) (.int .i64 0) (.string ⟨#[]⟩) (.int .u8 (c : Int)) (.bool false))
              go_wp2_with fail
              (try simp only [Exit.inBlock, Exit.then])
              exact bodyPost_ret (v := .tuple #[.slice none 0 0, .bool false, .int .i64 0, .int .i64 33, .int .i64 (m : Int)]) (by simp [results, Tryz.f15]) rfl (by rw [unhide HQE]; exact ⟨rfl, unhide HBZ⟩)
            | nam s t q2 =>
              have HQE := hide ((unhide HE) (33, m) (show partP bs m = .error (33, m) by unfold partP; rw [unhide HX]; dsimp only; rw [if_pos (unhide HRG), hy]))
              clear hpi2 HE HO HX HRG
              go_wp2_with fail
              refine (unhide CP).mono ?_
              rintro e w5 ⟨rfl, hB⟩
              have HB5 := hide ((unhide HCUT).2.trans (hB.mono (unhide HCUT).2.size))
              have HOW := hide (Rs.own_below (unhide HCUT).1 hB)
              have hwz5 := (unhide HB5).size
              clear CP
              have hb6 : Below w.heap.size w ((w5.alloc (.cells #[.int .i64 1, .int .i64 (q : Int), .int .i64 (n : Int), .string ⟨#[]⟩, .int .u8 0, .bool false] 31)).alloc (.cells #[.int .i64 1, .int .i64 (q : Int), .int .i64 (n : Int), .string ⟨#[]⟩, .int .u8 0, .bool false] 31)) := ((unhide HB5).alloc (unhide HB5).size _).alloc (by simp; omega) _
              have HB6 := hide hb6
              have HK6 := hide ((Blk.new w5 31 #[.int .i64 1, .int .i64 (q : Int), .int .i64 (n : Int), .string ⟨#[]⟩, .int .u8 0, .bool false]).alloc (.cells #[.int .i64 1, .int .i64 (q : Int), .int .i64 (n : Int), .string ⟨#[]⟩, .int .u8 0, .bool false] 31))
              have hk7 := Blk.new (w5.alloc (.cells #[.int .i64 1, .int .i64 (q : Int), .int .i64 (n : Int), .string ⟨#[]⟩, .int .u8 0, .bool false] 31)) 31 #[.int .i64 1, .int .i64 (q : Int), .int .i64 (n : Int), .string ⟨#[]⟩, .int .u8 0, .bool false]
              rw [World.size_alloc] at hk7
              have HK7 := hide hk7
              have HO6 := hide (((unhide HOW).alloc (.cells #[.int .i64 1, .int .i64 (q : Int), .int .i64 (n : Int), .string ⟨#[]⟩, .int .u8 0, .bool false] 31)).alloc (.cells #[.int .i64 1, .int .i64 (q : Int), .int .i64 (n : Int), .string ⟨#[]⟩, .int .u8 0, .bool false] 31))
              obtain ⟨⟨x0, x1, x2, x3, x4, x5⟩, -⟩ := cells6 (unhide HK6)
              have CA := hide (rat_e ((unhide HP5) _ hb6) (i := (q : Int)) (k := q) (c := 45) rfl h45)
              obtain ⟨ab, off, eA, hb, hc⟩ := unhide HPC
              subst eA
              have c9 := (hb6.cell (p := ⟨ab, off + (q + 1), none⟩) hb).trans (hc (q + 1) hq3)
              have CP2 := hide (rpiece_any bs _ cap (q + 1) _ ((unhide HP5) _ hb6) hq3 hl)
              rw [Int.natCast_add] at CP2
              clear hb6 hk7 hB h45 hb hc HPC
              rw [hy] at CP2
              unfold GivesRef at CP2
              rw [rv_nam] at CP2
              clear hy
              generalize g bs (q + 1) = y93 at *
              go_wp2_with fail
              refine (unhide CA).mono ?_
              rintro e w1 ⟨rfl, hw1⟩
              obtain rfl : _ = w1 := hw1.symm
              go_wp2_with fail
              refine (unhide CP2).mono ?_
              rintro e w8 ⟨rfl, hB⟩
              have HB8 := hide ((unhide HB6).trans (hB.mono (unhide HB6).size))
              have HK8 := hide ((unhide HK6).below hB (unhide HK6).lt)
              have HK9 := hide ((unhide HK7).below hB (unhide HK7).lt)
              have HO8 := hide (Rs.own_below (unhide HO6) hB)
              clear hB CP2 CA c9 x0 x1 x2 x3 x4 x5
              obtain ⟨⟨x0, x1, x2, x3, x4, x5⟩, -⟩ := cells6 (unhide HK8)
              obtain ⟨⟨y0, y1, y2, y3, y4, y5⟩, z0, z1, z2, z3, z4, z5⟩ := cells6 (unhide HK9)
              have HBZ := hide (bel6 (unhide HB8) (show w.heap.size ≤ w5.heap.size + 1 by omega) (.int .i64 2) (.int .i64 (q2 : Int)) (.int .i64 0) (.string ⟨s.toArray⟩) (.int .u8 0) (.bool t))
              go_wp2_with fail
              (try simp only [Exit.inBlock, Exit.then])
              exact bodyPost_ret (v := .tuple #[.slice none 0 0, .bool false, .int .i64 0, .int .i64 33, .int .i64 (m : Int)]) (by simp [results, Tryz.f15]) rfl (by rw [unhide HQE]; exact ⟨rfl, unhide HBZ⟩)
            | hld a b => rw [hy] at hpi2; exact hpi2.elim
            | ref a b => rw [hy] at hpi2; exact hpi2.elim
            | key a b => rw [hy] at hpi2; exact hpi2.elim
            | lit z q2 =>
              rw [hy] at hpi2
              obtain ⟨hq21, hq22, hz3⟩ := hpi2
              have hq2i : (q2 : Int) ≤ (bs.length : Int) := by omega
              by_cases hzn : z < n
              · have HQE := hide ((unhide HE) (33, m) (show partP bs m = .error (33, m) by unfold partP; rw [unhide HX]; dsimp only; rw [if_pos (unhide HRG), hy]; dsimp only; rw [if_pos hzn]))
                have hzi : (z : Int) < (n : Int) := by omega
                clear HE HO HX HRG hzn
                go_wp2_with fail
                refine (unhide CP).mono ?_
                rintro e w5 ⟨rfl, hB⟩
                have HB5 := hide ((unhide HCUT).2.trans (hB.mono (unhide HCUT).2.size))
                have HOW := hide (Rs.own_below (unhide HCUT).1 hB)
                have hwz5 := (unhide HB5).size
                clear CP
                have hb6 : Below w.heap.size w ((w5.alloc (.cells #[.int .i64 1, .int .i64 (q : Int), .int .i64 (n : Int), .string ⟨#[]⟩, .int .u8 0, .bool false] 31)).alloc (.cells #[.int .i64 1, .int .i64 (q : Int), .int .i64 (n : Int), .string ⟨#[]⟩, .int .u8 0, .bool false] 31)) := ((unhide HB5).alloc (unhide HB5).size _).alloc (by simp; omega) _
                have HB6 := hide hb6
                have HK6 := hide ((Blk.new w5 31 #[.int .i64 1, .int .i64 (q : Int), .int .i64 (n : Int), .string ⟨#[]⟩, .int .u8 0, .bool false]).alloc (.cells #[.int .i64 1, .int .i64 (q : Int), .int .i64 (n : Int), .string ⟨#[]⟩, .int .u8 0, .bool false] 31))
                have hk7 := Blk.new (w5.alloc (.cells #[.int .i64 1, .int .i64 (q : Int), .int .i64 (n : Int), .string ⟨#[]⟩, .int .u8 0, .bool false] 31)) 31 #[.int .i64 1, .int .i64 (q : Int), .int .i64 (n : Int), .string ⟨#[]⟩, .int .u8 0, .bool false]
                rw [World.size_alloc] at hk7
                have HK7 := hide hk7
                have HO6 := hide (((unhide HOW).alloc (.cells #[.int .i64 1, .int .i64 (q : Int), .int .i64 (n : Int), .string ⟨#[]⟩, .int .u8 0, .bool false] 31)).alloc (.cells #[.int .i64 1, .int .i64 (q : Int), .int .i64 (n : Int), .string ⟨#[]⟩, .int .u8 0, .bool false] 31))
                obtain ⟨⟨x0, x1, x2, x3, x4, x5⟩, -⟩ := cells6 (unhide HK6)
                have CA := hide (rat_e ((unhide HP5) _ hb6) (i := (q : Int)) (k := q) (c := 45) rfl h45)
                obtain ⟨ab, off, eA, hb, hc⟩ := unhide HPC
                subst eA
                have c9 := (hb6.cell (p := ⟨ab, off + (q + 1), none⟩) hb).trans (hc (q + 1) hq3)
                have CP2 := hide (rpiece_any bs _ cap (q + 1) _ ((unhide HP5) _ hb6) hq3 hl)
                rw [Int.natCast_add] at CP2
                clear hb6 hk7 hB h45 hb hc HPC
                rw [hy] at CP2
                unfold GivesRef at CP2
                rw [rv_lit] at CP2
                clear hy
                generalize g bs (q + 1) = y93 at *
                go_wp2_with fail
                refine (unhide CA).mono ?_
                rintro e w1 ⟨rfl, hw1⟩
                obtain rfl : _ = w1 := hw1.symm
                go_wp2_with fail
                refine (unhide CP2).mono ?_
                rintro e w8 ⟨rfl, hB⟩
                have HB8 := hide ((unhide HB6).trans (hB.mono (unhide HB6).size))
                have HK8 := hide ((unhide HK6).below hB (unhide HK6).lt)
                have HK9 := hide ((unhide HK7).below hB (unhide HK7).lt)
                have HO8 := hide (Rs.own_below (unhide HO6) hB)
                clear hB CP2 CA c9 x0 x1 x2 x3 x4 x5
                obtain ⟨⟨x0, x1, x2, x3, x4, x5⟩, -⟩ := cells6 (unhide HK8)
                obtain ⟨⟨y0, y1, y2, y3, y4, y5⟩, z0, z1, z2, z3, z4, z5⟩ := cells6 (unhide HK9)
                have HBZ := hide (bel6 (unhide HB8) (show w.heap.size ≤ w5.heap.size + 1 by omega) (.int .i64 1) (.int .i64 (q2 : Int)) (.int .i64 (z : Int)) (.string ⟨#[]⟩) (.int .u8 0) (.bool false))
                go_wp2_with fail
                (try simp only [Exit.inBlock, Exit.then])
                exact bodyPost_ret (v := .tuple #[.slice none 0 0, .bool false, .int .i64 0, .int .i64 33, .int .i64 (m : Int)]) (by simp [results, Tryz.f15]) rfl (by rw [unhide HQE]; exact ⟨rfl, unhide HBZ⟩)
              · have HQ := hide ((unhide HO) (.rng n z) q2 (show partP bs m = .ok (.rng n z, q2) by unfold partP; rw [unhide HX]; dsimp only; rw [if_pos (unhide HRG), hy]; dsimp only; rw [if_neg hzn]) (by omega))
                have hzi : (n : Int) ≤ (z : Int) := by omega
                have hzi' : n ≤ z := by omega
                have dz1 : decide (z < n) = false := decide_eq_false hzn
                have dz2 : decide ((z : Int) < (n : Int)) = false := decide_eq_false (by omega)
                clear HE HO HX HRG hzn
                go_wp2_with fail
                refine (unhide CP).mono ?_
                rintro e w5 ⟨rfl, hB⟩
                have HB5 := hide ((unhide HCUT).2.trans (hB.mono (unhide HCUT).2.size))
                have HOW := hide (Rs.own_below (unhide HCUT).1 hB)
                have hwz5 := (unhide HB5).size
                clear CP
                have hb6 : Below w.heap.size w ((w5.alloc (.cells #[.int .i64 1, .int .i64 (q : Int), .int .i64 (n : Int), .string ⟨#[]⟩, .int .u8 0, .bool false] 31)).alloc (.cells #[.int .i64 1, .int .i64 (q : Int), .int .i64 (n : Int), .string ⟨#[]⟩, .int .u8 0, .bool false] 31)) := ((unhide HB5).alloc (unhide HB5).size _).alloc (by simp; omega) _
                have HB6 := hide hb6
                have HK6 := hide ((Blk.new w5 31 #[.int .i64 1, .int .i64 (q : Int), .int .i64 (n : Int), .string ⟨#[]⟩, .int .u8 0, .bool false]).alloc (.cells #[.int .i64 1, .int .i64 (q : Int), .int .i64 (n : Int), .string ⟨#[]⟩, .int .u8 0, .bool false] 31))
                have hk7 := Blk.new (w5.alloc (.cells #[.int .i64 1, .int .i64 (q : Int), .int .i64 (n : Int), .string ⟨#[]⟩, .int .u8 0, .bool false] 31)) 31 #[.int .i64 1, .int .i64 (q : Int), .int .i64 (n : Int), .string ⟨#[]⟩, .int .u8 0, .bool false]
                rw [World.size_alloc] at hk7
                have HK7 := hide hk7
                have HO6 := hide (((unhide HOW).alloc (.cells #[.int .i64 1, .int .i64 (q : Int), .int .i64 (n : Int), .string ⟨#[]⟩, .int .u8 0, .bool false] 31)).alloc (.cells #[.int .i64 1, .int .i64 (q : Int), .int .i64 (n : Int), .string ⟨#[]⟩, .int .u8 0, .bool false] 31))
                obtain ⟨⟨x0, x1, x2, x3, x4, x5⟩, -⟩ := cells6 (unhide HK6)
                have CA := hide (rat_e ((unhide HP5) _ hb6) (i := (q : Int)) (k := q) (c := 45) rfl h45)
                obtain ⟨ab, off, eA, hb, hc⟩ := unhide HPC
                subst eA
                have c9 := (hb6.cell (p := ⟨ab, off + (q + 1), none⟩) hb).trans (hc (q + 1) hq3)
                have CP2 := hide (rpiece_any bs _ cap (q + 1) _ ((unhide HP5) _ hb6) hq3 hl)
                rw [Int.natCast_add] at CP2
                clear hb6 hk7 hB h45 hb hc HPC
                rw [hy] at CP2
                unfold GivesRef at CP2
                rw [rv_lit] at CP2
                clear hy
                generalize g bs (q + 1) = y93 at *
                go_wp2_with fail
                refine (unhide CA).mono ?_
                rintro e w1 ⟨rfl, hw1⟩
                obtain rfl : _ = w1 := hw1.symm
                go_wp2_with fail
                refine (unhide CP2).mono ?_
                rintro e w8 ⟨rfl, hB⟩
                have HB8 := hide ((unhide HB6).trans (hB.mono (unhide HB6).size))
                have HK8 := hide ((unhide HK6).below hB (unhide HK6).lt)
                have HK9 := hide ((unhide HK7).below hB (unhide HK7).lt)
                have HO8 := hide (Rs.own_below (unhide HO6) hB)
                clear hB CP2 CA c9 x0 x1 x2 x3 x4 x5
                obtain ⟨⟨x0, x1, x2, x3, x4, x5⟩, -⟩ := cells6 (unhide HK8)
                obtain ⟨⟨y0, y1, y2, y3, y4, y5⟩, z0, z1, z2, z3, z4, z5⟩ := cells6 (unhide HK9)
                have HOWW := hide (own_set6 (unhide HO8) (unhide HK9) (by decide) (.int .i64 1) (.int .i64 (q2 : Int)) (.int .i64 (z : Int)) (.string ⟨#[]⟩) (.int .u8 0) (.bool false))
                have HBW := hide (bel6 (unhide HB8) (show w.heap.size ≤ w5.heap.size + 1 by omega) (.int .i64 1) (.int .i64 (q2 : Int)) (.int .i64 (z : Int)) (.string ⟨#[]⟩) (.int .u8 0) (.bool false))
                have HKX := hide (set6 (unhide HK9) (.int .i64 1) (.int .i64 (q2 : Int)) (.int .i64 (z : Int)) (.string ⟨#[]⟩) (.int .u8 0) (.bool false))
                have hal5 : acc.length ≤ 5000 := by omega
                go_wp2_with (at_builtin; refine wp_app_P (w0 := w) (.rng n z) acc rfl rfl rfl rfl rfl (by simp [World.setCell]) (unhide HOWW) (unhide HBW) hal5 ?_; intro v6 w6 ho6 ho7; have HO6 := hide ho6; obtain ⟨⟨u0, u1, u2, u3, u4, u5⟩, -⟩ := cells6 (ho7 _ _ _ (unhide HKX) (by decide)); clear ho6 ho7)
                have HR := hide (show RKRel bs k f w (.int .i64 (q2 : Int)) v6 w6 from ⟨q2, acc ++ [.rng n z], rfl, by omega, by omega, unhide HQ, by simp; omega, allOk_snoc (unhide HAK) (show OkP (.rng _ _) from trivial), unhide HO6⟩)
                go_wp2_with fail
                have hR := unhide HR
                first | exact ⟨hR, by simp [intOf]; omega⟩ | (go_roundw; (case rel => exact hR); (case measure => (simp [intOf]; omega)))
          · have HQ := hide ((unhide HO) (.rng n n) q (show partP bs m = .ok (.rng n n, q) by unfold partP; rw [hx]; simp only []; rw [if_neg hr]) hq1)
            clear HE HO hx
            have hr3 := rg_no hr
            clear hr
            rcases hr3 with h45 | ⟨h45, hq3⟩ | ⟨h45, hq3, h93⟩
            · have e45 : ((g bs q : Int) == 45) = false := by rw [beq_eq_false_iff_ne]; omega
              have e45' : ¬ ((g bs q : Int) = 45) := by omega
              go_wp2_with fail
              refine (unhide CP).mono ?_
              rintro e w5 ⟨rfl, hB⟩
              have HB5 := hide ((unhide HCUT).2.trans (hB.mono (unhide HCUT).2.size))
              have HOW := hide (Rs.own_below (unhide HCUT).1 hB)
              have hwz5 := (unhide HB5).size
              clear CP
              have hb6 : Below w.heap.size w ((w5.alloc (.cells #[.int .i64 1, .int .i64 (q : Int), .int .i64 (n : Int), .string ⟨#[]⟩, .int .u8 0, .bool false] 31)).alloc (.cells #[.int .i64 1, .int .i64 (q : Int), .int .i64 (n : Int), .string ⟨#[]⟩, .int .u8 0, .bool false] 31)) := ((unhide HB5).alloc (unhide HB5).size _).alloc (by simp; omega) _
              have HB6 := hide hb6
              have HK6 := hide ((Blk.new w5 31 #[.int .i64 1, .int .i64 (q : Int), .int .i64 (n : Int), .string ⟨#[]⟩, .int .u8 0, .bool false]).alloc (.cells #[.int .i64 1, .int .i64 (q : Int), .int .i64 (n : Int), .string ⟨#[]⟩, .int .u8 0, .bool false] 31))
              obtain ⟨⟨x0, x1, x2, x3, x4, x5⟩, -⟩ := cells6 (unhide HK6)
              have CA := hide (rat_e ((unhide HP5) _ hb6) (i := (q : Int)) (k := q) (c := g bs q) rfl rfl)
              clear hb6 hB h45
              generalize g bs q = y45 at *
              go_wp2_with fail
              refine (unhide CA).mono ?_
              rintro e w1 ⟨rfl, hw1⟩
              obtain rfl : _ = w1 := hw1.symm
              have HOWW := hide (((unhide HOW).alloc (.cells #[.int .i64 1, .int .i64 (q : Int), .int .i64 (n : Int), .string ⟨#[]⟩, .int .u8 0, .bool false] 31)).alloc (.cells #[.int .i64 1, .int .i64 (q : Int), .int .i64 (n : Int), .string ⟨#[]⟩, .int .u8 0, .bool false] 31))
              have HBW := hide (unhide HB6)
              have HKX := hide ((by have h := Blk.new (w5.alloc (.cells #[.int .i64 1, .int .i64 (q : Int), .int .i64 (n : Int), .string ⟨#[]⟩, .int .u8 0, .bool false] 31)) 31 #[.int .i64 1, .int .i64 (q : Int), .int .i64 (n : Int), .string ⟨#[]⟩, .int .u8 0, .bool false]; rwa [World.size_alloc] at h : Blk ((w5.alloc (.cells #[.int .i64 1, .int .i64 (q : Int), .int .i64 (n : Int), .string ⟨#[]⟩, .int .u8 0, .bool false] 31)).alloc (.cells #[.int .i64 1, .int .i64 (q : Int), .int .i64 (n : Int), .string ⟨#[]⟩, .int .u8 0, .bool false] 31)) (w5.heap.size + 1) 31 #[.int .i64 1, .int .i64 (q : Int), .int .i64 (n : Int), .string ⟨#[]⟩, .int .u8 0, .bool false]))
              have hal5 : acc.length ≤ 5000 := by omega
              go_wp2_with (at_builtin; refine wp_app_P (w0 := w) (.rng n n) acc rfl rfl rfl rfl rfl (by simp) (unhide HOWW) (unhide HBW) hal5 ?_; intro v6 w6 ho6 ho7; have HO6 := hide ho6; obtain ⟨⟨u0, u1, u2, u3, u4, u5⟩, -⟩ := cells6 (ho7 _ _ _ (unhide HKX) (by decide)); clear ho6 ho7)
              have HR := hide (show RKRel bs k f w (.int .i64 (q : Int)) v6 w6 from ⟨q, acc ++ [.rng n n], rfl, by omega, by omega, unhide HQ, by simp; omega, allOk_snoc (unhide HAK) (show OkP (.rng _ _) from trivial), unhide HO6⟩)
              go_wp2_with fail
              have hR := unhide HR
              first | exact ⟨hR, by simp [intOf]; omega⟩ | (go_roundw; (case rel => exact hR); (case measure => (simp [intOf]; omega)))
            · have hq3i : (bs.length : Int) ≤ (q : Int) + 1 := by omega
              go_wp2_with fail
              refine (unhide CP).mono ?_
              rintro e w5 ⟨rfl, hB⟩
              have HB5 := hide ((unhide HCUT).2.trans (hB.mono (unhide HCUT).2.size))
              have HOW := hide (Rs.own_below (unhide HCUT).1 hB)
              have hwz5 := (unhide HB5).size
              clear CP
              have hb6 : Below w.heap.size w ((w5.alloc (.cells #[.int .i64 1, .int .i64 (q : Int), .int .i64 (n : Int), .string ⟨#[]⟩, .int .u8 0, .bool false] 31)).alloc (.cells #[.int .i64 1, .int .i64 (q : Int), .int .i64 (n : Int), .string ⟨#[]⟩, .int .u8 0, .bool false] 31)) := ((unhide HB5).alloc (unhide HB5).size _).alloc (by simp; omega) _
              have HB6 := hide hb6
              have HK6 := hide ((Blk.new w5 31 #[.int .i64 1, .int .i64 (q : Int), .int .i64 (n : Int), .string ⟨#[]⟩, .int .u8 0, .bool false]).alloc (.cells #[.int .i64 1, .int .i64 (q : Int), .int .i64 (n : Int), .string ⟨#[]⟩, .int .u8 0, .bool false] 31))
              obtain ⟨⟨x0, x1, x2, x3, x4, x5⟩, -⟩ := cells6 (unhide HK6)
              have CA := hide (rat_e ((unhide HP5) _ hb6) (i := (q : Int)) (k := q) (c := 45) rfl h45)
              clear hb6 hB h45 hq3
              go_wp2_with fail
              refine (unhide CA).mono ?_
              rintro e w1 ⟨rfl, hw1⟩
              obtain rfl : _ = w1 := hw1.symm
              have HOWW := hide (((unhide HOW).alloc (.cells #[.int .i64 1, .int .i64 (q : Int), .int .i64 (n : Int), .string ⟨#[]⟩, .int .u8 0, .bool false] 31)).alloc (.cells #[.int .i64 1, .int .i64 (q : Int), .int .i64 (n : Int), .string ⟨#[]⟩, .int .u8 0, .bool false] 31))
              have HBW := hide (unhide HB6)
              have HKX := hide ((by have h := Blk.new (w5.alloc (.cells #[.int .i64 1, .int .i64 (q : Int), .int .i64 (n : Int), .string ⟨#[]⟩, .int .u8 0, .bool false] 31)) 31 #[.int .i64 1, .int .i64 (q : Int), .int .i64 (n : Int), .string ⟨#[]⟩, .int .u8 0, .bool false]; rwa [World.size_alloc] at h : Blk ((w5.alloc (.cells #[.int .i64 1, .int .i64 (q : Int), .int .i64 (n : Int), .string ⟨#[]⟩, .int .u8 0, .bool false] 31)).alloc (.cells #[.int .i64 1, .int .i64 (q : Int), .int .i64 (n : Int), .string ⟨#[]⟩, .int .u8 0, .bool false] 31)) (w5.heap.size + 1) 31 #[.int .i64 1, .int .i64 (q : Int), .int .i64 (n : Int), .string ⟨#[]⟩, .int .u8 0, .bool false]))
              have hal5 : acc.length ≤ 5000 := by omega
              go_wp2_with (at_builtin; refine wp_app_P (w0 := w) (.rng n n) acc rfl rfl rfl rfl rfl (by simp) (unhide HOWW) (unhide HBW) hal5 ?_; intro v6 w6 ho6 ho7; have HO6 := hide ho6; obtain ⟨⟨u0, u1, u2, u3, u4, u5⟩, -⟩ := cells6 (ho7 _ _ _ (unhide HKX) (by decide)); clear ho6 ho7)
              have HR := hide (show RKRel bs k f w (.int .i64 (q : Int)) v6 w6 from ⟨q, acc ++ [.rng n n], rfl, by omega, by omega, unhide HQ, by simp; omega, allOk_snoc (unhide HAK) (show OkP (.rng _ _) from trivial), unhide HO6⟩)
              go_wp2_with fail
              have hR := unhide HR
              first | exact ⟨hR, by simp [intOf]; omega⟩ | (go_roundw; (case rel => exact hR); (case measure => (simp [intOf]; omega)))
            · have hq3i : (q : Int) + 1 < (bs.length : Int) := by omega
              go_wp2_with fail
              refine (unhide CP).mono ?_
              rintro e w5 ⟨rfl, hB⟩
              have HB5 := hide ((unhide HCUT).2.trans (hB.mono (unhide HCUT).2.size))
              have HOW := hide (Rs.own_below (unhide HCUT).1 hB)
              have hwz5 := (unhide HB5).size
              clear CP
              have hb6 : Below w.heap.size w ((w5.alloc (.cells #[.int .i64 1, .int .i64 (q : Int), .int .i64 (n : Int), .string ⟨#[]⟩, .int .u8 0, .bool false] 31)).alloc (.cells #[.int .i64 1, .int .i64 (q : Int), .int .i64 (n : Int), .string ⟨#[]⟩, .int .u8 0, .bool false] 31)) := ((unhide HB5).alloc (unhide HB5).size _).alloc (by simp; omega) _
              have HB6 := hide hb6
              have HK6 := hide ((Blk.new w5 31 #[.int .i64 1, .int .i64 (q : Int), .int .i64 (n : Int), .string ⟨#[]⟩, .int .u8 0, .bool false]).alloc (.cells #[.int .i64 1, .int .i64 (q : Int), .int .i64 (n : Int), .string ⟨#[]⟩, .int .u8 0, .bool false] 31))
              obtain ⟨⟨x0, x1, x2, x3, x4, x5⟩, -⟩ := cells6 (unhide HK6)
              have CA := hide (rat_e ((unhide HP5) _ hb6) (i := (q : Int)) (k := q) (c := 45) rfl h45)
              obtain ⟨ab, off, eA, hb, hc⟩ := unhide HPC
              subst eA
              have c9 := (hb6.cell (p := ⟨ab, off + (q + 1), none⟩) hb).trans (hc (q + 1) hq3)
              rw [h93] at c9
              clear hb6 hB h45 h93 hb hc HPC
              go_wp2_with fail
              refine (unhide CA).mono ?_
              rintro e w1 ⟨rfl, hw1⟩
              obtain rfl : _ = w1 := hw1.symm
              have HOWW := hide (((unhide HOW).alloc (.cells #[.int .i64 1, .int .i64 (q : Int), .int .i64 (n : Int), .string ⟨#[]⟩, .int .u8 0, .bool false] 31)).alloc (.cells #[.int .i64 1, .int .i64 (q : Int), .int .i64 (n : Int), .string ⟨#[]⟩, .int .u8 0, .bool false] 31))
              have HBW := hide (unhide HB6)
              have HKX := hide ((by have h := Blk.new (w5.alloc (.cells #[.int .i64 1, .int .i64 (q : Int), .int .i64 (n : Int), .string ⟨#[]⟩, .int .u8 0, .bool false] 31)) 31 #[.int .i64 1, .int .i64 (q : Int), .int .i64 (n : Int), .string ⟨#[]⟩, .int .u8 0, .bool false]; rwa [World.size_alloc] at h : Blk ((w5.alloc (.cells #[.int .i64 1, .int .i64 (q : Int), .int .i64 (n : Int), .string ⟨#[]⟩, .int .u8 0, .bool false] 31)).alloc (.cells #[.int .i64 1, .int .i64 (q : Int), .int .i64 (n : Int), .string ⟨#[]⟩, .int .u8 0, .bool false] 31)) (w5.heap.size + 1) 31 #[.int .i64 1, .int .i64 (q : Int), .int .i64 (n : Int), .string ⟨#[]⟩, .int .u8 0, .bool false]))
              have hal5 : acc.length ≤ 5000 := by omega
              go_wp2_with (at_builtin; refine wp_app_P (w0 := w) (.rng n n) acc rfl rfl rfl rfl rfl (by simp) (unhide HOWW) (unhide HBW) hal5 ?_; intro v6 w6 ho6 ho7; have HO6 := hide ho6; obtain ⟨⟨u0, u1, u2, u3, u4, u5⟩, -⟩ := cells6 (ho7 _ _ _ (unhide HKX) (by decide)); clear ho6 ho7)
              have HR := hide (show RKRel bs k f w (.int .i64 (q : Int)) v6 w6 from ⟨q, acc ++ [.rng n n], rfl, by omega, by omega, unhide HQ, by simp; omega, allOk_snoc (unhide HAK) (show OkP (.rng _ _) from trivial), unhide HO6⟩)
              go_wp2_with fail
              have hR := unhide HR
              first | exact ⟨hR, by simp [intOf]; omega⟩ | (go_roundw; (case rel => exact hR); (case measure => (simp [intOf]; omega)))
      · have hin' : (bs.length : Int) ≤ (m : Int) := by omega
        have HQE := hide ((unhide HF).trans (clsF_end (acc := acc) (by omega)))
        have HBW := hide (unhide HCUT).2
        clear hno
        go_wp2_with fail
        (try simp only [Exit.inBlock, Exit.then])
        exact bodyPost_ret (v := .tuple #[.slice none 0 0, .bool false, .int .i64 0, .int .i64 33, .int .i64 (k : Int)]) (by simp [results, Tryz.f15]) rfl (by rw [unhide HQE]; exact ⟨rfl, unhide HBW⟩)
    · have e1 : ((m : Int) == (f : Int)) = false := by rw [beq_eq_false_iff_ne]; omega
      have CS := hide (fun c h => rat_e ((unhide HP).below (unhide HCUT).2) (i := (m : Int)) (k := m) (c := c) rfl h)
      by_cases h93m : g bs m = 93
      · have CS1 := hide ((unhide CS) 93 h93m)
        have hin := g_in (bs := bs) (k := m) (by omega)
        have hin' : (m : Int) + 1 ≤ (bs.length : Int) := by omega
        have HQE := hide ((unhide HF).trans (clsF_stop (acc := acc) hin hmf h93m))
        obtain ⟨A2, c2, rfl, hr2, hc2⟩ := own_reads (unhide HCUT).1
        have HR2 := hide (show PRd acc (.slice A2 acc.length c2) wr from ⟨A2, c2, rfl, hc2, hr2⟩)
        have HBW := hide (unhide HCUT).2
        have hac : acc.length ≤ 4096 := by omega
        clear hmf h93m CS hr2
        go_wp2_with fail
        refine (unhide CS1).mono ?_
        rintro e w4 ⟨rfl, hw4⟩
        obtain rfl : _ = w4 := hw4.symm
        go_wp2_with fail
        (try simp only [Exit.inBlock, Exit.then])
        exact bodyPost_ret (v := .tuple #[.slice A2 acc.length c2, .bool true, .int .i64 ((m : Int) + 1), .int .i64 0, .int .i64 0]) (by simp [results, Tryz.f15]) rfl (by rw [unhide HQE]; exact ⟨_, rfl, unhide HR2, unhide HAK, hac, unhide HBW⟩)
      · have CS1 := hide ((unhide CS) (g bs m) rfl)
        have e2 : ((g bs m : Int) != 93) = true := by rw [bne_iff_ne]; omega
        have e2' : ¬ ((g bs m : Int) = 93) := by omega
        have hno : ¬ (m ≠ f ∧ g bs m = 93) := fun h => h93m h.2
        clear hmf CS
        by_cases hin : m < bs.length
        · have hin' : (m : Int) < (bs.length : Int) := by omega
          have HE := hide (fun e h => (unhide HF).trans (clsF_err (acc := acc) (e := e) hin hno h))
          have HO := hide (fun p q h hq => (unhide HF).trans (clsF_on (acc := acc) (p := p) (q := q) hin hno h hq))
          clear HF hno h93m
          have CP := hide (rpiece_any bs A cap m wr ((unhide HP).below (unhide HCUT).2) hin hl)
          have hpi := piece_in hin
          cases hx : pieceP bs m with
          | err c =>
            rw [hx] at CP hpi
            unfold GivesRef at CP
            rw [rv_err] at CP
            have HQE := hide ((unhide HE) (c, m) (show partP bs m = .error (c, m) by unfold partP; rw [hx]))
            have e0 : ((c : Int) != 0) = true := by have := hpi.1; simp; omega
            have e0' : ¬ ((c : Int) = 0) := by have := hpi.1; omega
            clear hpi HE HO hx
            go_wp2_with fail
            refine (unhide CS1).mono ?_
            rintro e w4 ⟨rfl, hw4⟩
            obtain rfl : _ = w4 := hw4.symm
            go_wp2_with fail
            refine (unhide CP).mono ?_
            rintro e w5 ⟨rfl, hB⟩
            have HB5 := hide ((unhide HCUT).2.trans (hB.mono (unhide HCUT).2.size))
            have HOW := hide (Rs.own_below (unhide HCUT).1 hB)
            have hwz5 := (unhide HB5).size
            clear CP
            have HBA := hide ((unhide HB5).alloc (unhide HB5).size (.cells #[.int .i64 0, .int .i64 0, .int .i64 0, .string ⟨#[]⟩, .int .u8 0, .bool false] 31))
            clear hB
            go_wp2_with fail
            (try simp only [Exit.inBlock, Exit.then])
            exact bodyPost_ret (v := .tuple #[.slice none 0 0, .bool false, .int .i64 0, .int .i64 (c : Int), .int .i64 (m : Int)]) (by simp [results, Tryz.f15]) rfl (by rw [unhide HQE]; exact ⟨rfl, unhide HBA⟩)
          | cls c q =>
            rw [hx] at CP hpi
            unfold GivesRef at CP
            rw [rv_cls] at CP
            obtain ⟨hq1, hq2, hok⟩ := hpi
            have HQ := hide ((unhide HO) (.it (.cls c q)) q (show partP bs m = .ok (.it (.cls c q), q) by unfold partP; rw [hx]; rfl) hq1)
            have HOK := hide (show OkP (.it (.cls c q)) from hok.1)
            clear hok HE HO hx
            go_wp2_with fail
            refine (unhide CS1).mono ?_
            rintro e w4 ⟨rfl, hw4⟩
            obtain rfl : _ = w4 := hw4.symm
            go_wp2_with fail
            refine (unhide CP).mono ?_
            rintro e w5 ⟨rfl, hB⟩
            have HB5 := hide ((unhide HCUT).2.trans (hB.mono (unhide HCUT).2.size))
            have HOW := hide (Rs.own_below (unhide HCUT).1 hB)
            have hwz5 := (unhide HB5).size
            clear CP
            have hb6 : Below w.heap.size w (w5.alloc (.cells #[.int .i64 2, .int .i64 (q : Int), .int .i64 0, .string ⟨#[]⟩, .int .u8 (c : Int), .bool false] 31)) := (unhide HB5).alloc (unhide HB5).size _
            clear hB
            have HOWW := hide ((unhide HOW).alloc (.cells #[.int .i64 2, .int .i64 (q : Int), .int .i64 0, .string ⟨#[]⟩, .int .u8 (c : Int), .bool false] 31))
            have HBW := hide (hb6)
            have HKX := hide (Blk.new w5 31 #[.int .i64 2, .int .i64 (q : Int), .int .i64 0, .string ⟨#[]⟩, .int .u8 (c : Int), .bool false])
            have hal5 : acc.length ≤ 5000 := by omega
            go_wp2_with (at_builtin; refine wp_app_P (w0 := w) (.it (.cls c q)) acc rfl rfl rfl rfl rfl (by simp) (unhide HOWW) (unhide HBW) hal5 ?_; intro v6 w6 ho6 ho7; have HO6 := hide ho6; obtain ⟨⟨u0, u1, u2, u3, u4, u5⟩, -⟩ := cells6 (ho7 _ _ _ (unhide HKX) (by decide)); clear ho6 ho7)
            have HR := hide (show RKRel bs k f w (.int .i64 (q : Int)) v6 w6 from ⟨q, acc ++ [.it (.cls c q)], rfl, by omega, by omega, unhide HQ, by simp; omega, allOk_snoc (unhide HAK) (unhide HOK), unhide HO6⟩)
            go_wp2_with fail
            have hR := unhide HR
            first | exact ⟨hR, by simp [intOf]; omega⟩ | (go_roundw; (case rel => exact hR); (case measure => (simp [intOf]; omega)))
          | nam s t q =>
            rw [hx] at CP hpi
            unfold GivesRef at CP
            rw [rv_nam] at CP
            obtain ⟨hq1, hq2, hok⟩ := hpi
            have HQ := hide ((unhide HO) (.it (.nam s t q)) q (show partP bs m = .ok (.it (.nam s t q), q) by unfold partP; rw [hx]; rfl) hq1)
            have HOK := hide (show OkP (.it (.nam s t q)) from trivial)
            clear hok HE HO hx
            go_wp2_with fail
            refine (unhide CS1).mono ?_
            rintro e w4 ⟨rfl, hw4⟩
            obtain rfl : _ = w4 := hw4.symm
            go_wp2_with fail
            refine (unhide CP).mono ?_
            rintro e w5 ⟨rfl, hB⟩
            have HB5 := hide ((unhide HCUT).2.trans (hB.mono (unhide HCUT).2.size))
            have HOW := hide (Rs.own_below (unhide HCUT).1 hB)
            have hwz5 := (unhide HB5).size
            clear CP
            have hb6 : Below w.heap.size w (w5.alloc (.cells #[.int .i64 2, .int .i64 (q : Int), .int .i64 0, .string ⟨s.toArray⟩, .int .u8 0, .bool t] 31)) := (unhide HB5).alloc (unhide HB5).size _
            clear hB
            have HOWW := hide ((unhide HOW).alloc (.cells #[.int .i64 2, .int .i64 (q : Int), .int .i64 0, .string ⟨s.toArray⟩, .int .u8 0, .bool t] 31))
            have HBW := hide (hb6)
            have HKX := hide (Blk.new w5 31 #[.int .i64 2, .int .i64 (q : Int), .int .i64 0, .string ⟨s.toArray⟩, .int .u8 0, .bool t])
            have hal5 : acc.length ≤ 5000 := by omega
            go_wp2_with (at_builtin; refine wp_app_P (w0 := w) (.it (.nam s t q)) acc rfl rfl rfl rfl rfl (by simp) (unhide HOWW) (unhide HBW) hal5 ?_; intro v6 w6 ho6 ho7; have HO6 := hide ho6; obtain ⟨⟨u0, u1, u2, u3, u4, u5⟩, -⟩ := cells6 (ho7 _ _ _ (unhide HKX) (by decide)); clear ho6 ho7)
            have HR := hide (show RKRel bs k f w (.int .i64 (q : Int)) v6 w6 from ⟨q, acc ++ [.it (.nam s t q)], rfl, by omega, by omega, unhide HQ, by simp; omega, allOk_snoc (unhide HAK) (unhide HOK), unhide HO6⟩)
            go_wp2_with fail
            have hR := unhide HR
            first | exact ⟨hR, by simp [intOf]; omega⟩ | (go_roundw; (case rel => exact hR); (case measure => (simp [intOf]; omega)))
          | hld a b => rw [hx] at hpi; exact hpi.elim
          | ref a b => rw [hx] at hpi; exact hpi.elim
          | key a b => rw [hx] at hpi; exact hpi.elim
          | lit n q =>
            rw [hx] at CP hpi
            unfold GivesRef at CP
            rw [rv_lit] at CP
            obtain ⟨hq1, hq2, hn3⟩ := hpi
            have hqi : (q : Int) ≤ (bs.length : Int) := by omega
            have HP5 := hide (fun W (hB : Below w.heap.size w W) => (unhide HP).below hB)
            by_cases hr : rgP bs q = true
            · obtain ⟨h45, hq3, h93⟩ := rg_in hr
              have hpi2 := piece_in hq3
              have hqi3 : (q : Int) + 1 < (bs.length : Int) := by omega
              have e93 : ((g bs (q + 1) : Int) != 93) = true := by rw [bne_iff_ne]; omega
              have e93' : ¬ ((g bs (q + 1) : Int) = 93) := by omega
              have HX := hide hx
              have HRG := hide hr
              clear hx hr
              cases hy : pieceP bs (q + 1) with
              | err c =>
                rw [hy] at hpi2
                have HQE := hide ((unhide HE) (c, q + 1) (show partP bs m = .error (c, q + 1) by unfold partP; rw [unhide HX]; dsimp only; rw [if_pos (unhide HRG), hy]))
                have e0 : ((c : Int) != 0) = true := by have := hpi2.1; simp; omega
                have e0' : ¬ ((c : Int) = 0) := by have := hpi2.1; omega
                clear hpi2 HE HO HX HRG
                go_wp2_with fail
                refine (unhide CS1).mono ?_
                rintro e w4 ⟨rfl, hw4⟩
                obtain rfl : _ = w4 := hw4.symm
                go_wp2_with fail
                refine (unhide CP).mono ?_
                rintro e w5 ⟨rfl, hB⟩
                have HB5 := hide ((unhide HCUT).2.trans (hB.mono (unhide HCUT).2.size))
                have HOW := hide (Rs.own_below (unhide HCUT).1 hB)
                have hwz5 := (unhide HB5).size
                clear CP
                have hb6 : Below w.heap.size w ((w5.alloc (.cells #[.int .i64 1, .int .i64 (q : Int), .int .i64 (n : Int), .string ⟨#[]⟩, .int .u8 0, .bool false] 31)).alloc (.cells #[.int .i64 1, .int .i64 (q : Int), .int .i64 (n : Int), .string ⟨#[]⟩, .int .u8 0, .bool false] 31)) := ((unhide HB5).alloc (unhide HB5).size _).alloc (by simp; omega) _
                have HB6 := hide hb6
                have HK6 := hide ((Blk.new w5 31 #[.int .i64 1, .int .i64 (q : Int), .int .i64 (n : Int), .string ⟨#[]⟩, .int .u8 0, .bool false]).alloc (.cells #[.int .i64 1, .int .i64 (q : Int), .int .i64 (n : Int), .string ⟨#[]⟩, .int .u8 0, .bool false] 31))
                have hk7 := Blk.new (w5.alloc (.cells #[.int .i64 1, .int .i64 (q : Int), .int .i64 (n : Int), .string ⟨#[]⟩, .int .u8 0, .bool false] 31)) 31 #[.int .i64 1, .int .i64 (q : Int), .int .i64 (n : Int), .string ⟨#[]⟩, .int .u8 0, .bool false]
                rw [World.size_alloc] at hk7
                have HK7 := hide hk7
                have HO6 := hide (((unhide HOW).alloc (.cells #[.int .i64 1, .int .i64 (q : Int), .int .i64 (n : Int), .string ⟨#[]⟩, .int .u8 0, .bool false] 31)).alloc (.cells #[.int .i64 1, .int .i64 (q : Int), .int .i64 (n : Int), .string ⟨#[]⟩, .int .u8 0, .bool false] 31))
                obtain ⟨⟨x0, x1, x2, x3, x4, x5⟩, -⟩ := cells6 (unhide HK6)
                have CA := hide (rat_e ((unhide HP5) _ hb6) (i := (q : Int)) (k := q) (c := 45) rfl h45)
                obtain ⟨ab, off, eA, hb, hc⟩ := unhide HPC
                subst eA
                have c9 := (hb6.cell (p := ⟨ab, off + (q + 1), none⟩) hb).trans (hc (q + 1) hq3)
                have CP2 := hide (rpiece_any bs _ cap (q + 1) _ ((unhide HP5) _ hb6) hq3 hl)
                rw [Int.natCast_add] at CP2
                clear hb6 hk7 hB h45 hb hc HPC
                rw [hy] at CP2
                unfold GivesRef at CP2
                rw [rv_err] at CP2
                clear hy
                generalize g bs (q + 1) = y93 at *
                go_wp2_with fail
                refine (unhide CA).mono ?_
                rintro e w1 ⟨rfl, hw1⟩
                obtain rfl : _ = w1 := hw1.symm
                go_wp2_with fail
                refine (unhide CP2).mono ?_
                rintro e w8 ⟨rfl, hB⟩
                have HB8 := hide ((unhide HB6).trans (hB.mono (unhide HB6).size))
                have HK8 := hide ((unhide HK6).below hB (unhide HK6).lt)
                have HK9 := hide ((unhide HK7).below hB (unhide HK7).lt)
                have HO8 := hide (Rs.own_below (unhide HO6) hB)
                clear hB CP2 CA c9 x0 x1 x2 x3 x4 x5
                obtain ⟨⟨x0, x1, x2, x3, x4, x5⟩, -⟩ := cells6 (unhide HK8)
                obtain ⟨⟨y0, y1, y2, y3, y4, y5⟩, z0, z1, z2, z3, z4, z5⟩ := cells6 (unhide HK9)
                have HBZ := hide (bel6 (unhide HB8) (show w.heap.size ≤ w5.heap.size + 1 by omega) (.int .i64 0) (.int .i64 0) (.int .i64 0) (.string ⟨#[]⟩) (.int .u8 0) (.bool false))
                go_wp2_with fail
                go_quiet (fail)
                all_goals
                  go_wp2_with fail
                  (try simp only [Exit.inBlock, Exit.then])
                  exact bodyPost_ret (v := .tuple #[.slice none 0 0, .bool false, .int .i64 0, .int .i64 (c : Int), .int .i64 ((q : Int) + 1)]) (by simp [results, Tryz.f15]) rfl (by rw [unhide HQE]; exact ⟨rfl, below_drewN (unhide HBZ) _⟩)
              | cls c q2 =>
                have HQE := hide ((unhide HE) (33, m) (show partP bs m = .error (33, m) by unfold partP; rw [unhide HX]; dsimp only; rw [if_pos (unhide HRG), hy]))
                clear hpi2 HE HO HX HRG
                go_wp2_with fail
                refine (unhide CS1).mono ?_
                rintro e w4 ⟨rfl, hw4⟩
                obtain rfl : _ = w4 := hw4.symm
                go_wp2_with fail
                refine (unhide CP).mono ?_
                rintro e w5 ⟨rfl, hB⟩
                have HB5 := hide ((unhide HCUT).2.trans (hB.mono (unhide HCUT).2.size))
                have HOW := hide (Rs.own_below (unhide HCUT).1 hB)
                have hwz5 := (unhide HB5).size
                clear CP
                have hb6 : Below w.heap.size w ((w5.alloc (.cells #[.int .i64 1, .int .i64 (q : Int), .int .i64 (n : Int), .string ⟨#[]⟩, .int .u8 0, .bool false] 31)).alloc (.cells #[.int .i64 1, .int .i64 (q : Int), .int .i64 (n : Int), .string ⟨#[]⟩, .int .u8 0, .bool false] 31)) := ((unhide HB5).alloc (unhide HB5).size _).alloc (by simp; omega) _
                have HB6 := hide hb6
                have HK6 := hide ((Blk.new w5 31 #[.int .i64 1, .int .i64 (q : Int), .int .i64 (n : Int), .string ⟨#[]⟩, .int .u8 0, .bool false]).alloc (.cells #[.int .i64 1, .int .i64 (q : Int), .int .i64 (n : Int), .string ⟨#[]⟩, .int .u8 0, .bool false] 31))
                have hk7 := Blk.new (w5.alloc (.cells #[.int .i64 1, .int .i64 (q : Int), .int .i64 (n : Int), .string ⟨#[]⟩, .int .u8 0, .bool false] 31)) 31 #[.int .i64 1, .int .i64 (q : Int), .int .i64 (n : Int), .string ⟨#[]⟩, .int .u8 0, .bool false]
                rw [World.size_alloc] at hk7
                have HK7 := hide hk7
                have HO6 := hide (((unhide HOW).alloc (.cells #[.int .i64 1, .int .i64 (q : Int), .int .i64 (n : Int), .string ⟨#[]⟩, .int .u8 0, .bool false] 31)).alloc (.cells #[.int .i64 1, .int .i64 (q : Int), .int .i64 (n : Int), .string ⟨#[]⟩, .int .u8 0, .bool false] 31))
                obtain ⟨⟨x0, x1, x2, x3, x4, x5⟩, -⟩ := cells6 (unhide HK6)
                have CA := hide (rat_e ((unhide HP5) _ hb6) (i := (q : Int)) (k := q) (c := 45) rfl h45)
                obtain ⟨ab, off, eA, hb, hc⟩ := unhide HPC
                subst eA
                have c9 := (hb6.cell (p := ⟨ab, off + (q + 1), none⟩) hb).trans (hc (q + 1) hq3)
                have CP2 := hide (rpiece_any bs _ cap (q + 1) _ ((unhide HP5) _ hb6) hq3 hl)
                rw [Int.natCast_add] at CP2
                clear hb6 hk7 hB h45 hb hc HPC
                rw [hy] at CP2
                unfold GivesRef at CP2
                rw [rv_cls] at CP2
                clear hy
                generalize g bs (q + 1) = y93 at *
                go_wp2_with fail
                refine (unhide CA).mono ?_
                rintro e w1 ⟨rfl, hw1⟩
                obtain rfl : _ = w1 := hw1.symm
                go_wp2_with fail
                refine (unhide CP2).mono ?_
                rintro e w8 ⟨rfl, hB⟩
                have HB8 := hide ((unhide HB6).trans (hB.mono (unhide HB6).size))
                have HK8 := hide ((unhide HK6).below hB (unhide HK6).lt)
                have HK9 := hide ((unhide HK7).below hB (unhide HK7).lt)
                have HO8 := hide (Rs.own_below (unhide HO6) hB)
                clear hB CP2 CA c9 x0 x1 x2 x3 x4 x5
                obtain ⟨⟨x0, x1, x2, x3, x4, x5⟩, -⟩ := cells6 (unhide HK8)
                obtain ⟨⟨y0, y1, y2, y3, y4, y5⟩, z0, z1, z2, z3, z4, z5⟩ := cells6 (unhide HK9)
                have HBZ := hide (bel6 (unhide HB8) (show w.heap.size ≤ w5.heap.size + 1 by omega) (.int .i64 2) (.int .i64 (q2 : Int)) (.int .i64 0) (.string ⟨#[]⟩) (.int .u8 (c : Int)) (.bool false))
                go_wp2_with fail
                (try simp only [Exit.inBlock, Exit.then])
                exact bodyPost_ret (v := .tuple #[.slice none 0 0, .bool false, .int .i64 0, .int .i64 33, .int .i64 (m : Int)]) (by simp [results, Tryz.f15]) rfl (by rw [unhide HQE]; exact ⟨rfl, unhide HBZ⟩)
              | nam s t q2 =>
                have HQE := hide ((unhide HE) (33, m) (show partP bs m = .error (33, m) by unfold partP; rw [unhide HX]; dsimp only; rw [if_pos (unhide HRG), hy]))
                clear hpi2 HE HO HX HRG
                go_wp2_with fail
                refine (unhide CS1).mono ?_
                rintro e w4 ⟨rfl, hw4⟩
                obtain rfl : _ = w4 := hw4.symm
                go_wp2_with fail
                refine (unhide CP).mono ?_
                rintro e w5 ⟨rfl, hB⟩
                have HB5 := hide ((unhide HCUT).2.trans (hB.mono (unhide HCUT).2.size))
                have HOW := hide (Rs.own_below (unhide HCUT).1 hB)
                have hwz5 := (unhide HB5).size
                clear CP
                have hb6 : Below w.heap.size w ((w5.alloc (.cells #[.int .i64 1, .int .i64 (q : Int), .int .i64 (n : Int), .string ⟨#[]⟩, .int .u8 0, .bool false] 31)).alloc (.cells #[.int .i64 1, .int .i64 (q : Int), .int .i64 (n : Int), .string ⟨#[]⟩, .int .u8 0, .bool false] 31)) := ((unhide HB5).alloc (unhide HB5).size _).alloc (by simp; omega) _
                have HB6 := hide hb6
                have HK6 := hide ((Blk.new w5 31 #[.int .i64 1, .int .i64 (q : Int), .int .i64 (n : Int), .string ⟨#[]⟩, .int .u8 0, .bool false]).alloc (.cells #[.int .i64 1, .int .i64 (q : Int), .int .i64 (n : Int), .string ⟨#[]⟩, .int .u8 0, .bool false] 31))
                have hk7 := Blk.new (w5.alloc (.cells #[.int .i64 1, .int .i64 (q : Int), .int .i64 (n : Int), .string ⟨#[]⟩, .int .u8 0, .bool false] 31)) 31 #[.int .i64 1, .int .i64 (q : Int), .int .i64 (n : Int), .string ⟨#[]⟩, .int .u8 0, .bool false]
                rw [World.size_alloc] at hk7
                have HK7 := hide hk7
                have HO6 := hide (((unhide HOW).alloc (.cells #[.int .i64 1, .int .i64 (q : Int), .int .i64 (n : Int), .string ⟨#[]⟩, .int .u8 0, .bool false] 31)).alloc (.cells #[.int .i64 1, .int .i64 (q : Int), .int .i64 (n : Int), .string ⟨#[]⟩, .int .u8 0, .bool false] 31))
                obtain ⟨⟨x0, x1, x2, x3, x4, x5⟩, -⟩ := cells6 (unhide HK6)
                have CA := hide (rat_e ((unhide HP5) _ hb6) (i := (q : Int)) (k := q) (c := 45) rfl h45)
                obtain ⟨ab, off, eA, hb, hc⟩ := unhide HPC
                subst eA
                have c9 := (hb6.cell (p := ⟨ab, off + (q + 1), none⟩) hb).trans (hc (q + 1) hq3)
                have CP2 := hide (rpiece_any bs _ cap (q + 1) _ ((unhide HP5) _ hb6) hq3 hl)
                rw [Int.natCast_add] at CP2
                clear hb6 hk7 hB h45 hb hc HPC
                rw [hy] at CP2
                unfold GivesRef at CP2
                rw [rv_nam] at CP2
                clear hy
                generalize g bs (q + 1) = y93 at *
                go_wp2_with fail
                refine (unhide CA).mono ?_
                rintro e w1 ⟨rfl, hw1⟩
                obtain rfl : _ = w1 := hw1.symm
                go_wp2_with fail
                refine (unhide CP2).mono ?_
                rintro e w8 ⟨rfl, hB⟩
                have HB8 := hide ((unhide HB6).trans (hB.mono (unhide HB6).size))
                have HK8 := hide ((unhide HK6).below hB (unhide HK6).lt)
                have HK9 := hide ((unhide HK7).below hB (unhide HK7).lt)
                have HO8 := hide (Rs.own_below (unhide HO6) hB)
                clear hB CP2 CA c9 x0 x1 x2 x3 x4 x5
                obtain ⟨⟨x0, x1, x2, x3, x4, x5⟩, -⟩ := cells6 (unhide HK8)
                obtain ⟨⟨y0, y1, y2, y3, y4, y5⟩, z0, z1, z2, z3, z4, z5⟩ := cells6 (unhide HK9)
                have HBZ := hide (bel6 (unhide HB8) (show w.heap.size ≤ w5.heap.size + 1 by omega) (.int .i64 2) (.int .i64 (q2 : Int)) (.int .i64 0) (.string ⟨s.toArray⟩) (.int .u8 0) (.bool t))
                go_wp2_with fail
                (try simp only [Exit.inBlock, Exit.then])
                exact bodyPost_ret (v := .tuple #[.slice none 0 0, .bool false, .int .i64 0, .int .i64 33, .int .i64 (m : Int)]) (by simp [results, Tryz.f15]) rfl (by rw [unhide HQE]; exact ⟨rfl, unhide HBZ⟩)
              | hld a b => rw [hy] at hpi2; exact hpi2.elim
              | ref a b => rw [hy] at hpi2; exact hpi2.elim
              | key a b => rw [hy] at hpi2; exact hpi2.elim
              | lit z q2 =>
                rw [hy] at hpi2
                obtain ⟨hq21, hq22, hz3⟩ := hpi2
                have hq2i : (q2 : Int) ≤ (bs.length : Int) := by omega
                by_cases hzn : z < n
                · have HQE := hide ((unhide HE) (33, m) (show partP bs m = .error (33, m) by unfold partP; rw [unhide HX]; dsimp only; rw [if_pos (unhide HRG), hy]; dsimp only; rw [if_pos hzn]))
                  have hzi : (z : Int) < (n : Int) := by omega
                  clear HE HO HX HRG hzn
                  go_wp2_with fail
                  refine (unhide CS1).mono ?_
                  rintro e w4 ⟨rfl, hw4⟩
                  obtain rfl : _ = w4 := hw4.symm
                  go_wp2_with fail
                  refine (unhide CP).mono ?_
                  rintro e w5 ⟨rfl, hB⟩
                  have HB5 := hide ((unhide HCUT).2.trans (hB.mono (unhide HCUT).2.size))
                  have HOW := hide (Rs.own_below (unhide HCUT).1 hB)
                  have hwz5 := (unhide HB5).size
                  clear CP
                  have hb6 : Below w.heap.size w ((w5.alloc (.cells #[.int .i64 1, .int .i64 (q : Int), .int .i64 (n : Int), .string ⟨#[]⟩, .int .u8 0, .bool false] 31)).alloc (.cells #[.int .i64 1, .int .i64 (q : Int), .int .i64 (n : Int), .string ⟨#[]⟩, .int .u8 0, .bool false] 31)) := ((unhide HB5).alloc (unhide HB5).size _).alloc (by simp; omega) _
                  have HB6 := hide hb6
                  have HK6 := hide ((Blk.new w5 31 #[.int .i64 1, .int .i64 (q : Int), .int .i64 (n : Int), .string ⟨#[]⟩, .int .u8 0, .bool false]).alloc (.cells #[.int .i64 1, .int .i64 (q : Int), .int .i64 (n : Int), .string ⟨#[]⟩, .int .u8 0, .bool false] 31))
                  have hk7 := Blk.new (w5.alloc (.cells #[.int .i64 1, .int .i64 (q : Int), .int .i64 (n : Int), .string ⟨#[]⟩, .int .u8 0, .bool false] 31)) 31 #[.int .i64 1, .int .i64 (q : Int), .int .i64 (n : Int), .string ⟨#[]⟩, .int .u8 0, .bool false]
                  rw [World.size_alloc] at hk7
                  have HK7 := hide hk7
                  have HO6 := hide (((unhide HOW).alloc (.cells #[.int .i64 1, .int .i64 (q : Int), .int .i64 (n : Int), .string ⟨#[]⟩, .int .u8 0, .bool false] 31)).alloc (.cells #[.int .i64 1, .int .i64 (q : Int), .int .i64 (n : Int), .string ⟨#[]⟩, .int .u8 0, .bool false] 31))
                  obtain ⟨⟨x0, x1, x2, x3, x4, x5⟩, -⟩ := cells6 (unhide HK6)
                  have CA := hide (rat_e ((unhide HP5) _ hb6) (i := (q : Int)) (k := q) (c := 45) rfl h45)
                  obtain ⟨ab, off, eA, hb, hc⟩ := unhide HPC
                  subst eA
                  have c9 := (hb6.cell (p := ⟨ab, off + (q + 1), none⟩) hb).trans (hc (q + 1) hq3)
                  have CP2 := hide (rpiece_any bs _ cap (q + 1) _ ((unhide HP5) _ hb6) hq3 hl)
                  rw [Int.natCast_add] at CP2
                  clear hb6 hk7 hB h45 hb hc HPC
                  rw [hy] at CP2
                  unfold GivesRef at CP2
                  rw [rv_lit] at CP2
                  clear hy
                  generalize g bs (q + 1) = y93 at *
                  go_wp2_with fail
                  refine (unhide CA).mono ?_
                  rintro e w1 ⟨rfl, hw1⟩
                  obtain rfl : _ = w1 := hw1.symm
                  go_wp2_with fail
                  refine (unhide CP2).mono ?_
                  rintro e w8 ⟨rfl, hB⟩
                  have HB8 := hide ((unhide HB6).trans (hB.mono (unhide HB6).size))
                  have HK8 := hide ((unhide HK6).below hB (unhide HK6).lt)
                  have HK9 := hide ((unhide HK7).below hB (unhide HK7).lt)
                  have HO8 := hide (Rs.own_below (unhide HO6) hB)
                  clear hB CP2 CA c9 x0 x1 x2 x3 x4 x5
                  obtain ⟨⟨x0, x1, x2, x3, x4, x5⟩, -⟩ := cells6 (unhide HK8)
                  obtain ⟨⟨y0, y1, y2, y3, y4, y5⟩, z0, z1, z2, z3, z4, z5⟩ := cells6 (unhide HK9)
                  have HBZ := hide (bel6 (unhide HB8) (show w.heap.size ≤ w5.heap.size + 1 by omega) (.int .i64 1) (.int .i64 (q2 : Int)) (.int .i64 (z : Int)) (.string ⟨#[]⟩) (.int .u8 0) (.bool false))
                  go_wp2_with fail
                  (try simp only [Exit.inBlock, Exit.then])
                  exact bodyPost_ret (v := .tuple #[.slice none 0 0, .bool false, .int .i64 0, .int .i64 33, .int .i64 (m : Int)]) (by simp [results, Tryz.f15]) rfl (by rw [unhide HQE]; exact ⟨rfl, unhide HBZ⟩)
                · have HQ := hide ((unhide HO) (.rng n z) q2 (show partP bs m = .ok (.rng n z, q2) by unfold partP; rw [unhide HX]; dsimp only; rw [if_pos (unhide HRG), hy]; dsimp only; rw [if_neg hzn]) (by omega))
                  have hzi : (n : Int) ≤ (z : Int) := by omega
                  have hzi' : n ≤ z := by omega
                  have dz1 : decide (z < n) = false := decide_eq_false hzn
                  have dz2 : decide ((z : Int) < (n : Int)) = false := decide_eq_false (by omega)
                  clear HE HO HX HRG hzn
                  go_wp2_with fail
                  refine (unhide CS1).mono ?_
                  rintro e w4 ⟨rfl, hw4⟩
                  obtain rfl : _ = w4 := hw4.symm
                  go_wp2_with fail
                  refine (unhide CP).mono ?_
                  rintro e w5 ⟨rfl, hB⟩
                  have HB5 := hide ((unhide HCUT).2.trans (hB.mono (unhide HCUT).2.size))
                  have HOW := hide (Rs.own_below (unhide HCUT).1 hB)
                  have hwz5 := (unhide HB5).size
                  clear CP
                  have hb6 : Below w.heap.size w ((w5.alloc (.cells #[.int .i64 1, .int .i64 (q : Int), .int .i64 (n : Int), .string ⟨#[]⟩, .int .u8 0, .bool false] 31)).alloc (.cells #[.int .i64 1, .int .i64 (q : Int), .int .i64 (n : Int), .string ⟨#[]⟩, .int .u8 0, .bool false] 31)) := ((unhide HB5).alloc (unhide HB5).size _).alloc (by simp; omega) _
                  have HB6 := hide hb6
                  have HK6 := hide ((Blk.new w5 31 #[.int .i64 1, .int .i64 (q : Int), .int .i64 (n : Int), .string ⟨#[]⟩, .int .u8 0, .bool false]).alloc (.cells #[.int .i64 1, .int .i64 (q : Int), .int .i64 (n : Int), .string ⟨#[]⟩, .int .u8 0, .bool false] 31))
                  have hk7 := Blk.new (w5.alloc (.cells #[.int .i64 1, .int .i64 (q : Int), .int .i64 (n : Int), .string ⟨#[]⟩, .int .u8 0, .bool false] 31)) 31 #[.int .i64 1, .int .i64 (q : Int), .int .i64 (n : Int), .string ⟨#[]⟩, .int .u8 0, .bool false]
                  rw [World.size_alloc] at hk7
                  have HK7 := hide hk7
                  have HO6 := hide (((unhide HOW).alloc (.cells #[.int .i64 1, .int .i64 (q : Int), .int .i64 (n : Int), .string ⟨#[]⟩, .int .u8 0, .bool false] 31)).alloc (.cells #[.int .i64 1, .int .i64 (q : Int), .int .i64 (n : Int), .string ⟨#[]⟩, .int .u8 0, .bool false] 31))
                  obtain ⟨⟨x0, x1, x2, x3, x4, x5⟩, -⟩ := cells6 (unhide HK6)
                  have CA := hide (rat_e ((unhide HP5) _ hb6) (i := (q : Int)) (k := q) (c := 45) rfl h45)
                  obtain ⟨ab, off, eA, hb, hc⟩ := unhide HPC
                  subst eA
                  have c9 := (hb6.cell (p := ⟨ab, off + (q + 1), none⟩) hb).trans (hc (q + 1) hq3)
                  have CP2 := hide (rpiece_any bs _ cap (q + 1) _ ((unhide HP5) _ hb6) hq3 hl)
                  rw [Int.natCast_add] at CP2
                  clear hb6 hk7 hB h45 hb hc HPC
                  rw [hy] at CP2
                  unfold GivesRef at CP2
                  rw [rv_lit] at CP2
                  clear hy
                  generalize g bs (q + 1) = y93 at *
                  go_wp2_with fail
                  refine (unhide CA).mono ?_
                  rintro e w1 ⟨rfl, hw1⟩
                  obtain rfl : _ = w1 := hw1.symm
                  go_wp2_with fail
                  refine (unhide CP2).mono ?_
                  rintro e w8 ⟨rfl, hB⟩
                  have HB8 := hide ((unhide HB6).trans (hB.mono (unhide HB6).size))
                  have HK8 := hide ((unhide HK6).below hB (unhide HK6).lt)
                  have HK9 := hide ((unhide HK7).below hB (unhide HK7).lt)
                  have HO8 := hide (Rs.own_below (unhide HO6) hB)
                  clear hB CP2 CA c9 x0 x1 x2 x3 x4 x5
                  obtain ⟨⟨x0, x1, x2, x3, x4, x5⟩, -⟩ := cells6 (unhide HK8)
                  obtain ⟨⟨y0, y1, y2, y3, y4, y5⟩, z0, z1, z2, z3, z4, z5⟩ := cells6 (unhide HK9)
                  have HOWW := hide (own_set6 (unhide HO8) (unhide HK9) (by decide) (.int .i64 1) (.int .i64 (q2 : Int)) (.int .i64 (z : Int)) (.string ⟨#[]⟩) (.int .u8 0) (.bool false))
                  have HBW := hide (bel6 (unhide HB8) (show w.heap.size ≤ w5.heap.size + 1 by omega) (.int .i64 1) (.int .i64 (q2 : Int)) (.int .i64 (z : Int)) (.string ⟨#[]⟩) (.int .u8 0) (.bool false))
                  have HKX := hide (set6 (unhide HK9) (.int .i64 1) (.int .i64 (q2 : Int)) (.int .i64 (z : Int)) (.string ⟨#[]⟩) (.int .u8 0) (.bool false))
                  have hal5 : acc.length ≤ 5000 := by omega
                  go_wp2_with (at_builtin; refine wp_app_P (w0 := w) (.rng n z) acc rfl rfl rfl rfl rfl (by simp [World.setCell]) (unhide HOWW) (unhide HBW) hal5 ?_; intro v6 w6 ho6 ho7; have HO6 := hide ho6; obtain ⟨⟨u0, u1, u2, u3, u4, u5⟩, -⟩ := cells6 (ho7 _ _ _ (unhide HKX) (by decide)); clear ho6 ho7)
                  have HR := hide (show RKRel bs k f w (.int .i64 (q2 : Int)) v6 w6 from ⟨q2, acc ++ [.rng n z], rfl, by omega, by omega, unhide HQ, by simp; omega, allOk_snoc (unhide HAK) (show OkP (.rng _ _) from trivial), unhide HO6⟩)
                  go_wp2_with fail
                  have hR := unhide HR
                  first | exact ⟨hR, by simp [intOf]; omega⟩ | (go_roundw; (case rel => exact hR); (case measure => (simp [intOf]; omega)))
            · have HQ := hide ((unhide HO) (.rng n n) q (show partP bs m = .ok (.rng n n, q) by unfold partP; rw [hx]; simp only []; rw [if_neg hr]) hq1)
              clear HE HO hx
              have hr3 := rg_no hr
              clear hr
              rcases hr3 with h45 | ⟨h45, hq3⟩ | ⟨h45, hq3, h93⟩
              · have e45 : ((g bs q : Int) == 45) = false := by rw [beq_eq_false_iff_ne]; omega
                have e45' : ¬ ((g bs q : Int) = 45) := by omega
                go_wp2_with fail
                refine (unhide CS1).mono ?_
                rintro e w4 ⟨rfl, hw4⟩
                obtain rfl : _ = w4 := hw4.symm
                go_wp2_with fail
                refine (unhide CP).mono ?_
                rintro e w5 ⟨rfl, hB⟩
                have HB5 := hide ((unhide HCUT).2.trans (hB.mono (unhide HCUT).2.size))
                have HOW := hide (Rs.own_below (unhide HCUT).1 hB)
                have hwz5 := (unhide HB5).size
                clear CP
                have hb6 : Below w.heap.size w ((w5.alloc (.cells #[.int .i64 1, .int .i64 (q : Int), .int .i64 (n : Int), .string ⟨#[]⟩, .int .u8 0, .bool false] 31)).alloc (.cells #[.int .i64 1, .int .i64 (q : Int), .int .i64 (n : Int), .string ⟨#[]⟩, .int .u8 0, .bool false] 31)) := ((unhide HB5).alloc (unhide HB5).size _).alloc (by simp; omega) _
                have HB6 := hide hb6
                have HK6 := hide ((Blk.new w5 31 #[.int .i64 1, .int .i64 (q : Int), .int .i64 (n : Int), .string ⟨#[]⟩, .int .u8 0, .bool false]).alloc (.cells #[.int .i64 1, .int .i64 (q : Int), .int .i64 (n : Int), .string ⟨#[]⟩, .int .u8 0, .bool false] 31))
                obtain ⟨⟨x0, x1, x2, x3, x4, x5⟩, -⟩ := cells6 (unhide HK6)
                have CA := hide (rat_e ((unhide HP5) _ hb6) (i := (q : Int)) (k := q) (c := g bs q) rfl rfl)
                clear hb6 hB h45
                generalize g bs q = y45 at *
                go_wp2_with fail
                refine (unhide CA).mono ?_
                rintro e w1 ⟨rfl, hw1⟩
                obtain rfl : _ = w1 := hw1.symm
                have HOWW := hide (((unhide HOW).alloc (.cells #[.int .i64 1, .int .i64 (q : Int), .int .i64 (n : Int), .string ⟨#[]⟩, .int .u8 0, .bool false] 31)).alloc (.cells #[.int .i64 1, .int .i64 (q : Int), .int .i64 (n : Int), .string ⟨#[]⟩, .int .u8 0, .bool false] 31))
                have HBW := hide (unhide HB6)
                have HKX := hide ((by have h := Blk.new (w5.alloc (.cells #[.int .i64 1, .int .i64 (q : Int), .int .i64 (n : Int), .string ⟨#[]⟩, .int .u8 0, .bool false] 31)) 31 #[.int .i64 1, .int .i64 (q : Int), .int .i64 (n : Int), .string ⟨#[]⟩, .int .u8 0, .bool false]; rwa [World.size_alloc] at h : Blk ((w5.alloc (.cells #[.int .i64 1, .int .i64 (q : Int), .int .i64 (n : Int), .string ⟨#[]⟩, .int .u8 0, .bool false] 31)).alloc (.cells #[.int .i64 1, .int .i64 (q : Int), .int .i64 (n : Int), .string ⟨#[]⟩, .int .u8 0, .bool false] 31)) (w5.heap.size + 1) 31 #[.int .i64 1, .int .i64 (q : Int), .int .i64 (n : Int), .string ⟨#[]⟩, .int .u8 0, .bool false]))
                have hal5 : acc.length ≤ 5000 := by omega
                go_wp2_with (at_builtin; refine wp_app_P (w0 := w) (.rng n n) acc rfl rfl rfl rfl rfl (by simp) (unhide HOWW) (unhide HBW) hal5 ?_; intro v6 w6 ho6 ho7; have HO6 := hide ho6; obtain ⟨⟨u0, u1, u2, u3, u4, u5⟩, -⟩ := cells6 (ho7 _ _ _ (unhide HKX) (by decide)); clear ho6 ho7)
                have HR := hide (show RKRel bs k f w (.int .i64 (q : Int)) v6 w6 from ⟨q, acc ++ [.rng n n], rfl, by omega, by omega, unhide HQ, by simp; omega, allOk_snoc (unhide HAK) (show OkP (.rng _ _) from trivial), unhide HO6⟩)
                go_wp2_with fail
                have hR := unhide HR
                first | exact ⟨hR, by simp [intOf]; omega⟩ | (go_roundw; (case rel => exact hR); (case measure => (simp [intOf]; omega)))
              · have hq3i : (bs.length : Int) ≤ (q : Int) + 1 := by omega
                go_wp2_with fail
                refine (unhide CS1).mono ?_
                rintro e w4 ⟨rfl, hw4⟩
                obtain rfl : _ = w4 := hw4.symm
                go_wp2_with fail
                refine (unhide CP).mono ?_
                rintro e w5 ⟨rfl, hB⟩
                have HB5 := hide ((unhide HCUT).2.trans (hB.mono (unhide HCUT).2.size))
                have HOW := hide (Rs.own_below (unhide HCUT).1 hB)
                have hwz5 := (unhide HB5).size
                clear CP
                have hb6 : Below w.heap.size w ((w5.alloc (.cells #[.int .i64 1, .int .i64 (q : Int), .int .i64 (n : Int), .string ⟨#[]⟩, .int .u8 0, .bool false] 31)).alloc (.cells #[.int .i64 1, .int .i64 (q : Int), .int .i64 (n : Int), .string ⟨#[]⟩, .int .u8 0, .bool false] 31)) := ((unhide HB5).alloc (unhide HB5).size _).alloc (by simp; omega) _
                have HB6 := hide hb6
                have HK6 := hide ((Blk.new w5 31 #[.int .i64 1, .int .i64 (q : Int), .int .i64 (n : Int), .string ⟨#[]⟩, .int .u8 0, .bool false]).alloc (.cells #[.int .i64 1, .int .i64 (q : Int), .int .i64 (n : Int), .string ⟨#[]⟩, .int .u8 0, .bool false] 31))
                obtain ⟨⟨x0, x1, x2, x3, x4, x5⟩, -⟩ := cells6 (unhide HK6)
                have CA := hide (rat_e ((unhide HP5) _ hb6) (i := (q : Int)) (k := q) (c := 45) rfl h45)
                clear hb6 hB h45 hq3
                go_wp2_with fail
                refine (unhide CA).mono ?_
                rintro e w1 ⟨rfl, hw1⟩
                obtain rfl : _ = w1 := hw1.symm
                have HOWW := hide (((unhide HOW).alloc (.cells #[.int .i64 1, .int .i64 (q : Int), .int .i64 (n : Int), .string ⟨#[]⟩, .int .u8 0, .bool false] 31)).alloc (.cells #[.int .i64 1, .int .i64 (q : Int), .int .i64 (n : Int), .string ⟨#[]⟩, .int .u8 0, .bool false] 31))
                have HBW := hide (unhide HB6)
                have HKX := hide ((by have h := Blk.new (w5.alloc (.cells #[.int .i64 1, .int .i64 (q : Int), .int .i64 (n : Int), .string ⟨#[]⟩, .int .u8 0, .bool false] 31)) 31 #[.int .i64 1, .int .i64 (q : Int), .int .i64 (n : Int), .string ⟨#[]⟩, .int .u8 0, .bool false]; rwa [World.size_alloc] at h : Blk ((w5.alloc (.cells #[.int .i64 1, .int .i64 (q : Int), .int .i64 (n : Int), .string ⟨#[]⟩, .int .u8 0, .bool false] 31)).alloc (.cells #[.int .i64 1, .int .i64 (q : Int), .int .i64 (n : Int), .string ⟨#[]⟩, .int .u8 0, .bool false] 31)) (w5.heap.size + 1) 31 #[.int .i64 1, .int .i64 (q : Int), .int .i64 (n : Int), .string ⟨#[]⟩, .int .u8 0, .bool false]))
                have hal5 : acc.length ≤ 5000 := by omega
                go_wp2_with (at_builtin; refine wp_app_P (w0 := w) (.rng n n) acc rfl rfl rfl rfl rfl (by simp) (unhide HOWW) (unhide HBW) hal5 ?_; intro v6 w6 ho6 ho7; have HO6 := hide ho6; obtain ⟨⟨u0, u1, u2, u3, u4, u5⟩, -⟩ := cells6 (ho7 _ _ _ (unhide HKX) (by decide)); clear ho6 ho7)
                have HR := hide (show RKRel bs k f w (.int .i64 (q : Int)) v6 w6 from ⟨q, acc ++ [.rng n n], rfl, by omega, by omega, unhide HQ, by simp; omega, allOk_snoc (unhide HAK) (show OkP (.rng _ _) from trivial), unhide HO6⟩)
                go_wp2_with fail
                have hR := unhide HR
                first | exact ⟨hR, by simp [intOf]; omega⟩ | (go_roundw; (case rel => exact hR); (case measure => (simp [intOf]; omega)))
              · have hq3i : (q : Int) + 1 < (bs.length : Int) := by omega
                go_wp2_with fail
                refine (unhide CS1).mono ?_
                rintro e w4 ⟨rfl, hw4⟩
                obtain rfl : _ = w4 := hw4.symm
                go_wp2_with fail
                refine (unhide CP).mono ?_
                rintro e w5 ⟨rfl, hB⟩
                have HB5 := hide ((unhide HCUT).2.trans (hB.mono (unhide HCUT).2.size))
                have HOW := hide (Rs.own_below (unhide HCUT).1 hB)
                have hwz5 := (unhide HB5).size
                clear CP
                have hb6 : Below w.heap.size w ((w5.alloc (.cells #[.int .i64 1, .int .i64 (q : Int), .int .i64 (n : Int), .string ⟨#[]⟩, .int .u8 0, .bool false] 31)).alloc (.cells #[.int .i64 1, .int .i64 (q : Int), .int .i64 (n : Int), .string ⟨#[]⟩, .int .u8 0, .bool false] 31)) := ((unhide HB5).alloc (unhide HB5).size _).alloc (by simp; omega) _
                have HB6 := hide hb6
                have HK6 := hide ((Blk.new w5 31 #[.int .i64 1, .int .i64 (q : Int), .int .i64 (n : Int), .string ⟨#[]⟩, .int .u8 0, .bool false]).alloc (.cells #[.int .i64 1, .int .i64 (q : Int), .int .i64 (n : Int), .string ⟨#[]⟩, .int .u8 0, .bool false] 31))
                obtain ⟨⟨x0, x1, x2, x3, x4, x5⟩, -⟩ := cells6 (unhide HK6)
                have CA := hide (rat_e ((unhide HP5) _ hb6) (i := (q : Int)) (k := q) (c := 45) rfl h45)
                obtain ⟨ab, off, eA, hb, hc⟩ := unhide HPC
                subst eA
                have c9 := (hb6.cell (p := ⟨ab, off + (q + 1), none⟩) hb).trans (hc (q + 1) hq3)
                rw [h93] at c9
                clear hb6 hB h45 h93 hb hc HPC
                go_wp2_with fail
                refine (unhide CA).mono ?_
                rintro e w1 ⟨rfl, hw1⟩
                obtain rfl : _ = w1 := hw1.symm
                have HOWW := hide (((unhide HOW).alloc (.cells #[.int .i64 1, .int .i64 (q : Int), .int .i64 (n : Int), .string ⟨#[]⟩, .int .u8 0, .bool false] 31)).alloc (.cells #[.int .i64 1, .int .i64 (q : Int), .int .i64 (n : Int), .string ⟨#[]⟩, .int .u8 0, .bool false] 31))
                have HBW := hide (unhide HB6)
                have HKX := hide ((by have h := Blk.new (w5.alloc (.cells #[.int .i64 1, .int .i64 (q : Int), .int .i64 (n : Int), .string ⟨#[]⟩, .int .u8 0, .bool false] 31)) 31 #[.int .i64 1, .int .i64 (q : Int), .int .i64 (n : Int), .string ⟨#[]⟩, .int .u8 0, .bool false]; rwa [World.size_alloc] at h : Blk ((w5.alloc (.cells #[.int .i64 1, .int .i64 (q : Int), .int .i64 (n : Int), .string ⟨#[]⟩, .int .u8 0, .bool false] 31)).alloc (.cells #[.int .i64 1, .int .i64 (q : Int), .int .i64 (n : Int), .string ⟨#[]⟩, .int .u8 0, .bool false] 31)) (w5.heap.size + 1) 31 #[.int .i64 1, .int .i64 (q : Int), .int .i64 (n : Int), .string ⟨#[]⟩, .int .u8 0, .bool false]))
                have hal5 : acc.length ≤ 5000 := by omega
                go_wp2_with (at_builtin; refine wp_app_P (w0 := w) (.rng n n) acc rfl rfl rfl rfl rfl (by simp) (unhide HOWW) (unhide HBW) hal5 ?_; intro v6 w6 ho6 ho7; have HO6 := hide ho6; obtain ⟨⟨u0, u1, u2, u3, u4, u5⟩, -⟩ := cells6 (ho7 _ _ _ (unhide HKX) (by decide)); clear ho6 ho7)
                have HR := hide (show RKRel bs k f w (.int .i64 (q : Int)) v6 w6 from ⟨q, acc ++ [.rng n n], rfl, by omega, by omega, unhide HQ, by simp; omega, allOk_snoc (unhide HAK) (show OkP (.rng _ _) from trivial), unhide HO6⟩)
                go_wp2_with fail
                have hR := unhide HR
                first | exact ⟨hR, by simp [intOf]; omega⟩ | (go_roundw; (case rel => exact hR); (case measure => (simp [intOf]; omega)))
        · have hin' : (bs.length : Int) ≤ (m : Int) := by omega
          have HQE := hide ((unhide HF).trans (clsF_end (acc := acc) (by omega)))
          have HBW := hide (unhide HCUT).2
          clear hno h93m
          generalize g bs m = ym at *
          go_wp2_with fail
          refine (unhide CS1).mono ?_
          rintro e w4 ⟨rfl, hw4⟩
          obtain rfl : _ = w4 := hw4.symm
          go_wp2_with fail
          (try simp only [Exit.inBlock, Exit.then])
          exact bodyPost_ret (v := .tuple #[.slice none 0 0, .bool false, .int .i64 0, .int .i64 33, .int .i64 (k : Int)]) (by simp [results, Tryz.f15]) rfl (by rw [unhide HQE]; exact ⟨rfl, unhide HBW⟩)
end Go.Proofs.YtdajdolhjaoeiaaGreatDoor.Sc
