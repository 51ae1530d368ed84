/-
  The law RsetMakes, walked.
-/
import Derived.Test.YthpmchdejoiacaaRsAnchor
import Derived.Test.YthpmchdejoiacaaRsLeast
import Derived.Test.YthpmchdejoiacaaRsEdges
set_option linter.unusedVariables false
set_option linter.unusedSimpArgs false
namespace Go.Proofs.Ythpmchdejoiacaa.Rs
open Go.Shelf Go.RowKit Go.Proofs.Ythpmchdejoiacaa.Mem

theorem neq_bool_m (a b : Bool) (w : World) : Sem.run Try.prog (binOp .neq 4 (.bool a) (.bool b)) w = .ok (.bool (!(a == b))) w := by
  have h := run_equal_bool (P := Try.prog) w 4 a b Try.underlying4
  simp [binOp, h]
attribute [local go_sem] run_not_true run_not_false neq_bool_m

theorem int_at {W wr : World} {A : Option Addr} {zs : List Int} {k : Nat} (h : Reads W W.heap.size 1 A zs.length (zs.map i64)) (hk : k < zs.length) (hb : Below W.heap.size W wr) :
    ∃ b off z, A = some ⟨b, off, none⟩ ∧ zs[k]? = some z ∧ wr.cell? ⟨b, off + k, none⟩ = some (.int .i64 z) := by
  obtain ⟨b, off, rfl, hlt, hc⟩ := h.flat (by omega)
  refine ⟨b, off, zs[k], rfl, List.getElem?_eq_getElem hk, (hb.cell (p := ⟨b, off + k, none⟩) hlt).trans (hc k (i64 zs[k]) (by simp [hk]))⟩

def MRel (n : Nat) (W : World) (i : Value) (wr : World) : Prop := ∃ k : Nat, i = .int .i64 k ∧ k ≤ n ∧ Below W.heap.size W wr

set_option maxHeartbeats 4000000 in
theorem walkMakes (l : List R) (A : Option Addr) (cap : Nat) (w : World) (hcap : l.length ≤ cap) (hm : cap ≤ 9223372036854775807) (hint : ∀ r ∈ l, -9223372036854775808 ≤ r.1 ∧ r.1 ≤ 9223372036854775807) (h : Lst w w.heap.size A l) :
    Calls Try.prog 3 #[.slice A l.length cap] w fun e w' => e = .returned (.bool true) ∧ Below w.heap.size w w' := by
  have H := hide h
  clear h hint
  by_cases hbig : 60 < (l.length : Int)
  · go_enter Try.func3, Try.ntmps3
    go_wp2_with fail
    refine (anchor_any w).mono ?_
    rintro e w1 ⟨rfl, hb1⟩
    go_wp2
    go_ret
    exact ⟨rfl, hb1⟩
  · have hlen : l.length ≤ 60 := by omega
    go_enter Try.func3, Try.ntmps3
    go_wp2_with fail
    refine (anchor_any w).mono ?_
    rintro e w1 ⟨rfl, hb1⟩
    have HB1 := hide hb1
    have HL1 := hide ((unhide H).below hb1 |>.more hb1.size)
    clear hb1
    go_wp2_with fail
    refine (make_any l A cap w1 (by omega) hcap (unhide HL1)).mono ?_
    rintro e w2 ⟨v2, rfl, hcut⟩
    obtain ⟨A2, cap2, rfl, hl2, hc2, hcm2⟩ := own_lst hcut.1
    have HB2 := hide ((unhide HB1).trans (hcut.2.mono (unhide HB1).size))
    have HL2 := hide ((unhide HL1).below hcut.2 |>.more hcut.2.size)
    have HM2 := hide hl2
    have hml := mk_len l
    have HSAME := hide (mk_has l)
    have HLEAST := hide (mk_least l)
    have HOKM := hide (mk_least l).ok
    clear hcut hl2
    generalize mk l = m at *
    have hbl := below_al (Below.refl w2.heap.size w2) (Nat.le_refl _) (.cells #[.slice A l.length cap, .slice A2 m.length cap2] 22)
    have HED := hide (edges_any [(A, l, cap), (A2, m, cap2)] w2.heap.size 2 (w2.alloc (.cells #[.slice A l.length cap, .slice A2 m.length cap2] 22)) (by simp) (by simp)
      (fun k x hx => by
        rw [World.cell?_alloc_new]
        match k, hx with
        | 0, hx => simp at hx; subst hx; rfl
        | 1, hx => simp at hx; subst hx; rfl
        | k + 2, hx => simp at hx)
      (fun x hx => by
        simp at hx
        rcases hx with rfl | rfl
        · exact ⟨((unhide HL2).below hbl).more (by simp), by simp only; omega⟩
        · exact ⟨((unhide HM2).below hbl).more (by simp), by simp only; omega⟩))
    have HBL := hide hbl
    clear hbl
    go_wp2_with fail
    refine (unhide HED).mono ?_
    rintro e w3 ⟨v3, zs, rfl, hzs, hzin, hcut3⟩
    obtain ⟨A3, cap3, rfl, hr3, hc3⟩ := own_reads hcut3.1
    have hb3 : Below w2.heap.size w2 w3 := (unhide HBL).trans (hcut3.2.mono (by simp))
    have HB3 := hide ((unhide HB2).trans (hb3.mono (unhide HB2).size))
    have HL3 := hide ((unhide HL2).below hb3 |>.more hb3.size)
    have HM3 := hide ((unhide HM2).below hb3 |>.more hb3.size)
    have HR3 := hide hr3
    clear hcut3 hr3 hb3 HED HBL hzin HL1
    go_wp2
    go_loopw [18] (fun i wr => MRel zs.length w3 i wr) (fun i _ => zs.length - (intOf i).toNat)
    case atStart => exact ⟨0, rfl, Nat.zero_le _, Below.refl _ _⟩
    case round =>
      obtain ⟨k, rfl, hk, hbl⟩ := hrel
      by_cases hlt : k < zs.length
      · obtain ⟨b, off, z, rfl, hz, c1⟩ := int_at (unhide HR3) hlt hbl
        have hlt' : (k : Int) < (zs.length : Int) := by omega
        have HLr := hide ((unhide HL3).below hbl |>.more hbl.size)
        have HMr := hide ((unhide HM3).below hbl |>.more hbl.size)
        have HBr := hide hbl
        clear hbl hz
        go_wp2_with fail
        refine (lawOf_any l A cap wr (by omega) (unhide HLr)).mono ?_
        rintro e w4 ⟨v4, rfl, hcut4⟩
        obtain ⟨A4, cap4, rfl, hl4, hc4, hcm4⟩ := own_lst2 hcut4.1
        have HB4 := hide ((unhide HBr).trans (hcut4.2.mono (unhide HBr).size))
        have HM4 := hide ((unhide HMr).below hcut4.2 |>.more hcut4.2.size)
        have HX4 := hide hl4
        clear hcut4 hl4 c1
        go_wp2_with fail
        refine (refHas_any l z A4 cap4 w4 (by omega) (unhide HX4)).mono ?_
        rintro e w5 ⟨rfl, rfl⟩
        go_wp2_with fail
        refine (lawOf_any m A2 cap2 w5 (by omega) (unhide HM4)).mono ?_
        rintro e w6 ⟨v6, rfl, hcut6⟩
        obtain ⟨A6, cap6, rfl, hl6, hc6, hcm6⟩ := own_lst2 hcut6.1
        have HB6 := hide ((unhide HB4).trans (hcut6.2.mono (unhide HB4).size))
        have HX6 := hide hl6
        clear hcut6 hl6
        go_wp2_with fail
        refine (refHas_any m z A6 cap6 w6 (by omega) (unhide HX6)).mono ?_
        rintro e w7 ⟨rfl, rfl⟩
        rw [(unhide HSAME) z]
        generalize hasL l z = p at *
        have hpp : (p == p) = true := by simp
        go_wp2
        first | go_roundw | refine ⟨⟨_, _, ?rel, rfl, rfl⟩, ?measure⟩
        case rel => exact ⟨k + 1, by go_num, by omega, unhide HB6⟩
        case measure => simp [intOf]; omega
      · obtain rfl : k = zs.length := by omega
        have HBr := hide hbl
        have HMr := hide ((unhide HM3).below hbl |>.more hbl.size)
        clear hbl
        go_wp2_with fail
        refine (lawOf_any m A2 cap2 wr (by omega) (unhide HMr)).mono ?_
        rintro e w4 ⟨v4, rfl, hcut4⟩
        obtain ⟨A4, cap4, rfl, hl4, hc4, hcm4⟩ := own_lst2 hcut4.1
        have HB4 := hide ((unhide HBr).trans (hcut4.2.mono (unhide HBr).size))
        have HX4 := hide hl4
        clear hcut4 hl4
        go_wp2_with fail
        refine (refLeast_any m A4 cap4 w4 (by omega) (fun r hr => by have := (unhide HOKM) r hr; unfold okR at this; omega) (unhide HX4)).mono ?_
        rintro e w5 ⟨rfl, hb5⟩
        rw [decide_eq_true (unhide HLEAST)]
        have HB5 := hide ((unhide HB4).trans (hb5.mono (unhide HB4).size))
        clear hb5
        go_wp2
        go_ret
        exact ⟨rfl, (unhide HB3).trans ((unhide HB5).mono (unhide HB3).size)⟩
end Go.Proofs.Ythpmchdejoiacaa.Rs
