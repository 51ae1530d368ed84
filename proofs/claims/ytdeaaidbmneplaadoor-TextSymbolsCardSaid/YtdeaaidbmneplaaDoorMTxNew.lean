/-
  text.New, walked: the symbols of any bytes, in new memory; too many are refused.
-/
import Derived.Test.YtdeaaidbmneplaaDoorMTxSmall
import Derived.Test.YtdeaaidbmneplaaDoorMSymRefAll
import Derived.Test.YtdeaaidbmneplaaDoorMFoB
set_option linter.unusedSimpArgs false
set_option linter.unusedVariables false
namespace Go.Proofs.YtdeaaidbmneplaaDoor.Tx
open Go.RowKit Go.Proofs.YtdeaaidbmneplaaDoor.Sy Go.Proofs.YtdeaaidbmneplaaDoor.Mem Go.Proofs.YtdeaaidbmneplaaDoor.Utf
section
variable {P : Program}
theorem results_ct {fn : Func} {p u : Tmp} {ty : TypeId} (h : fn.results = #[.cell p ty, .tmp u]) (tmps : Array Value) (w : World) (g : Nat) (cs : Array Value) (d : TypeDesc) (v : Value)
    (hp : tmps.getD p undef = .pointer (some ⟨g, 0, none⟩)) (hv : tmps.getD u undef = v) (hg : Blk w g ty cs)
    (hu : P.underlying ty = some d) (hd : (match d with | .struct _ | .array _ _ => true | _ => false) = true) (hi : (P.info? ty).map (·.size) = some cs.size) :
    (results fn tmps).run P w = .ok (.tuple #[.agg cs, v]) w := by
  have hp' : tmps[p]?.getD undef = .pointer (some ⟨g, 0, none⟩) := by simpa using hp
  have hv' : tmps[u]?.getD undef = v := by simpa using hv
  simp [results, h, hp', hv', asAddr, run_loadVar_row w g ty ty cs (0, 0) d hg hu hd hi]
end
theorem build_t0 (w : World) : Sem.run Tryd.prog (Instr.build 26 #[]) w = .ok (.agg #[.slice none 0 0]) w := run_build w 26 _ _ (by kernel_rfl)
theorem build_t1 (A : Option Addr) (n c : Nat) (w : World) : Sem.run Tryd.prog (Instr.build 26 #[(0, .slice A n c)]) w = .ok (.agg #[.slice A n c]) w := run_build w 26 _ _ (by kernel_rfl)
attribute [local go_sem] build_t0 build_t1
def NRel (bs : List UInt8) (w : World) (o i : Value) (wr : World) : Prop :=
  ∃ (k : Nat) (pre : List (Nat × Nat)), i = .int .i64 k ∧ k ≤ bs.length ∧ pre ++ from_ bs k = from_ bs 0 ∧ pre.length ≤ 65536 ∧ wr.ownsRow w.heap.size 3 1 o pre.length ((pre.map (·.2)).map n64) ∧
    Blk wr w.heap.size 26 #[.slice none 0 0] ∧ Below w.heap.size w wr
theorem nrel_step {bs : List UInt8} {w w1 w2 : World} {o o' : Value} {k x m : Nat} {pre : List (Nat × Nat)} {t1 : Obj} (hfr : from_ bs k = (k, x) :: from_ bs (k + m)) (hk : k + m ≤ bs.length) (hpre : pre ++ from_ bs k = from_ bs 0) (hl : pre.length + 1 ≤ 65536)
    (ho : w1.ownsRow w.heap.size 3 1 o pre.length ((pre.map (·.2)).map n64)) (hbx : Blk w1 w.heap.size 26 #[.slice none 0 0]) (hB : Below w.heap.size w w1)
    (ho' : w2.ownsRow w.heap.size 3 1 o' (pre.length + 1) ((pre.map (·.2)).map n64 ++ [n64 x])) (hg1 : (w1.alloc t1).grownBy w2 o.ownBlock) :
    NRel bs w o' (.int .i64 ((k : Int) + (m : Int))) w2 := by
  refine ⟨k + m, pre ++ [(k, x)], by simp, hk, by rw [List.append_assoc, List.singleton_append, ← hfr]; exact hpre, by simpa using hl, by simpa using ho', ?_, ?_⟩
  · exact (hbx.alloc t1).grown hg1 (fun e => own_blk_ne ho hbx (by decide) e.symm)
  · exact (hB.alloc hB.size t1).grown hg1 (by rw [World.size_alloc]; have := hB.size; omega) (All.own_base ho)
def NewG (bs : List UInt8) (w : World) (e : Ending) (w' : World) : Prop :=
  ((syms bs).length ≤ 65536 ∧ ∃ v, e = .returned (.tuple #[.agg #[v], .int .i64 0]) ∧ w'.ownsRow w.heap.size 3 1 v (syms bs).length ((syms bs).map n64) ∧ Below w.heap.size w w') ∨
  (65536 < (syms bs).length ∧ e = .returned (.tuple #[.agg #[.slice none 0 0], .int .i64 15]) ∧ Below w.heap.size w w')
set_option maxRecDepth 100000 in
set_option maxHeartbeats 2000000 in
theorem new_any (bs : List UInt8) (A : Option Addr) (cap : Nat) (w : World) (hT : Tabs w) (hlen : bs.length ≤ 1099511627776) (hcap : bs.length ≤ cap) (hm : cap ≤ 9223372036854775807)
    (hr : Reads w w.heap.size 1 A bs.length (bs.map u8)) :
    Calls Tryd.prog 9 #[.slice A bs.length cap] w (NewG bs w) := by
  obtain ⟨i0, hi, hz0, hz1, hz2⟩ := info_parts All.info_int
  have HR := hide hr
  have HT := hide hT
  clear hr hT
  go_enter Tryd.func9, Tryd.ntmps9
  go_wp2
  go_loopw [4, 5] (fun o i wr => NRel bs w o i wr) (fun _ i _ => bs.length - (intOf i).toNat)
  case atStart => exact ⟨0, [], rfl, Nat.zero_le _, rfl, by simp, World.ownsRow_nil _ _ _ _, Blk.new w _ _, below_box _ _⟩
  case round =>
    obtain ⟨k, pre, rfl, hk, hpre, hpm, ho, hbx, hB⟩ := hrel
    have hpl : pre.length + (from_ bs k).length = (syms bs).length := by unfold syms; rw [← hpre, List.length_map, List.length_append]
    have HPL := hide hpl
    have hBz := hB.size
    have hsl := syms_len bs
    by_cases hlt : k < bs.length
    · have hfr0 := from_lt hlt
      by_cases hfull : pre.length = 65536
      · have HE := hide (show 65536 < (syms bs).length by rw [hfr0, List.length_cons] at hpl; omega)
        have hd : ((pre.length : Int) == 65536) = true := by rw [beq_iff_eq]; omega
        have HB := hide hB
        have HBX := hide hbx
        have f1 := hbx.frozen 0
        have c1 := hbx.cell 0
        obtain ⟨A5, c5, rfl, -⟩ := Fo.own_reads ho
        clear hpl hpre hB hbx ho hfull hfr0
        generalize pre.length = pn at *
        go_wp2_with fail
        refine bodyPost_ret (results_ct rfl _ _ w.heap.size _ _ _ rfl rfl ((unhide HBX).set_ 0 _) Tryd.underlying26 rfl (by kernel_rfl)) rfl (.inr ⟨unhide HE, rfl, ?_⟩)
        exact (unhide HB).setCell (p := ⟨w.heap.size, 0, none⟩) (Nat.le_refl _) _
      · have hd : ((pre.length : Int) == 65536) = false := by rw [beq_eq_false_iff_ne]; omega
        have hmx : pre.length + 1 ≤ maxLen := by unfold maxLen; omega
        have hp1 : pre.length + 1 ≤ 65536 := by omega
        have hsz2 := at_size bs hlt
        have htop := at_top bs k
        have HFR := hide hfr0
        have HP := hide hpre
        have HB := hide hB
        have HO := hide ho
        have HBX := hide hbx
        have hT1 := (unhide HT).below hB (Nat.le_refl _)
        have HC := hide (At.at_in bs w.heap.size k cap A wr hT1 hlt hcap hm ((unhide HR).below hB))
        clear hpl hpre hB hbx ho hfull hfr0 hT1
        obtain ⟨A5, c5, rfl, -⟩ := Fo.own_reads (unhide HO)
        generalize at_ bs k = xm at *
        obtain ⟨x, m⟩ := xm
        simp only [] at hsz2 htop HFR
        go_wp2_with fail
        refine (unhide HC).mono ?_
        rintro e w1 ⟨rfl, hb1⟩
        have HO1 := hide (Fo.own_below (unhide HO) hb1)
        have HBX1 := hide ((unhide HBX).below hb1 (unhide HBX).lt)
        have HB1 := hide ((unhide HB).trans (hb1.mono hBz))
        have hwz := (unhide HB1).size
        clear HC hb1 HO HBX HB
        go_wp2_with (at_builtin; refine wpList_append_any _ rfl (.tmp 22) (.tmp 24) 24 rfl w.heap.size 3 i0 (.int .i64 0) 1 8 Tryd.underlying24 hi hz0 hz1 hz2 rfl (by decide) _ pre.length _ rfl ((unhide HO1).alloc _) _ _ 1 1 [.int .i64 (x : Int)] rfl (RefAll.reads_one _ _ _) (by simp [Value.oneCell']) hmx (by omega) (by rw [World.size_alloc]; omega) ?_; intro o' w2 ho' hg1 hn1; have HO2 := hide ho'; have HG := hide hg1; clear ho' hg1 hn1)
        first | go_roundw | refine ⟨⟨_, _, _, ?rel, rfl, rfl, rfl⟩, ?measure⟩
        case rel => exact nrel_step (unhide HFR) hsz2.2.2 (unhide HP) hp1 (unhide HO1) (unhide HBX1) (unhide HB1) (unhide HO2) (unhide HG)
        case measure => simp [intOf]; omega
    · obtain rfl : k = bs.length := by omega
      have hall : pre = from_ bs 0 := by rw [from_ge (Nat.le_refl _)] at hpre; simpa using hpre
      have hlen2 : pre.length = (syms bs).length := by rw [hall]; unfold syms; rw [List.length_map]
      have ho2 : wr.ownsRow w.heap.size 3 1 u4 (syms bs).length ((syms bs).map n64) := by rw [← hlen2]; unfold syms; rw [← hall]; exact ho
      rw [hlen2] at hpm
      have HB := hide hB
      have HBX := hide hbx
      have f1 := hbx.frozen 0
      have c1 := hbx.cell 0
      have HPM := hide hpm
      obtain ⟨A5, c5, rfl, -⟩ := Fo.own_reads ho2
      have HO := hide (ownsRow_setCell_other ho2 (a := ⟨w.heap.size, 0, none⟩) (own_blk_ne ho2 hbx (by decide)) (.slice A5 (syms bs).length c5))
      clear hall hpre hB hbx ho hpl hlen2 hpm ho2
      generalize hpn : (syms bs).length = pn at *
      have HPN := hide hpn
      clear hpn
      go_wp2_with fail
      exact bodyPost_ret (results_ct rfl _ _ w.heap.size _ _ _ rfl rfl ((unhide HBX).set_ 0 _) Tryd.underlying26 rfl (by kernel_rfl)) rfl (.inl ⟨by rw [unhide HPN]; exact unhide HPM, _, rfl, by rw [unhide HPN]; exact unhide HO, (unhide HB).setCell (p := ⟨w.heap.size, 0, none⟩) (Nat.le_refl _) _⟩)
end Go.Proofs.YtdeaaidbmneplaaDoor.Tx
