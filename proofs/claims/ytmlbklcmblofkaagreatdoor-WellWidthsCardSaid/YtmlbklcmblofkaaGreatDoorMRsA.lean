/-
  rset.overlap, rset.empty, rset.within, walked.
-/
import Derived.Test.YtmlbklcmblofkaaGreatDoorMMemA
import Derived.Laws.Tables
import Derived.IntWalk
set_option linter.unusedSimpArgs false
set_option linter.unusedVariables false
set_option maxHeartbeats 2000000
set_option maxRecDepth 100000
namespace Go.Proofs.YtmlbklcmblofkaaGreatDoor.Rs
open Go.RowKit Mem
theorem build_range (a b:Int) (w:World):Sem.run Tryz.prog (Instr.build 56 #[(0,.int .i64 a),(1,.int .i64 b)]) w=.ok (.agg #[.int .i64 a,.int .i64 b]) w:=run_build w 56 _ _ (by kernel_rfl)
attribute [local go_sem] build_range run_not_true run_not_false
theorem overlap_any (a b:R) (w:World):Calls Tryz.prog 108 #[.agg #[.int .i64 a.1,.int .i64 a.2],.agg #[.int .i64 b.1,.int .i64 b.2]] w fun e w'=>e=.returned (.agg #[.int .i64 (ovR a b).1,.int .i64 (ovR a b).2])∧Below w.heap.size w w':=by
 unfold ovR
 have c0:=((Blk.new w 56 #[.int .i64 a.1,.int .i64 a.2]).alloc (.cells #[.int .i64 b.1,.int .i64 b.2] 56)).alloc (.cells fz 56)
 have c1:=c0.cell 0
 have c2:=c0.cell 1
 have C0:=hide c0
 clear c0
 go_enter Tryz.func108,Tryz.ntmps108
 go_wp2
 all_goals
  (try simp only [Exit.inBlock,Exit.then])
  refine bodyPost_ret (results_cell_row rfl _ _ (w.heap.size+1+1) 56 _ (0,0) _ rfl (by simpa using heap_alloc_new ((w.alloc _).alloc _) _) Tryz.underlying56 rfl (by kernel_rfl)) rfl ?_
  refine ⟨?_,below_al (below_al (below_al (Below.refl _ _) (Nat.le_refl _) _) (by simp) _) (by simp;omega) _⟩
  simp only [Ending.returned.injEq,Value.agg.injEq,Array.mk.injEq,List.cons.injEq,Value.int.injEq,true_and,and_true]
  omega
theorem empty_any (a:R) (w:World):Calls Tryz.prog 109 #[.agg #[.int .i64 a.1,.int .i64 a.2]] w fun e w'=>e=.returned (.bool (decide (a.2<a.1)))∧Below w.heap.size w w':=by
 go_enter Tryz.func109,Tryz.ntmps109
 go_wp2
 go_ret
 exact ⟨rfl,below_al (Below.refl _ _) (Nat.le_refl _) _⟩
theorem within_take {l:List R} {k:Nat} {r q:R} (hlt:k<l.length) (hr:l[k]?=some r) (hq:cutR r=q):withinL (l.take (k+1))=withinL (l.take k)++(if q.1≤q.2 then [q] else []):=by
 have e:l[k]=r:=by simpa [List.getElem?_eq_getElem hlt] using hr
 rw [List.take_succ_eq_append_getElem hlt,e,withinL_concat,hq]
theorem within_len (l:List R):(withinL l).length≤l.length:=by
 unfold withinL
 exact Nat.le_trans (List.length_filter_le _ _) (by simp)
def Cut (w:World) (l:List R) (v:Value) (w':World):Prop:=w'.ownsRow w.heap.size 56 2 v l.length (flat l)∧Below w.heap.size w w'
def WRel (l:List R) (w:World) (v i:Value) (wr:World):Prop:=∃ k:Nat,i=.int .i64 k∧k≤l.length∧Cut w (withinL (l.take k)) v wr
theorem within_flat (l:List R) (b off cap:Nat) (w:World) (hlen:l.length≤8796093021952) (hcap:l.length≤cap) (hb:b<w.heap.size)
  (hc:∀ k r,l[k]?=some r→w.cell? ⟨b,off+k*2,none⟩=some (.int .i64 r.1)∧w.cell? ⟨b,off+k*2+1,none⟩=some (.int .i64 r.2)) :
  Calls Tryz.prog 96 #[.slice (some ⟨b,off,none⟩) l.length cap] w fun e w'=>∃ v,e=.returned v∧Cut w (withinL l) v w':=by
 have HC:=hide hc
 have HLB:=hide hb
 clear hc hb
 go_enter Tryz.func96,Tryz.ntmps96
 go_wp2
 go_loopw [3,8] (fun v i wr=>WRel l w v i wr) (fun _ i _=>l.length-(intOf i).toNat)
 case atStart=>exact ⟨0,rfl,Nat.zero_le _,World.ownsRow_nil _ _ _ _,Below.refl _ _⟩
 case round=>
  obtain ⟨k,rfl,hk,hrow⟩:=hrel
  by_cases hlt:k<l.length
  ·obtain ⟨r,hr⟩:∃ r,l[k]?=some r:=⟨_,List.getElem?_eq_getElem hlt⟩
   have HR:=hide hr
   have c1:wr.cell? ⟨b,off+k*2,none⟩=some (.int .i64 r.1):=(hrow.2.cell (p:=⟨b,off+k*2,none⟩) HLB.1).trans (HC.1 k r hr).1
   have c2:wr.cell? ⟨b,off+k*2+1,none⟩=some (.int .i64 r.2):=(hrow.2.cell (p:=⟨b,off+k*2+1,none⟩) HLB.1).trans (HC.1 k r hr).2
   have hlt':(k:Int)<(l.length:Int):=by omega
   have HROW:=hide hrow
   clear hrow hr
   go_wp2_with fail
   refine (overlap_any r (0,1114367) _).mono ?_
   rintro e w1 ⟨rfl,hb1⟩
   rw [show ovR r (0,1114367)=cutR r from rfl]
   obtain ⟨q,hq⟩:∃ q,cutR r=q:=⟨_,rfl⟩
   rw [hq]
   have hb:=(Blk.new wr 56 #[.int .i64 r.1,.int .i64 r.2]).below hb1 (by simp)
   have d0:=hb.cell 0
   have d1:=hb.cell 1
   have f0:=hb.frozen 0
   have f1:=hb.frozen 1
   have hbw:Below wr.heap.size wr ((w1.setCell ⟨wr.heap.size,0,none⟩ (.int .i64 q.1)).setCell ⟨wr.heap.size,1,none⟩ (.int .i64 q.2)):=
    (((below_al (Below.refl _ _) (Nat.le_refl _) _).trans (hb1.mono (by simp))).setCell (Nat.le_refl _) _).setCell (Nat.le_refl _) _
   have hbk:Blk ((w1.setCell ⟨wr.heap.size,0,none⟩ (.int .i64 q.1)).setCell ⟨wr.heap.size,1,none⟩ (.int .i64 q.2)) wr.heap.size 56 #[.int .i64 q.1,.int .i64 q.2]:=(hb.set_ 0 _).set_ 1 _
   have HBW:=hide hbw
   have HBK:=hide hbk
   have HQ:=hide hq
   clear hb1 hb c1 c2 hbw hbk hq
   go_wp2_with fail
   clear d0 d1 f0 f1
   generalize (w1.setCell ⟨wr.heap.size,0,none⟩ (.int .i64 q.1)).setCell ⟨wr.heap.size,1,none⟩ (.int .i64 q.2)=w2 at HBW HBK ⊢
   refine (empty_any q w2).mono ?_
   rintro e w3 ⟨rfl,hb3⟩
   have hb4:Below wr.heap.size wr w3:=HBW.1.trans (hb3.mono HBW.1.size)
   have hbk:=HBK.1.below hb3 HBK.1.lt
   have d0:=hbk.cell 0
   have d1:=hbk.cell 1
   have hcut:Cut w (withinL (l.take k)) u3 w3:=⟨own_below HROW.1.1 hb4,HROW.1.2.trans (hb4.mono HROW.1.2.size)⟩
   have HW:=hide (within_take hlt HR.1 HQ.1)
   have HCUT:=hide hcut
   clear hb3 hb4 hbk hcut HBW HBK HROW
   by_cases hqe:q.2<q.1
   ·rw [decide_eq_true hqe]
    have HQE:=hide hqe
    go_wp2
    go_roundw
    case rel=>exact ⟨k+1,by go_num,by omega,by rw [HW.1,if_neg (by omega),List.append_nil];exact HCUT.1⟩
    case measure=>simp [intOf];omega
   ·rw [decide_eq_false hqe]
    have HQE:=hide hqe
    have hlen3:(withinL (l.take k)).length+1≤8796093021953:=by have:=within_len (l.take k);have h2:(l.take k).length≤k:=List.length_take_le _ _;omega
    have hmx:(withinL (l.take k)).length+1≤maxLen:=by unfold maxLen;omega
    have hone:∀ u∈(#[.int .i64 q.1,.int .i64 q.2]:Array Value).toList,u.oneCell'=true:=by simp [Value.oneCell']
    have hw3:=HCUT.1.2.size
    obtain ⟨i0,hi,hz0,hz1,hz2⟩:=info_parts info_range
    go_wp2_with (at_builtin;refine wpList_append_any _ rfl (.tmp 18) (.tmp 20) 46 rfl w.heap.size 56 i0 (.agg #[.int .i64 0,.int .i64 0]) 2 16 Tryz.underlying46 hi hz0 hz1 hz2 rfl (by decide) _ (withinL (l.take k)).length _ rfl (HCUT.1.1.alloc _) _ _ 1 1 _ rfl (reads_new w3 #[.int .i64 q.1,.int .i64 q.2] 56 1 2 rfl) hone hmx (by omega) (by rw [World.size_alloc];omega) ?_;intro v5 w5 ho5 hg5 hn5;have HO5:=hide ho5;have HG5:=hide hg5;clear ho5 hg5 hn5)
    refine ⟨⟨_,_,_,?rel,rfl,rfl,rfl⟩,?measure⟩
    case rel=>
     refine ⟨k+1,by go_num,by omega,?_⟩
     rw [HW.1,if_pos (by omega)]
     exact ⟨by rw [flat_append,List.length_append];exact HO5.1,below_app HCUT.1.2 HCUT.1.1 HG5.1⟩
    case measure=>simp [intOf];omega
  ·obtain rfl:k=l.length:=by omega
   rw [List.take_length] at hrow
   have HROW:=hide hrow
   clear hrow
   go_wp2
   go_ret
   exact ⟨_,rfl,HROW.1⟩
theorem within_none (A:Option Addr) (cap:Nat) (w:World):Calls Tryz.prog 96 #[.slice A 0 cap] w fun e w'=>∃ v,e=.returned v∧Cut w [] v w':=by
 go_enter Tryz.func96,Tryz.ntmps96
 go_wp2
 go_loop [3,8] (fun v i=>v=.slice none 0 0∧i=.int .i64 0) (fun _ _=>0)
 case atStart=>exact ⟨rfl,rfl⟩
 case round=>
  obtain ⟨rfl,rfl⟩:=hrel
  go_wp2
  go_ret
  exact ⟨_,rfl,World.ownsRow_nil _ _ _ _,Below.refl _ _⟩
theorem within_any (l:List R) (A:Option Addr) (cap:Nat) (w:World) (hlen:l.length≤8796093021952) (hcap:l.length≤cap) (h:Lst w w.heap.size A l) :
  Calls Tryz.prog 96 #[.slice A l.length cap] w fun e w'=>∃ v,e=.returned v∧Cut w (withinL l) v w':=by
 by_cases hn:l.length=0
 ·rw [List.eq_nil_of_length_eq_zero hn];exact within_none A cap w
 ·obtain ⟨b,off,rfl,hb,hc⟩:=h (by omega)
  exact within_flat l b off cap w hlen hcap hb hc
end Go.Proofs.YtmlbklcmblofkaaGreatDoor.Rs
