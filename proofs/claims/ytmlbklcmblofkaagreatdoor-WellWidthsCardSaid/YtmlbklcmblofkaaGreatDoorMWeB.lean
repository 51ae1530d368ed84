/-
  well.of at a Repeat, walked: a region that draws and holds two calls.
-/
import Derived.Test.YtmlbklcmblofkaaGreatDoorMWeA
import Derived.Laws.Tables
import Derived.IntWalk
import Derived.WalkHide
import Derived.Laws.Slices
import Derived.Deep.RegionHeld3
set_option linter.unusedSimpArgs false
set_option linter.unusedVariables false
set_option maxHeartbeats 4000000
set_option maxRecDepth 100000
namespace Go.Proofs.YtmlbklcmblofkaaGreatDoor.We
section
open Go.RowKit Mem Rs
variable {W:World}
abbrev wd (a:Wd):Array Value:=#[.int .i64 a.1,.int .i64 a.2]
theorem build_w (a b:Int) (w:World):Sem.run Tryz.prog (Instr.build 35 #[(0,.int .i64 a),(1,.int .i64 b)]) w=.ok (.agg #[.int .i64 a,.int .i64 b]) w:=run_build w 35 _ _ (by kernel_rfl)
attribute [local go_sem] build_w run_not_true run_not_false
theorem unbound_any (a:Wd) (w:World):Calls Tryz.prog 30 #[.agg #[.int .i64 a.1,.int .i64 a.2]] w fun e w'=>e=.returned (.bool (unb a))∧Below w.heap.size w w':=by
 go_enter Tryz.func30,Tryz.ntmps30
 go_wp2
 go_ret
 exact ⟨rfl,below_al (Below.refl _ _) (Nat.le_refl _) _⟩
theorem blkAt {g t:Nat} {cs:Array Value} (hg:g=W.heap.size):Blk (W.alloc (.cells cs t)) g t cs:=by subst hg;exact Blk.new _ _ _
theorem blk2 {o:Obj} {t:Nat} {cs:Array Value}:Blk ((W.alloc o).alloc (.cells cs t)) (W.heap.size+1) t cs:=blkAt (by simp)
theorem resW {fn:Func} {p:Tmp} (h:fn.results=#[.cell p 35]) {tmps:Array Value} {w:World} (g:Nat) (a:Wd) (hp:tmps.getD p undef=.pointer (some ⟨g,0,none⟩)) (hg:Blk w g 35 (wd a)):(results fn tmps).run Tryz.prog w=.ok (.agg #[.int .i64 a.1,.int .i64 a.2]) w:=
 results_cell_row h tmps w g 35 _ (0,0) _ hp hg Tryz.underlying35 rfl (by kernel_rfl)
theorem capped_any (a:Wd) (w:World):Calls Tryz.prog 31 #[.agg #[.int .i64 a.1,.int .i64 a.2]] w fun e w'=>e=.returned (.agg #[.int .i64 (capW a).1,.int .i64 (capW a).2])∧Below w.heap.size w w':=by
 unfold capW
 have c0:=(Blk.new w 35 #[.int .i64 a.1,.int .i64 a.2]).alloc (.cells fz 35)
 have c1:=c0.cell 0
 have c2:=c0.cell 1
 have f1:=c0.frozen 0
 have f2:=c0.frozen 1
 clear c0
 by_cases h:1048576<a.2
 ·have d:decide (1048576<a.2)=true:=decide_eq_true h
  rw [if_pos h]
  clear h
  go_enter Tryz.func31,Tryz.ntmps31
  go_wp2_with fail
  all_goals
   refine bodyPost_ret (results_cell_row rfl _ _ (w.heap.size+1) 35 _ (0,0) _ rfl (blk2:Blk _ _ _ _) Tryz.underlying35 rfl (by kernel_rfl)) rfl ⟨?_,below_al (below_al (Below.refl _ _) (Nat.le_refl _) _) (by simp) _⟩
   (simp only [Ending.returned.injEq,Value.agg.injEq,Array.mk.injEq,List.cons.injEq,Value.int.injEq,true_and,and_true])<;>omega
 ·have d:decide (1048576<a.2)=false:=decide_eq_false h
  rw [if_neg h]
  clear h
  go_enter Tryz.func31,Tryz.ntmps31
  go_wp2_with fail
  all_goals
   refine bodyPost_ret (results_cell_row rfl _ _ (w.heap.size+1) 35 _ (0,0) _ rfl (blk2:Blk _ _ _ _) Tryz.underlying35 rfl (by kernel_rfl)) rfl ⟨?_,below_al (below_al (Below.refl _ _) (Nat.le_refl _) _) (by simp) _⟩
   (simp only [Ending.returned.injEq,Value.agg.injEq,Array.mk.injEq,List.cons.injEq,Value.int.injEq,true_and,and_true])<;>omega
theorem cellsW {g:Nat} {a b:Int} (h:Blk W g 35 #[.int .i64 a,.int .i64 b]):(W.cell? ⟨g,0,none⟩=some (.int .i64 a)∧W.cell? ⟨g,1,none⟩=some (.int .i64 b))∧W.frozen? ⟨g,0,none⟩=false∧W.frozen? ⟨g,1,none⟩=false:=⟨⟨h.cell 0,h.cell 1⟩,h.frozen 0,h.frozen 1⟩
def SRel (f:List Wd→Wd) (l:List Wd) (w:World) (i:Value) (wr:World):Prop:=∃ k:Nat,i=.int .i64 (k:Int)∧k≤l.length∧Blk wr (w.heap.size+1) 35 (wd (f (l.take k)))∧Blk wr w.heap.size 35 fz∧Below w.heap.size w wr
theorem sum_take {l:List Wd} {k:Nat} {r:Wd} (hlt:k<l.length) (hr:l[k]?=some r):sumW (l.take (k+1))=addW (sumW (l.take k)) r:=by
 have e:l[k]=r:=by simpa [List.getElem?_eq_getElem hlt] using hr
 rw [List.take_succ_eq_append_getElem hlt,e]
 unfold sumW
 rw [List.foldl_append];rfl
theorem sum_any (l:List Wd) (A:Option Addr) (cap:Nat) (w:World) (hlen:l.length≤100000) (h:Lst w w.heap.size A l) (hok:∀ a∈l,OkW a) :
  Calls Tryz.prog 22 #[.slice A l.length cap] w fun e w'=>e=.returned (.agg #[.int .i64 (sumW l).1,.int .i64 (sumW l).2])∧Below w.heap.size w w':=by
 have HL:=hide h
 have HOK:=hide hok
 have hz:=(Blk.new w 35 fz).alloc (.cells fz 35)
 have hs:Blk ((w.alloc (.cells fz 35)).alloc (.cells fz 35)) (w.heap.size+1) 35 fz:=blkAt (by simp)
 have hb:Below w.heap.size w ((w.alloc (.cells fz 35)).alloc (.cells fz 35)):=below_al (below_al (Below.refl _ _) (Nat.le_refl _) _) (by simp) _
 have H0:=hide (show SRel sumW l w (.int .i64 0) _ from ⟨0,rfl,Nat.zero_le _,hs,hz,hb⟩)
 clear h hok hz hs hb
 go_enter Tryz.func22,Tryz.ntmps22
 go_wp2_with fail
 go_loopw [8] (fun i wr=>SRel sumW l w i wr) (fun i _=>l.length-(intOf i).toNat)
 case atStart=>exact H0.1
 case round=>
  obtain ⟨k,rfl,hk,hS,hZ,hB⟩:=hrel
  go_hideQ
  clear H0
  by_cases hlt:k<l.length
  ·have hki:(k:Int)<(l.length:Int):=by omega
   have hd:decide ((k:Int)<(l.length:Int))=true:=decide_eq_true hki
   obtain ⟨b,off,rfl,hbl,hc⟩:=HL.1 (by omega)
   obtain ⟨r,hr⟩:∃ r,l[k]?=some r:=⟨_,List.getElem?_eq_getElem hlt⟩
   have c1:wr.cell? ⟨b,off+k*2,none⟩=some (.int .i64 r.1):=(hB.cell (p:=⟨b,off+k*2,none⟩) hbl).trans (hc k r hr).1
   have c2:wr.cell? ⟨b,off+k*2+1,none⟩=some (.int .i64 r.2):=(hB.cell (p:=⟨b,off+k*2+1,none⟩) hbl).trans (hc k r hr).2
   have HTK:=hide (sum_take hlt hr)
   have okr:=HOK.1 r (List.mem_of_getElem? hr)
   have oks:=(ok_sum (l:=l.take k) (fun a ha=>HOK.1 a (List.mem_of_mem_take ha))).1
   generalize sumW (l.take k)=s at *
   have b1:=okr.lo;have b2:=okr.top;have b3:=okr.hi;have b4:=okr.cap
   have b5:=oks.lo;have b6:=oks.top;have b7:=oks.hi;have b8:=oks.cap
   have w1:IntKind.i64.wrap (s.1+r.1)=s.1+r.1:=wrap_id _ (by omega) (by omega)
   have w2:IntKind.i64.wrap (s.2+r.2)=s.2+r.2:=wrap_id _ (by omega) (by omega)
   have w3:IntKind.i64.wrap ((k:Int)+1)=(k:Int)+1:=wrap_id _ (by omega) (by omega)
   have hgs:w.heap.size+2≤wr.heap.size:=by have:=hS.lt;omega
   have hS1:=hS.alloc (.cells (wd r) 35)
   have hS2:Blk ((wr.alloc (.cells (wd r) 35)).setCell ⟨w.heap.size+1,0,none⟩ (.int .i64 (s.1+r.1))) (w.heap.size+1) 35 #[.int .i64 (s.1+r.1),.int .i64 s.2]:=hS1.set_ 0 _
   have hR2:=(Blk.new wr 35 (wd r)).far (p:=⟨w.heap.size+1,0,none⟩) (show wr.heap.size≠w.heap.size+1 by omega) (.int .i64 (s.1+r.1))
   have hB2:=(below_al hB hB.size (.cells (wd r) 35)).setCell (p:=⟨w.heap.size+1,0,none⟩) (show w.heap.size≤w.heap.size+1 by omega) (.int .i64 (s.1+r.1))
   have hZ2:=(hZ.alloc (.cells (wd r) 35)).far (p:=⟨w.heap.size+1,0,none⟩) (show w.heap.size≠w.heap.size+1 by omega) (.int .i64 (s.1+r.1))
   obtain ⟨⟨a0,a1⟩,f0,f1⟩:=cellsW hS1
   obtain ⟨⟨e0,e1⟩,-,-⟩:=cellsW hS2
   have HS2:=hide hS2
   have HR2:=hide hR2
   have HB2:=hide hB2
   have HZ2:=hide hZ2
   clear hS hZ hB hr hc hbl okr oks hS1 hS2 hR2 hB2 hZ2
   go_wp2_with fail
   refine (unbound_any (s.1+r.1,s.2) _).mono ?_
   rintro e w4 ⟨rfl,hb4⟩
   rw [show unb (s.1+r.1,s.2)=unb s from rfl]
   have hS3:=HS2.1.below hb4 HS2.1.lt
   have hR3:=HR2.1.below hb4 HR2.1.lt
   have hB3:=HB2.1.trans (hb4.mono HB2.1.size)
   have hZ3:=HZ2.1.below hb4 HZ2.1.lt
   clear hb4 HS2 HR2 HB2 HZ2 a0 a1 f0 f1 e0 e1 c1 c2
   obtain ⟨us,hus⟩:∃ u,unb s=u:=⟨_,rfl⟩
   rw [hus]
   have HUS:=hide hus
   clear hus
   cases us with
   | true=>
    have hS4:Blk (w4.setCell ⟨w.heap.size+1,1,none⟩ (.int .i64 (-1))) (w.heap.size+1) 35 #[.int .i64 (s.1+r.1),.int .i64 (-1)]:=hS3.set_ 1 _
    have hB4:=hB3.setCell (p:=⟨w.heap.size+1,1,none⟩) (show w.heap.size≤w.heap.size+1 by omega) (.int .i64 (-1))
    have hZ4:=hZ3.far (p:=⟨w.heap.size+1,1,none⟩) (show w.heap.size≠w.heap.size+1 by omega) (.int .i64 (-1))
    obtain ⟨⟨t0,t1⟩,g0,g1⟩:=cellsW hS3
    obtain ⟨⟨u0,u1⟩,-,-⟩:=cellsW hS4
    have HS4:=hide hS4
    have HB4:=hide hB4
    have HZ4:=hide hZ4
    clear hS3 hB3 hZ3 hS4 hB4 hZ4
    go_wp2_with fail
    refine (capped_any (s.1+r.1,-1) _).mono ?_
    rintro e w6 ⟨rfl,hb6⟩
    have hS6:=HS4.1.below hb6 HS4.1.lt
    obtain ⟨q,hq⟩:∃ q,capW (s.1+r.1,-1)=q:=⟨_,rfl⟩
    rw [hq]
    have hS7:=(hS6.set_ 0 (.int .i64 q.1)).set_ 1 (.int .i64 q.2)
    have hB7:=((HB4.1.trans (hb6.mono HB4.1.size)).setCell (p:=⟨w.heap.size+1,0,none⟩) (show w.heap.size≤w.heap.size+1 by omega) (.int .i64 q.1)).setCell (p:=⟨w.heap.size+1,1,none⟩) (show w.heap.size≤w.heap.size+1 by omega) (.int .i64 q.2)
    have hZ7:=((HZ4.1.below hb6 HZ4.1.lt).far (p:=⟨w.heap.size+1,0,none⟩) (show w.heap.size≠w.heap.size+1 by omega) (.int .i64 q.1)).far (p:=⟨w.heap.size+1,1,none⟩) (show w.heap.size≠w.heap.size+1 by omega) (.int .i64 q.2)
    have hR:SRel sumW l w (.int .i64 ((k:Int)+1)) _:=⟨k+1,by push_cast;rfl,hlt,by rw [HTK.1,show addW s r=q from by rw [← hq];unfold addW;simp [HUS.1]];exact hS7,hZ7,hB7⟩
    obtain ⟨⟨t2,t3⟩,g2,g3⟩:=cellsW hS6
    have HR:=hide hR
    have hme:l.length-(intOf (.int .i64 ((k:Int)+1))).toNat<l.length-(intOf (.int .i64 (k:Int))).toNat:=by show l.length-((k:Int)+1).toNat<l.length-(k:Int).toNat;omega
    clear hS6 hS7 hB7 hZ7 hR hb6 t0 t1 u0 u1 g0 g1 hq
    go_wp2_with fail
    first|exact ⟨HR.1,hme⟩|(go_roundw;all_goals first|exact HR.1|exact hme|omega)
   | false=>
    obtain ⟨⟨r0,r1⟩,-,-⟩:=cellsW hR3
    have HS3:=hide hS3
    have HB3:=hide hB3
    have HZ3:=hide hZ3
    have HR3:=hide hR3
    clear hS3 hB3 hZ3 hR3
    go_wp2_with fail
    refine (unbound_any r _).mono ?_
    rintro e w5 ⟨rfl,hb5⟩
    have hS3:=HS3.1.below hb5 HS3.1.lt
    have hB3:=HB3.1.trans (hb5.mono HB3.1.size)
    have hZ3:=HZ3.1.below hb5 HZ3.1.lt
    have hR5:=HR3.1.below hb5 HR3.1.lt
    obtain ⟨⟨r2,r3⟩,-,-⟩:=cellsW hR5
    clear hb5 HS3 HB3 HZ3 HR3 r0 r1 hR5
    obtain ⟨ur,hur⟩:∃ u,unb r=u:=⟨_,rfl⟩
    rw [hur]
    have HUR:=hide hur
    clear hur
    cases ur with
    | true=>
      have hS4:Blk (w5.setCell ⟨w.heap.size+1,1,none⟩ (.int .i64 (-1))) (w.heap.size+1) 35 #[.int .i64 (s.1+r.1),.int .i64 (-1)]:=hS3.set_ 1 _
      have hB4:=hB3.setCell (p:=⟨w.heap.size+1,1,none⟩) (show w.heap.size≤w.heap.size+1 by omega) (.int .i64 (-1))
      have hZ4:=hZ3.far (p:=⟨w.heap.size+1,1,none⟩) (show w.heap.size≠w.heap.size+1 by omega) (.int .i64 (-1))
      obtain ⟨⟨t0,t1⟩,g0,g1⟩:=cellsW hS3
      obtain ⟨⟨u0,u1⟩,-,-⟩:=cellsW hS4
      have HS4:=hide hS4
      have HB4:=hide hB4
      have HZ4:=hide hZ4
      clear hS3 hB3 hZ3 hS4 hB4 hZ4
      go_wp2_with fail
      refine (capped_any (s.1+r.1,-1) _).mono ?_
      rintro e w6 ⟨rfl,hb6⟩
      have hS6:=HS4.1.below hb6 HS4.1.lt
      obtain ⟨q,hq⟩:∃ q,capW (s.1+r.1,-1)=q:=⟨_,rfl⟩
      rw [hq]
      have hS7:=(hS6.set_ 0 (.int .i64 q.1)).set_ 1 (.int .i64 q.2)
      have hB7:=((HB4.1.trans (hb6.mono HB4.1.size)).setCell (p:=⟨w.heap.size+1,0,none⟩) (show w.heap.size≤w.heap.size+1 by omega) (.int .i64 q.1)).setCell (p:=⟨w.heap.size+1,1,none⟩) (show w.heap.size≤w.heap.size+1 by omega) (.int .i64 q.2)
      have hZ7:=((HZ4.1.below hb6 HZ4.1.lt).far (p:=⟨w.heap.size+1,0,none⟩) (show w.heap.size≠w.heap.size+1 by omega) (.int .i64 q.1)).far (p:=⟨w.heap.size+1,1,none⟩) (show w.heap.size≠w.heap.size+1 by omega) (.int .i64 q.2)
      have hR:SRel sumW l w (.int .i64 ((k:Int)+1)) _:=⟨k+1,by push_cast;rfl,hlt,by rw [HTK.1,show addW s r=q from by rw [← hq];unfold addW;simp [HUR.1]];exact hS7,hZ7,hB7⟩
      obtain ⟨⟨t2,t3⟩,g2,g3⟩:=cellsW hS6
      have HR:=hide hR
      have hme:l.length-(intOf (.int .i64 ((k:Int)+1))).toNat<l.length-(intOf (.int .i64 (k:Int))).toNat:=by show l.length-((k:Int)+1).toNat<l.length-(k:Int).toNat;omega
      clear hS6 hS7 hB7 hZ7 hR hb6 t0 t1 u0 u1 g0 g1 hq
      go_wp2_with fail
      first|exact ⟨HR.1,hme⟩|(go_roundw;all_goals first|exact HR.1|exact hme|omega)
    | false=>
      have hS4:Blk (w5.setCell ⟨w.heap.size+1,1,none⟩ (.int .i64 (s.2+r.2))) (w.heap.size+1) 35 #[.int .i64 (s.1+r.1),.int .i64 (s.2+r.2)]:=hS3.set_ 1 _
      have hB4:=hB3.setCell (p:=⟨w.heap.size+1,1,none⟩) (show w.heap.size≤w.heap.size+1 by omega) (.int .i64 (s.2+r.2))
      have hZ4:=hZ3.far (p:=⟨w.heap.size+1,1,none⟩) (show w.heap.size≠w.heap.size+1 by omega) (.int .i64 (s.2+r.2))
      obtain ⟨⟨t0,t1⟩,g0,g1⟩:=cellsW hS3
      obtain ⟨⟨u0,u1⟩,-,-⟩:=cellsW hS4
      have HS4:=hide hS4
      have HB4:=hide hB4
      have HZ4:=hide hZ4
      clear hS3 hB3 hZ3 hS4 hB4 hZ4
      go_wp2_with fail
      refine (capped_any (s.1+r.1,s.2+r.2) _).mono ?_
      rintro e w6 ⟨rfl,hb6⟩
      have hS6:=HS4.1.below hb6 HS4.1.lt
      obtain ⟨q,hq⟩:∃ q,capW (s.1+r.1,s.2+r.2)=q:=⟨_,rfl⟩
      rw [hq]
      have hS7:=(hS6.set_ 0 (.int .i64 q.1)).set_ 1 (.int .i64 q.2)
      have hB7:=((HB4.1.trans (hb6.mono HB4.1.size)).setCell (p:=⟨w.heap.size+1,0,none⟩) (show w.heap.size≤w.heap.size+1 by omega) (.int .i64 q.1)).setCell (p:=⟨w.heap.size+1,1,none⟩) (show w.heap.size≤w.heap.size+1 by omega) (.int .i64 q.2)
      have hZ7:=((HZ4.1.below hb6 HZ4.1.lt).far (p:=⟨w.heap.size+1,0,none⟩) (show w.heap.size≠w.heap.size+1 by omega) (.int .i64 q.1)).far (p:=⟨w.heap.size+1,1,none⟩) (show w.heap.size≠w.heap.size+1 by omega) (.int .i64 q.2)
      have hR:SRel sumW l w (.int .i64 ((k:Int)+1)) _:=⟨k+1,by push_cast;rfl,hlt,by rw [HTK.1,show addW s r=q from by rw [← hq];unfold addW;simp [HUS.1,HUR.1]];exact hS7,hZ7,hB7⟩
      obtain ⟨⟨t2,t3⟩,g2,g3⟩:=cellsW hS6
      have HR:=hide hR
      have hme:l.length-(intOf (.int .i64 ((k:Int)+1))).toNat<l.length-(intOf (.int .i64 (k:Int))).toNat:=by show l.length-((k:Int)+1).toNat<l.length-(k:Int).toNat;omega
      clear hS6 hS7 hB7 hZ7 hR hb6 t0 t1 u0 u1 g0 g1 hq
      go_wp2_with fail
      first|exact ⟨HR.1,hme⟩|(go_roundw;all_goals first|exact HR.1|exact hme|omega)
  ·have hkn:k=l.length:=by omega
   have hd:decide ((k:Int)<(l.length:Int))=false:=decide_eq_false (by omega)
   have hnot:¬ ((k:Int)<(l.length:Int)):=by omega
   rw [hkn,List.take_length] at hS
   obtain ⟨q,hq⟩:∃ q,sumW l=q:=⟨_,rfl⟩
   rw [hq] at hS
   have HQ:=hide hq
   obtain ⟨⟨a0,a1⟩,-,-⟩:=cellsW hS
   obtain ⟨⟨z0,z1⟩,g0,g1⟩:=cellsW hZ
   have HF:=hide ((hZ.set_ 0 (.int .i64 q.1)).set_ 1 (.int .i64 q.2))
   have HBF:=hide ((hB.setCell (p:=⟨w.heap.size,0,none⟩) (Nat.le_refl _) (.int .i64 q.1)).setCell (p:=⟨w.heap.size,1,none⟩) (Nat.le_refl _) (.int .i64 q.2))
   clear hS hZ hB hq
   go_wp2_with fail
   (try simp only [Exit.inBlock,Exit.then])
   exact bodyPost_ret (resW rfl w.heap.size q rfl HF.1) rfl ⟨by rw [HQ.1],HBF.1⟩
end
section
open Go.RowKit Mem Rs As
abbrev ndk (nd:Nd) (vs vk:Value):Array Value:=#[.int .i64 nd.kind,.int .i64 nd.from_,.int .i64 nd.to_,.int .i64 nd.num,.int .i64 nd.mn,.int .i64 nd.mx,.int .i64 nd.mode,str nd.name,vs,vk]
theorem info_w:(Tryz.prog.info? 35).map (fun i=>(i.zero,i.size,i.bytes))=some (some (.agg #[.int .i64 0,.int .i64 0]),2,16):=by kernel_rfl
attribute [local go_sem] build_w run_not_true run_not_false
def CutW (w:World) (l:List Wd) (v:Value) (w':World):Prop:=w'.ownsRow w.heap.size 35 2 v l.length (flat l)∧Below w.heap.size w w'
def KRel (ks:List Int) (l:List Wd) (w:World) (v i:Value) (wr:World):Prop:=∃ k:Nat,i=.int .i64 k∧k≤ks.length∧CutW w (kidsW (ks.take k) l) v wr
theorem kids_take {ks:List Int} {l:List Wd} {k:Nat} {y:Int} (hlt:k<ks.length) (hy:ks[k]?=some y):kidsW (ks.take (k+1)) l=kidsW (ks.take k) l++(match (if 0≤y then l[y.toNat]? else none) with | some r=>[r] | none=>[]):=by
 have e:ks[k]=y:=by simpa [List.getElem?_eq_getElem hlt] using hy
 rw [List.take_succ_eq_append_getElem hlt,e]
 unfold kidsW
 rw [List.filterMap_append]
 congr 1
 simp only [List.filterMap_cons,List.filterMap_nil]
 cases (if 0≤y then l[y.toNat]? else none)<;>rfl
theorem kids_len (ks:List Int) (l:List Wd):(kidsW ks l).length≤ks.length:=List.length_filterMap_le _ _
theorem kids_flat (nd:Nd) (vs:Value) (b off ck:Nat) (l:List Wd) (A:Option Addr) (cap:Nat) (w:World) (hkl:nd.kids.length≤100000) (hck:nd.kids.length≤ck) (hb:b<w.heap.size)
  (hc:∀ k y,nd.kids[k]?=some y→w.cell? ⟨b,off+k,none⟩=some (.int .i64 y)) (hll:l.length≤100000) (hcap:l.length≤cap) (h:Lst w w.heap.size A l) :
  Calls Tryz.prog 18 #[.agg (ndk nd vs (.slice (some ⟨b,off,none⟩) nd.kids.length ck)),.slice A l.length cap] w fun e w'=>∃ v,e=.returned v∧CutW w (kidsW nd.kids l) v w':=by
 have HC:=hide hc
 have HLB:=hide hb
 have HL:=hide h
 have bn:=Blk.new w 49 (ndk nd vs (.slice (some ⟨b,off,none⟩) nd.kids.length ck))
 have c9:(_:Option Value)=some (.slice (some ⟨b,off,none⟩) nd.kids.length ck):=bn.cell 9
 clear hc hb h bn
 go_enter Tryz.func18,Tryz.ntmps18
 go_wp2_with fail
 clear c9
 go_loopw [5,11] (fun v i wr=>KRel nd.kids l w v i wr) (fun _ i _=>nd.kids.length-(intOf i).toNat)
 case atStart=>exact ⟨0,rfl,Nat.zero_le _,World.ownsRow_nil _ _ _ _,below_al (Below.refl _ _) (Nat.le_refl _) _⟩
 case round=>
  obtain ⟨k,rfl,hk,hrow⟩:=hrel
  by_cases hlt:k<nd.kids.length
  ·obtain ⟨y,hy⟩:∃ y,nd.kids[k]?=some y:=⟨_,List.getElem?_eq_getElem hlt⟩
   have c1:wr.cell? ⟨b,off+k,none⟩=some (.int .i64 y):=(hrow.2.cell (p:=⟨b,off+k,none⟩) HLB.1).trans (HC.1 k y hy)
   have hlt':(k:Int)<(nd.kids.length:Int):=by omega
   have HROW:=hide hrow
   have HW:=hide (kids_take (l:=l) hlt hy)
   clear hrow hy
   by_cases hy0:0≤y
   ·by_cases hyl:y<(l.length:Int)
    ·obtain ⟨m,rfl⟩:∃ m:Nat,y=(m:Int):=⟨y.toNat,by omega⟩
     have hml:m<l.length:=by omega
     obtain ⟨r,hr⟩:∃ r,l[m]?=some r:=⟨_,List.getElem?_eq_getElem hml⟩
     have HQ:=hide (show kidsW (nd.kids.take (k+1)) l=kidsW (nd.kids.take k) l++[r] from by rw [HW.1];simp [hr])
     obtain ⟨b2,off2,rfl,hb2,hc2⟩:=HL.1 (by omega)
     have d0:wr.cell? ⟨b2,off2+m*2,none⟩=some (.int .i64 r.1):=(HROW.1.2.cell (p:=⟨b2,off2+m*2,none⟩) hb2).trans (hc2 m r hr).1
     have d1:wr.cell? ⟨b2,off2+m*2+1,none⟩=some (.int .i64 r.2):=(HROW.1.2.cell (p:=⟨b2,off2+m*2+1,none⟩) hb2).trans (hc2 m r hr).2
     have t0:decide ((0:Int)≤(m:Int))=true:=decide_eq_true (by omega)
     have t1:decide ((m:Int)<(l.length:Int))=true:=decide_eq_true hyl
     have hlen3:(kidsW (nd.kids.take k) l).length+1≤100001:=by have:=kids_len (nd.kids.take k) l;have h2:(nd.kids.take k).length≤k:=List.length_take_le _ _;omega
     have hmx:(kidsW (nd.kids.take k) l).length+1≤maxLen:=by unfold maxLen;omega
     have hone:∀ u∈(#[.int .i64 r.1,.int .i64 r.2]:Array Value).toList,u.oneCell'=true:=by simp [Value.oneCell']
     have hw3:=HROW.1.2.size
     obtain ⟨i0,hi,hz0,hz1,hz2⟩:=info_parts info_w
     clear hr hc2 hb2
     go_wp2_with (at_builtin;refine wpList_append_any _ rfl (.tmp 23) (.tmp 28) 32 rfl w.heap.size 35 i0 (.agg #[.int .i64 0,.int .i64 0]) 2 16 Tryz.underlying32 hi hz0 hz1 hz2 rfl (by decide) _ (kidsW (nd.kids.take k) l).length _ rfl (HROW.1.1.alloc _) _ _ 1 1 _ rfl (reads_new wr #[.int .i64 r.1,.int .i64 r.2] 35 1 2 rfl) hone hmx (by omega) (by rw [World.size_alloc];omega) ?_;intro v5 w5 ho5 hg5 hn5;have HO5:=hide ho5;have HG5:=hide hg5;clear ho5 hg5 hn5)
     refine ⟨⟨_,_,_,?rel,rfl,rfl,rfl⟩,?measure⟩
     case rel=>
      refine ⟨k+1,by go_num,by omega,?_⟩
      rw [HQ.1]
      exact ⟨by rw [flat_append,List.length_append];exact HO5.1,below_app HROW.1.2 HROW.1.1 HG5.1⟩
     case measure=>simp [intOf];omega
    ·have t0:decide ((0:Int)≤y)=true:=decide_eq_true hy0
     have t1:decide (y<(l.length:Int))=false:=decide_eq_false hyl
     have HQ:=hide (show kidsW (nd.kids.take (k+1)) l=kidsW (nd.kids.take k) l from by rw [HW.1];simp only [hy0,if_true];rw [List.getElem?_eq_none (by omega)];simp)
     go_wp2_with fail
     refine ⟨⟨_,_,_,?rel,rfl,rfl,rfl⟩,?measure⟩
     case rel=>exact ⟨k+1,by go_num,by omega,by rw [HQ.1];exact HROW.1⟩
     case measure=>simp [intOf];omega
   ·have t0:decide ((0:Int)≤y)=false:=decide_eq_false hy0
    have HQ:=hide (show kidsW (nd.kids.take (k+1)) l=kidsW (nd.kids.take k) l from by rw [HW.1];simp only [hy0,if_false];simp)
    go_wp2_with fail
    refine ⟨⟨_,_,_,?rel,rfl,rfl,rfl⟩,?measure⟩
    case rel=>exact ⟨k+1,by go_num,by omega,by rw [HQ.1];exact HROW.1⟩
    case measure=>simp [intOf];omega
  ·obtain rfl:k=nd.kids.length:=by omega
   rw [List.take_length] at hrow
   have HROW:=hide hrow
   clear hrow
   go_wp2
   go_ret
   exact ⟨_,rfl,HROW.1⟩
theorem kids_none (nd:Nd) (vs:Value) (K:Option Addr) (ck:Nat) (A:Option Addr) (n cap:Nat) (w:World) :
  Calls Tryz.prog 18 #[.agg (ndk nd vs (.slice K 0 ck)),.slice A n cap] w fun e w'=>∃ v,e=.returned v∧CutW w [] v w':=by
 have bn:=Blk.new w 49 (ndk nd vs (.slice K 0 ck))
 have c9:(_:Option Value)=some (.slice K 0 ck):=bn.cell 9
 clear bn
 go_enter Tryz.func18,Tryz.ntmps18
 go_wp2_with fail
 clear c9
 go_loopw [5,11] (fun v i wr=>v=.slice none 0 0∧i=.int .i64 0∧Below w.heap.size w wr) (fun _ _ _=>0)
 case atStart=>exact ⟨rfl,rfl,below_al (Below.refl _ _) (Nat.le_refl _) _⟩
 case round=>
  obtain ⟨rfl,rfl,hB⟩:=hrel
  have HB:=hide hB
  clear hB
  go_wp2
  go_ret
  exact ⟨_,rfl,World.ownsRow_nil _ _ _ _,HB.1⟩
theorem kidsAt {w:World} {B:Nat} {A:Option Addr} {ks:List Int} (h:Reads w B 1 A ks.length (ks.map Mem.i64)) (hn:0<ks.length):∃ b off,A=some ⟨b,off,none⟩∧b<B∧∀ (k:Nat) (y:Int),ks[k]?=some y→w.cell? ⟨b,off+k,none⟩=some (.int .i64 y):=by
 obtain ⟨ad,rfl,hb,hc⟩:=h.2 hn
 have h0:=hc 0 _ (by rw [List.getElem?_map,List.getElem?_eq_getElem hn];rfl)
 obtain ⟨b,off,sp⟩:=ad
 have es:sp=none:=cell_spot (by simpa [Addr.add] using h0)
 subst es
 refine ⟨b,off,rfl,hb,fun k y hk=>?_⟩
 have:=hc k (.int .i64 y) (by rw [List.getElem?_map,hk];rfl)
 rwa [add_flat] at this
theorem kids_any (nd:Nd) (vs:Value) (K:Option Addr) (ck:Nat) (l:List Wd) (A:Option Addr) (cap:Nat) (w:World) (hkl:nd.kids.length≤100000) (hck:nd.kids.length≤ck)
  (hk:Reads w w.heap.size 1 K nd.kids.length (nd.kids.map Mem.i64)) (hll:l.length≤100000) (hcap:l.length≤cap) (h:Lst w w.heap.size A l) :
  Calls Tryz.prog 18 #[.agg (ndk nd vs (.slice K nd.kids.length ck)),.slice A l.length cap] w fun e w'=>∃ v,e=.returned v∧CutW w (kidsW nd.kids l) v w':=by
 by_cases hn:nd.kids.length=0
 ·rw [hn,List.eq_nil_of_length_eq_zero hn]
  exact kids_none nd vs K ck A l.length cap w
 ·obtain ⟨b,off,rfl,hb,hc⟩:=kidsAt hk (by omega)
  exact kids_flat nd vs b off ck l A cap w hkl hck hb hc hll hcap h
end
section
open Go.RowKit Mem Rs As
abbrev ndv (nd:Nd) (vs vk:Value):Array Value:=#[.int .i64 nd.kind,.int .i64 nd.from_,.int .i64 nd.to_,.int .i64 nd.num,.int .i64 nd.mn,.int .i64 nd.mx,.int .i64 nd.mode,str nd.name,vs,vk]
theorem build_w1 (a:Int) (w:World):Sem.run Tryz.prog (Instr.build 35 #[(0,.int .i64 a)]) w=.ok (.agg #[.int .i64 a,.int .i64 0]) w:=run_build w 35 _ _ (by kernel_rfl)
attribute [local go_sem] build_w build_w1 run_not_true run_not_false
theorem behind_any (nd:Nd) (vs vk:Value) (w:World):Calls Tryz.prog 29 #[.agg (ndv nd vs vk)] w fun e w'=>e=.returned (.bool (behB nd))∧Below w.heap.size w w':=by
 have HB:=hide (below_al (Below.refl w.heap.size w) (Nat.le_refl _) (.cells (ndv nd vs vk) 49))
 unfold behB
 have HC:=hide (Blk.new w 49 (ndv nd vs vk))
 have e0:(nd.kind==10)=decide (nd.kind=10):=by rw [Bool.eq_iff_iff];simp
 have e3:(nd.num==3)=decide (nd.num=3):=by rw [Bool.eq_iff_iff];simp
 have e4:(nd.num==4)=decide (nd.num=4):=by rw [Bool.eq_iff_iff];simp
 rw [e0,e3,e4]
 clear e0 e3 e4
 have c0:=HC.1.cell 0
 have c3:=HC.1.cell 3
 by_cases h0:nd.kind=10
 ·rw [decide_eq_true h0]
  by_cases h3:nd.num=3
  ·rw [decide_eq_true h3]
   go_enter Tryz.func29,Tryz.ntmps29
   go_wp2_with fail
   go_ret
   exact ⟨by simp [h0,h3],HB.1⟩
  ·rw [decide_eq_false h3]
   go_enter Tryz.func29,Tryz.ntmps29
   go_wp2_with fail
   go_ret
   exact ⟨by simp [h0,(beq_eq_false_iff_ne.2 h3:(nd.num==3)=false)];(try (rw [Bool.eq_iff_iff];simp)),HB.1⟩
 ·rw [decide_eq_false h0]
  go_enter Tryz.func29,Tryz.ntmps29
  go_wp2_with fail
  go_ret
  exact ⟨by simp [h0],HB.1⟩
theorem times_any (nd:Nd) (vs vk:Value) (kl kh:Int) (w:World) (hk:OkW (kl,kh)) (h0:0≤nd.mn) (h1:nd.mn≤1000) (h2:-1≤nd.mx) (h3:nd.mx≤1000) :
  Calls Tryz.prog 28 #[.agg (ndv nd vs vk),.agg #[.int .i64 kl,.int .i64 kh]] w fun e w'=>e=.returned (.agg #[.int .i64 (timesW nd.mn nd.mx (kl,kh)).1,.int .i64 (timesW nd.mn nd.mx (kl,kh)).2])∧Below w.heap.size w w':=by
 have m1:0≤nd.mn*kl:=Int.mul_nonneg h0 hk.lo
 have m2:nd.mn*kl≤1000*1048576:=Int.mul_le_mul h1 hk.top hk.lo (by omega)
 have n3:nd.mx*kh≤1048576000∧-1048576000≤nd.mx*kh:=by
  have a:=hk.hi
  have b:=hk.cap
  simp only [] at a b
  have c1:nd.mx∈[0]∨0<nd.mx∨nd.mx=-1:=by simp;omega
  rcases c1 with c|c|c
  ·simp at c;rw [c];simp
  ·have d1:nd.mx*kh≤nd.mx*1048576:=Int.mul_le_mul_of_nonneg_left b (by omega)
   have d2:nd.mx*(-1)≤nd.mx*kh:=Int.mul_le_mul_of_nonneg_left a (by omega)
   omega
  ·rw [c];omega
 obtain ⟨n1,n2⟩:=n3
 have m2:nd.mn*kl≤1048576000:=m2
 clear h0 h1 h2 h3 hk
 have bn:=((Blk.new w 49 (ndv nd vs vk)).alloc (.cells #[.int .i64 kl,.int .i64 kh] 35)).alloc (.cells fz 35)
 have bk:=(blk2 (W:=w) (o:=.cells (ndv nd vs vk) 49) (t:=35) (cs:=#[.int .i64 kl,.int .i64 kh])).alloc (.cells fz 35)
 have bn4:=bn.alloc (.cells #[.int .i64 (nd.mn*kl),.int .i64 0] 35)
 have bk4:=bk.alloc (.cells #[.int .i64 (nd.mn*kl),.int .i64 0] 35)
 have c4:(_:Option Value)=some (.int .i64 nd.mn):=bn.cell 4
 have d0:(_:Option Value)=some (.int .i64 kl):=bk.cell 0
 have c5:(_:Option Value)=some (.int .i64 nd.mx):=bn4.cell 5
 have d1:(_:Option Value)=some (.int .i64 kh):=bk4.cell 1
 have d2:(_:Option Value)=some (.int .i64 kl):=bk4.cell 0
 have bw4:Blk ((((w.alloc (.cells (ndv nd vs vk) 49)).alloc (.cells #[.int .i64 kl,.int .i64 kh] 35)).alloc (.cells fz 35)).alloc (.cells #[.int .i64 (nd.mn*kl),.int .i64 0] 35)) (w.heap.size+3) 35 #[.int .i64 (nd.mn*kl),.int .i64 0]:=blkAt (by simp)
 have bb4:Below w.heap.size w ((((w.alloc (.cells (ndv nd vs vk) 49)).alloc (.cells #[.int .i64 kl,.int .i64 kh] 35)).alloc (.cells fz 35)).alloc (.cells #[.int .i64 (nd.mn*kl),.int .i64 0] 35)):=below_al (below_al (below_al (below_al (Below.refl _ _) (Nat.le_refl _) _) (by simp) _) (by simp;omega) _) (by simp;omega) _
 have bz4:Blk ((((w.alloc (.cells (ndv nd vs vk) 49)).alloc (.cells #[.int .i64 kl,.int .i64 kh] 35)).alloc (.cells fz 35)).alloc (.cells #[.int .i64 (nd.mn*kl),.int .i64 0] 35)) (w.heap.size+2) 35 fz:=(blkAt (by simp):Blk (((w.alloc (.cells (ndv nd vs vk) 49)).alloc (.cells #[.int .i64 kl,.int .i64 kh] 35)).alloc (.cells fz 35)) (w.heap.size+2) 35 fz).alloc _
 have HN:=hide bn4
 have HZ:=hide bz4
 have HK:=hide bk4
 have HW:=hide bw4
 have HB:=hide bb4
 have hsz:w.heap.size+3<((((w.alloc (.cells (ndv nd vs vk) 49)).alloc (.cells #[.int .i64 kl,.int .i64 kh] 35)).alloc (.cells fz 35)).alloc (.cells #[.int .i64 (nd.mn*kl),.int .i64 0] 35)).heap.size:=by simp
 have HSZ:=hide hsz
 clear bn bk bn4 bk4 bw4 bb4 bz4 hsz
 unfold timesW
 by_cases hz:kh=0
 ·have hz1:(kh==0)=true:=beq_iff_eq.2 hz
  rw [if_pos hz]
  obtain ⟨q,hq⟩:∃ q,capW (nd.mn*kl,0)=q:=⟨_,rfl⟩
  have CQ:=capped_any (nd.mn*kl,0)
  simp only [hq] at CQ ⊢
  have CQ:=hide CQ
  clear hz hq
  go_enter Tryz.func28,Tryz.ntmps28
  have hz3:=HZ.1
  have HZ3:=hide hz3
  clear hz3
  go_wp2_with fail
  refine (CQ.1 _).mono ?_
  rintro e w3 ⟨rfl,hb3⟩
  have hb4:=HB.1.trans (hb3.mono HB.1.size)
  have hz4:=HZ3.1.below hb3 HZ3.1.lt
  clear hb3
  obtain ⟨⟨z0,z1⟩,zg0,zg1⟩:=cellsW hz4
  have HF:=hide ((hz4.set_ 0 (.int .i64 q.1)).set_ 1 (.int .i64 q.2))
  have HBF:=hide ((hb4.setCell (p:=⟨w.heap.size+2,0,none⟩) (show w.heap.size≤w.heap.size+2 by omega) (.int .i64 q.1)).setCell (p:=⟨w.heap.size+2,1,none⟩) (show w.heap.size≤w.heap.size+2 by omega) (.int .i64 q.2))
  clear hb4 hz4
  go_wp2_with fail
  (try simp only [Exit.inBlock,Exit.then])
  exact bodyPost_ret (resW rfl (w.heap.size+2) q rfl HF.1) rfl ⟨rfl,HBF.1⟩
 ·have hz1:(kh==0)=false:=beq_eq_false_iff_ne.2 hz
  rw [if_neg hz]
  clear hz
  obtain ⟨v,hv⟩:∃ v,(if (unb (kl,kh)||nd.mx==-1)=true then -1 else nd.mx*kh)=v:=⟨_,rfl⟩
  obtain ⟨q,hq⟩:∃ q,capW (nd.mn*kl,v)=q:=⟨_,rfl⟩
  have CQ:=capped_any (nd.mn*kl,v)
  simp only [hv,hq] at CQ ⊢
  have CQ:=hide CQ
  have HV:=hide hv
  clear hv hq
  go_enter Tryz.func28,Tryz.ntmps28
  go_wp2_with fail
  refine (unbound_any (kl,kh) _).mono ?_
  rintro e w2 ⟨rfl,hb2⟩
  have HN2:=hide (HN.1.below hb2 HN.1.lt)
  have HK2:=hide (HK.1.below hb2 HK.1.lt)
  have HW2:=hide (HW.1.below hb2 HW.1.lt)
  have HB2:=hide (HB.1.trans (hb2.mono HB.1.size))
  have HZ2:=hide (HZ.1.below hb2 HZ.1.lt)
  clear hb2 c4 d0 c5 d1 d2
  have hv:=HV.1
  clear HV
  obtain ⟨uk,huk⟩:∃ u,unb (kl,kh)=u:=⟨_,rfl⟩
  rw [huk] at hv ⊢
  clear huk
  have c5:(_:Option Value)=some (.int .i64 nd.mx):=HN2.1.cell 5
  have d1:(_:Option Value)=some (.int .i64 kh):=HK2.1.cell 1
  obtain ⟨⟨e0,e1⟩,g0,g1⟩:=cellsW HW2.1
  cases uk with
  | true=>
   rw [if_pos (by simp)] at hv
   subst hv
   obtain ⟨⟨f0,f1⟩,-,-⟩:=cellsW (HW2.1.set_ 1 (.int .i64 (-1)))
   have hz3:=HZ2.1.far (p:=⟨w.heap.size+3,1,none⟩) (show w.heap.size+2≠w.heap.size+3 by omega) (.int .i64 (-1))
   have HZ3:=hide hz3
   clear hz3
   go_wp2_with fail
   refine (CQ.1 _).mono ?_
   rintro e w3 ⟨rfl,hb3⟩
   have hb4:=(HB2.1.setCell (p:=⟨w.heap.size+3,1,none⟩) (show w.heap.size≤w.heap.size+3 by omega) (.int .i64 (-1))).trans (hb3.mono (by have:=HB2.1.size;simpa using this))
   have hz4:=HZ3.1.below hb3 HZ3.1.lt
   clear hb3
   obtain ⟨⟨z0,z1⟩,zg0,zg1⟩:=cellsW hz4
   have HF:=hide ((hz4.set_ 0 (.int .i64 q.1)).set_ 1 (.int .i64 q.2))
   have HBF:=hide ((hb4.setCell (p:=⟨w.heap.size+2,0,none⟩) (show w.heap.size≤w.heap.size+2 by omega) (.int .i64 q.1)).setCell (p:=⟨w.heap.size+2,1,none⟩) (show w.heap.size≤w.heap.size+2 by omega) (.int .i64 q.2))
   clear hb4 hz4
   go_wp2_with fail
   (try simp only [Exit.inBlock,Exit.then])
   exact bodyPost_ret (resW rfl (w.heap.size+2) q rfl HF.1) rfl ⟨rfl,HBF.1⟩
  | false=>
   by_cases hm:nd.mx=-1
   ·have hm1:(nd.mx==-1)=true:=beq_iff_eq.2 hm
    rw [if_pos (by simp [hm])] at hv
    subst hv
    clear hm
    obtain ⟨⟨f0,f1⟩,-,-⟩:=cellsW (HW2.1.set_ 1 (.int .i64 (-1)))
    have hz3:=HZ2.1.far (p:=⟨w.heap.size+3,1,none⟩) (show w.heap.size+2≠w.heap.size+3 by omega) (.int .i64 (-1))
    have HZ3:=hide hz3
    clear hz3
    go_wp2_with fail
    refine (CQ.1 _).mono ?_
    rintro e w3 ⟨rfl,hb3⟩
    have hb4:=(HB2.1.setCell (p:=⟨w.heap.size+3,1,none⟩) (show w.heap.size≤w.heap.size+3 by omega) (.int .i64 (-1))).trans (hb3.mono (by have:=HB2.1.size;simpa using this))
    have hz4:=HZ3.1.below hb3 HZ3.1.lt
    clear hb3
    obtain ⟨⟨z0,z1⟩,zg0,zg1⟩:=cellsW hz4
    have HF:=hide ((hz4.set_ 0 (.int .i64 q.1)).set_ 1 (.int .i64 q.2))
    have HBF:=hide ((hb4.setCell (p:=⟨w.heap.size+2,0,none⟩) (show w.heap.size≤w.heap.size+2 by omega) (.int .i64 q.1)).setCell (p:=⟨w.heap.size+2,1,none⟩) (show w.heap.size≤w.heap.size+2 by omega) (.int .i64 q.2))
    clear hb4 hz4
    go_wp2_with fail
    (try simp only [Exit.inBlock,Exit.then])
    exact bodyPost_ret (resW rfl (w.heap.size+2) q rfl HF.1) rfl ⟨rfl,HBF.1⟩
   ·have hm1:(nd.mx==-1)=false:=beq_eq_false_iff_ne.2 hm
    rw [if_neg (by simp [hm])] at hv
    subst hv
    clear hm
    obtain ⟨⟨f0,f1⟩,-,-⟩:=cellsW (HW2.1.set_ 1 (.int .i64 (nd.mx*kh)))
    have hz3:=HZ2.1.far (p:=⟨w.heap.size+3,1,none⟩) (show w.heap.size+2≠w.heap.size+3 by omega) (.int .i64 (nd.mx*kh))
    have HZ3:=hide hz3
    clear hz3
    go_wp2_with fail
    refine (CQ.1 _).mono ?_
    rintro e w3 ⟨rfl,hb3⟩
    have hb4:=(HB2.1.setCell (p:=⟨w.heap.size+3,1,none⟩) (show w.heap.size≤w.heap.size+3 by omega) (.int .i64 (nd.mx*kh))).trans (hb3.mono (by have:=HB2.1.size;simpa using this))
    have hz4:=HZ3.1.below hb3 HZ3.1.lt
    clear hb3
    obtain ⟨⟨z0,z1⟩,zg0,zg1⟩:=cellsW hz4
    have HF:=hide ((hz4.set_ 0 (.int .i64 q.1)).set_ 1 (.int .i64 q.2))
    have HBF:=hide ((hb4.setCell (p:=⟨w.heap.size+2,0,none⟩) (show w.heap.size≤w.heap.size+2 by omega) (.int .i64 q.1)).setCell (p:=⟨w.heap.size+2,1,none⟩) (show w.heap.size≤w.heap.size+2 by omega) (.int .i64 q.2))
    clear hb4 hz4
    go_wp2_with fail
    (try simp only [Exit.inBlock,Exit.then])
    exact bodyPost_ret (resW rfl (w.heap.size+2) q rfl HF.1) rfl ⟨rfl,HBF.1⟩
theorem wrong_any (nd:Nd) (vs vk:Value) (g kl kh:Int) (w:World):Calls Tryz.prog 21 #[.agg (ndv nd vs vk),.int .i64 g,.agg #[.int .i64 kl,.int .i64 kh]] w fun e w'=>e=.returned (.int .i64 (wrongB nd g (kl,kh)))∧Below w.heap.size w w':=by
 have bn:=(Blk.new w 49 (ndv nd vs vk)).alloc (.cells #[.int .i64 kl,.int .i64 kh] 35)
 have bk:=(blk2 (W:=w) (o:=.cells (ndv nd vs vk) 49) (t:=35) (cs:=#[.int .i64 kl,.int .i64 kh]))
 have bb:Below w.heap.size w ((w.alloc (.cells (ndv nd vs vk) 49)).alloc (.cells #[.int .i64 kl,.int .i64 kh] 35)):=below_al (below_al (Below.refl _ _) (Nat.le_refl _) _) (by simp) _
 have c0:(_:Option Value)=some (.int .i64 nd.kind):=bn.cell 0
 have c3:(_:Option Value)=some (.int .i64 nd.num):=bn.cell 3
 have HN:=hide bn
 have HK:=hide bk
 have HB:=hide bb
 have CB:=hide (fun wx=>behind_any nd vs vk wx)
 have CU:=hide (fun wx=>unbound_any (kl,kh) wx)
 obtain ⟨R,hR⟩:∃ r,wrongB nd g (kl,kh)=r:=⟨_,rfl⟩
 rw [hR]
 have HR:=hide hR
 clear bn bk bb hR
 by_cases h4:nd.kind=4
 ·have e4:(nd.kind==4)=true:=beq_iff_eq.2 h4
  by_cases h1:nd.num<1
  ·have e1:decide (nd.num<1)=true:=decide_eq_true h1
   have HC:=hide (show nd.kind=4∧nd.num<1 from ⟨h4,h1⟩)
   clear h4
   go_enter Tryz.func21,Tryz.ntmps21
   go_wp2_with fail
   go_ret
   have e:R=38:=by rw [← HR.1];unfold wrongB;rw [if_pos (by have:=HC.1;omega)]
   exact ⟨congrArg (fun z=>Ending.returned (Value.int .i64 z)) e.symm,HB.1⟩
  ·have e1:decide (nd.num<1)=false:=decide_eq_false h1
   by_cases h2:g<nd.num
   ·have e2:decide (g<nd.num)=true:=decide_eq_true h2
    have HC:=hide (show nd.kind=4∧g<nd.num from ⟨h4,h2⟩)
    clear h4
    go_enter Tryz.func21,Tryz.ntmps21
    go_wp2_with fail
    go_ret
    have e:R=38:=by rw [← HR.1];unfold wrongB;rw [if_pos (by have:=HC.1;omega)]
    exact ⟨congrArg (fun z=>Ending.returned (Value.int .i64 z)) e.symm,HB.1⟩
   ·have e2:decide (g<nd.num)=false:=decide_eq_false h2
    have HC:=hide (show ¬ nd.num<1∧¬ g<nd.num from ⟨h1,h2⟩)
    clear h4
    go_enter Tryz.func21,Tryz.ntmps21
    go_wp2_with fail
    refine (CB.1 _).mono ?_
    rintro e w2 ⟨rfl,hb2⟩
    have HN2:=hide (HN.1.below hb2 HN.1.lt)
    have HK2:=hide (HK.1.below hb2 HK.1.lt)
    have HB2:=hide (HB.1.trans (hb2.mono HB.1.size))
    clear hb2 c0 c3
    obtain ⟨ub,hub⟩:∃ u,behB nd=u:=⟨_,rfl⟩
    rw [hub]
    have HUB:=hide hub
    clear hub
    have d0:(_:Option Value)=some (.int .i64 kl):=HK2.1.cell 0
    have d1:(_:Option Value)=some (.int .i64 kh):=HK2.1.cell 1
    cases ub with
    | false=>
     go_wp2_with fail
     go_ret
     have e:R=0:=by rw [← HR.1];unfold wrongB;rw [if_neg (by have:=HC.1;omega),if_neg (by simp [HUB.1])]
     exact ⟨congrArg (fun z=>Ending.returned (Value.int .i64 z)) e.symm,HB2.1⟩
    | true=>
     go_wp2_with fail
     refine (CU.1 _).mono ?_
     rintro e w3 ⟨rfl,hb3⟩
     have HK3:=hide (HK2.1.below hb3 HK2.1.lt)
     have HB3:=hide (HB2.1.trans (hb3.mono HB2.1.size))
     clear hb3 d0 d1
     obtain ⟨uk,huk⟩:∃ u,unb (kl,kh)=u:=⟨_,rfl⟩
     rw [huk]
     have HUK:=hide huk
     clear huk
     have d0:(_:Option Value)=some (.int .i64 kl):=HK3.1.cell 0
     have d1:(_:Option Value)=some (.int .i64 kh):=HK3.1.cell 1
     cases uk with
     | true=>
      go_wp2_with fail
      go_ret
      have e:R=41:=by rw [← HR.1];unfold wrongB;rw [if_neg (by have:=HC.1;omega),if_pos ⟨HUB.1,.inl HUK.1⟩]
      exact ⟨congrArg (fun z=>Ending.returned (Value.int .i64 z)) e.symm,HB3.1⟩
     | false=>
      by_cases hh:255<kh
      ·have hh1:decide (255<kh)=true:=decide_eq_true hh
       have HH:=hide hh
       go_wp2_with fail
       go_ret
       have e:R=41:=by rw [← HR.1];unfold wrongB;rw [if_neg (by have:=HC.1;omega),if_pos ⟨HUB.1,.inr HH.1⟩]
       exact ⟨congrArg (fun z=>Ending.returned (Value.int .i64 z)) e.symm,HB3.1⟩
      ·have hh1:decide (255<kh)=false:=decide_eq_false hh
       have HH:=hide hh
       go_wp2_with fail
       go_ret
       have e:R=0:=by rw [← HR.1];unfold wrongB;rw [if_neg (by have:=HC.1;omega),if_neg (by simp [HUK.1];have:=HH.1;omega)]
       exact ⟨congrArg (fun z=>Ending.returned (Value.int .i64 z)) e.symm,HB3.1⟩
 ·have e4:(nd.kind==4)=false:=beq_eq_false_iff_ne.2 h4
  have HC:=hide h4
  clear h4
  go_enter Tryz.func21,Tryz.ntmps21
  go_wp2_with fail
  refine (CB.1 _).mono ?_
  rintro e w2 ⟨rfl,hb2⟩
  have HN2:=hide (HN.1.below hb2 HN.1.lt)
  have HK2:=hide (HK.1.below hb2 HK.1.lt)
  have HB2:=hide (HB.1.trans (hb2.mono HB.1.size))
  clear hb2 c0 c3
  obtain ⟨ub,hub⟩:∃ u,behB nd=u:=⟨_,rfl⟩
  rw [hub]
  have HUB:=hide hub
  clear hub
  have d0:(_:Option Value)=some (.int .i64 kl):=HK2.1.cell 0
  have d1:(_:Option Value)=some (.int .i64 kh):=HK2.1.cell 1
  cases ub with
  | false=>
   go_wp2_with fail
   go_ret
   have e:R=0:=by rw [← HR.1];unfold wrongB;rw [if_neg (by have:=HC.1;omega),if_neg (by simp [HUB.1])]
   exact ⟨congrArg (fun z=>Ending.returned (Value.int .i64 z)) e.symm,HB2.1⟩
  | true=>
   go_wp2_with fail
   refine (CU.1 _).mono ?_
   rintro e w3 ⟨rfl,hb3⟩
   have HK3:=hide (HK2.1.below hb3 HK2.1.lt)
   have HB3:=hide (HB2.1.trans (hb3.mono HB2.1.size))
   clear hb3 d0 d1
   obtain ⟨uk,huk⟩:∃ u,unb (kl,kh)=u:=⟨_,rfl⟩
   rw [huk]
   have HUK:=hide huk
   clear huk
   have d0:(_:Option Value)=some (.int .i64 kl):=HK3.1.cell 0
   have d1:(_:Option Value)=some (.int .i64 kh):=HK3.1.cell 1
   cases uk with
   | true=>
    go_wp2_with fail
    go_ret
    have e:R=41:=by rw [← HR.1];unfold wrongB;rw [if_neg (by have:=HC.1;omega),if_pos ⟨HUB.1,.inl HUK.1⟩]
    exact ⟨congrArg (fun z=>Ending.returned (Value.int .i64 z)) e.symm,HB3.1⟩
   | false=>
    by_cases hh:255<kh
    ·have hh1:decide (255<kh)=true:=decide_eq_true hh
     have HH:=hide hh
     go_wp2_with fail
     go_ret
     have e:R=41:=by rw [← HR.1];unfold wrongB;rw [if_neg (by have:=HC.1;omega),if_pos ⟨HUB.1,.inr HH.1⟩]
     exact ⟨congrArg (fun z=>Ending.returned (Value.int .i64 z)) e.symm,HB3.1⟩
    ·have hh1:decide (255<kh)=false:=decide_eq_false hh
     have HH:=hide hh
     go_wp2_with fail
     go_ret
     have e:R=0:=by rw [← HR.1];unfold wrongB;rw [if_neg (by have:=HC.1;omega),if_neg (by simp [HUK.1];have:=HH.1;omega)]
     exact ⟨congrArg (fun z=>Ending.returned (Value.int .i64 z)) e.symm,HB3.1⟩
end
section
open Go.RowKit Mem Rs
attribute [local go_sem] build_w run_not_true run_not_false
theorem build_z (w:World):Sem.run Tryz.prog (Instr.build 35 #[]) w=.ok (.agg #[.int .i64 0,.int .i64 0]) w:=run_build w 35 _ _ (by kernel_rfl)
attribute [local go_sem] build_z
def ERel (x:Wd) (l:List Wd) (w:World) (i:Value) (wr:World):Prop:=∃ k:Nat,i=.int .i64 (k:Int)∧k≤l.length∧Blk wr (w.heap.size+1) 35 (wd ((l.take k).foldl orW x))∧Blk wr w.heap.size 35 fz∧Below w.heap.size w wr
theorem or_take {x:Wd} {l:List Wd} {k:Nat} {r:Wd} (hlt:k<l.length) (hr:l[k]?=some r):(l.take (k+1)).foldl orW x=orW ((l.take k).foldl orW x) r:=by
 have e:l[k]=r:=by simpa [List.getElem?_eq_getElem hlt] using hr
 rw [List.take_succ_eq_append_getElem hlt,e,List.foldl_append];rfl
theorem either_any (l:List Wd) (A:Option Addr) (cap:Nat) (w:World) (hlen:l.length≤100000) (hcap:l.length≤cap) (hmx:cap≤9223372036854775807) (h:Lst w w.heap.size A l) :
  Calls Tryz.prog 27 #[.slice A l.length cap] w fun e w'=>e=.returned (.agg #[.int .i64 (eithW l).1,.int .i64 (eithW l).2])∧Below w.heap.size w w':=by
 cases l with
 | nil=>
  clear h
  go_enter Tryz.func27,Tryz.ntmps27
  go_wp2_with fail
  exact bodyPost_ret (resW rfl w.heap.size (0,0) rfl (Blk.new _ _ _)) rfl ⟨rfl,below_al (Below.refl _ _) (Nat.le_refl _) _⟩
 | cons r0 rs=>
  obtain ⟨b,off,rfl,hbl,hc⟩:=h (by simp)
  rw [List.length_cons] at hlen hcap ⊢
  have x0:w.cell? ⟨b,off,none⟩=some (.int .i64 r0.1):=by simpa using (hc 0 r0 rfl).1
  have x1:w.cell? ⟨b,off+1,none⟩=some (.int .i64 r0.2):=by simpa using (hc 0 r0 rfl).2
  have hz:=(Blk.new w 35 fz).alloc (.cells (wd r0) 35)
  have hs:Blk ((w.alloc (.cells fz 35)).alloc (.cells (wd r0) 35)) (w.heap.size+1) 35 (wd r0):=blkAt (by simp)
  have hb:Below w.heap.size w ((w.alloc (.cells fz 35)).alloc (.cells (wd r0) 35)):=below_al (below_al (Below.refl _ _) (Nat.le_refl _) _) (by simp) _
  have H0:=hide (show ERel r0 rs w (.int .i64 0) _ from ⟨0,rfl,Nat.zero_le _,hs,hz,hb⟩)
  have y0:(w.alloc (.cells fz 35)).cell? ⟨b,off,none⟩=some (.int .i64 r0.1):=(World.cell?_alloc_lt w _ ⟨b,off,none⟩ hbl).trans x0
  have y1:(w.alloc (.cells fz 35)).cell? ⟨b,off+1,none⟩=some (.int .i64 r0.2):=(World.cell?_alloc_lt w _ ⟨b,off+1,none⟩ hbl).trans x1
  have HC:=hide hc
  have HBL:=hide hbl
  have hp1:(0:Int)<((rs.length+1:Nat):Int):=by omega
  have hp2:(0:Int)<(rs.length:Int)+1:=by omega
  have hp3:0<rs.length+1:=by omega
  have hp4:(1:Int)≤(rs.length:Int)+1:=by omega
  have hp5:1≤rs.length+1:=by omega
  have hp6:(((rs.length+1:Nat):Int)==0)=false:=by rw [beq_eq_false_iff_ne];omega
  have hp7:((rs.length:Int)+1==0)=false:=by rw [beq_eq_false_iff_ne];omega
  clear hc hz hs hb hbl x0 x1
  by_cases hc1:cap=1
  ·have HC1:=hide (show rs.length=0 by omega)
   subst hc1
   go_enter Tryz.func27,Tryz.ntmps27
   go_wp2_with fail
   go_loopw [16] (fun i wr=>ERel r0 rs w i wr) (fun i _=>rs.length-(intOf i).toNat)
   case atStart=>exact H0.1
   case round=>
    obtain ⟨k,rfl,hk,hS,hZ,hB⟩:=hrel
    go_hideQ
    clear H0 y0 y1
    by_cases hlt:k<rs.length
    ·exfalso;have:=HC1.1;omega
    ·have hkn:k=rs.length:=by omega
     have hd:decide ((k:Int)<(rs.length:Int))=false:=decide_eq_false (by omega)
     have hnot:¬ ((k:Int)<(rs.length:Int)):=by omega
     rw [hkn,List.take_length] at hS
     obtain ⟨q,hq⟩:∃ q,rs.foldl orW r0=q:=⟨_,rfl⟩
     rw [hq] at hS
     have HQ:=hide hq
     obtain ⟨⟨a0,a1⟩,-,-⟩:=cellsW hS
     obtain ⟨⟨z0,z1⟩,g0,g1⟩:=cellsW hZ
     have HF:=hide ((hZ.set_ 0 (.int .i64 q.1)).set_ 1 (.int .i64 q.2))
     have HBF:=hide ((hB.setCell (p:=⟨w.heap.size,0,none⟩) (Nat.le_refl _) (.int .i64 q.1)).setCell (p:=⟨w.heap.size,1,none⟩) (Nat.le_refl _) (.int .i64 q.2))
     clear hS hZ hB hq
     go_wp2_with fail
     (try simp only [Exit.inBlock,Exit.then])
     exact bodyPost_ret (resW rfl w.heap.size q rfl HF.1) rfl ⟨by rw [show eithW (r0 :: rs)=rs.foldl orW r0 from rfl,HQ.1],HBF.1⟩
  ·have hc2:(cap:Int)-1≠0:=by omega
   go_enter Tryz.func27,Tryz.ntmps27
   go_wp2_with fail
   go_loopw [16] (fun i wr=>ERel r0 rs w i wr) (fun i _=>rs.length-(intOf i).toNat)
   case atStart=>exact H0.1
   case round=>
    obtain ⟨k,rfl,hk,hS,hZ,hB⟩:=hrel
    go_hideQ
    clear H0 y0 y1
    by_cases hlt:k<rs.length
    ·have hki:(k:Int)<(rs.length:Int):=by omega
     have hd:decide ((k:Int)<(rs.length:Int))=true:=decide_eq_true hki
     obtain ⟨r,hr⟩:∃ r,rs[k]?=some r:=⟨_,List.getElem?_eq_getElem hlt⟩
     have c1:wr.cell? ⟨b,off+2+k*2,none⟩=some (.int .i64 r.1):=(hB.cell (p:=⟨b,off+2+k*2,none⟩) HBL.1).trans (by have:=(HC.1 (k+1) r hr).1;rwa [show off+(k+1)*2=off+2+k*2 by omega] at this)
     have c2:wr.cell? ⟨b,off+2+k*2+1,none⟩=some (.int .i64 r.2):=(hB.cell (p:=⟨b,off+2+k*2+1,none⟩) HBL.1).trans (by have:=(HC.1 (k+1) r hr).2;rwa [show off+(k+1)*2=off+2+k*2 by omega] at this)
     have HTK:=hide (or_take (x:=r0) hlt hr)
     generalize (rs.take k).foldl orW r0=s at *
     by_cases hle:s.1≤r.1
     ·have hle':decide (s.1≤r.1)=true:=decide_eq_true hle
      have w3:IntKind.i64.wrap ((k:Int)+1)=(k:Int)+1:=wrap_id _ (by omega) (by omega)
      have hgs:w.heap.size+2≤wr.heap.size:=by have:=hS.lt;omega
      have hS1:=hS.alloc (.cells (wd r) 35)
      have hS2:Blk ((wr.alloc (.cells (wd r) 35)).setCell ⟨w.heap.size+1,0,none⟩ (.int .i64 s.1)) (w.heap.size+1) 35 #[.int .i64 s.1,.int .i64 s.2]:=hS1.set_ 0 _
      have hR2:=(Blk.new wr 35 (wd r)).far (p:=⟨w.heap.size+1,0,none⟩) (show wr.heap.size≠w.heap.size+1 by omega) (.int .i64 s.1)
      have hB2:=(below_al hB hB.size (.cells (wd r) 35)).setCell (p:=⟨w.heap.size+1,0,none⟩) (show w.heap.size≤w.heap.size+1 by omega) (.int .i64 s.1)
      have hZ2:=(hZ.alloc (.cells (wd r) 35)).far (p:=⟨w.heap.size+1,0,none⟩) (show w.heap.size≠w.heap.size+1 by omega) (.int .i64 s.1)
      obtain ⟨⟨a0,a1⟩,f0,f1⟩:=cellsW hS1
      obtain ⟨⟨e0,e1⟩,-,-⟩:=cellsW hS2
      have HS2:=hide hS2
      have HR2:=hide hR2
      have HB2:=hide hB2
      have HZ2:=hide hZ2
      have hmm:min s.1 r.1=s.1:=by omega
      have HM:=hide hmm
      clear hS hZ hB hr hS1 hS2 hR2 hB2 hZ2
      go_wp2_with fail
      refine (unbound_any (s.1,s.2) _).mono ?_
      rintro e w4 ⟨rfl,hb4⟩
      rw [show unb (s.1,s.2)=unb s from rfl]
      have hS3:=HS2.1.below hb4 HS2.1.lt
      have hR3:=HR2.1.below hb4 HR2.1.lt
      have hB3:=HB2.1.trans (hb4.mono HB2.1.size)
      have hZ3:=HZ2.1.below hb4 HZ2.1.lt
      clear hb4 HS2 HR2 HB2 HZ2 a0 a1 f0 f1 e0 e1 c1 c2
      obtain ⟨us,hus⟩:∃ u,unb s=u:=⟨_,rfl⟩
      rw [hus]
      have HUS:=hide hus
      clear hus
      cases us with
      | true=>
       have hS4:Blk (w4.setCell ⟨w.heap.size+1,1,none⟩ (.int .i64 (-1))) (w.heap.size+1) 35 #[.int .i64 s.1,.int .i64 (-1)]:=hS3.set_ 1 _
       have hB4:=hB3.setCell (p:=⟨w.heap.size+1,1,none⟩) (show w.heap.size≤w.heap.size+1 by omega) (.int .i64 (-1))
       have hZ4:=hZ3.far (p:=⟨w.heap.size+1,1,none⟩) (show w.heap.size≠w.heap.size+1 by omega) (.int .i64 (-1))
       obtain ⟨⟨t0,t1⟩,g0,g1⟩:=cellsW hS3
       have hR:ERel r0 rs w (.int .i64 ((k:Int)+1)) _:=⟨k+1,by push_cast;rfl,hlt,by rw [HTK.1,show orW s r=(s.1,-1) from by unfold orW;rw [HM.1];simp [HUS.1]];exact hS4,hZ4,hB4⟩
       have HR:=hide hR
       have hme:rs.length-(intOf (.int .i64 ((k:Int)+1))).toNat<rs.length-(intOf (.int .i64 (k:Int))).toNat:=by show rs.length-((k:Int)+1).toNat<rs.length-(k:Int).toNat;omega
       clear hS3 hB3 hZ3 hS4 hB4 hZ4 hR
       go_wp2_with fail
       first|exact ⟨HR.1,hme⟩|(go_roundw;all_goals first|exact HR.1|exact hme|omega)
      | false=>
       obtain ⟨⟨r2,r3⟩,-,-⟩:=cellsW hR3
       have HS3:=hide hS3
       have HB3:=hide hB3
       have HZ3:=hide hZ3
       have HR3:=hide hR3
       clear hS3 hB3 hZ3 hR3
       go_wp2_with fail
       refine (unbound_any r _).mono ?_
       rintro e w5 ⟨rfl,hb5⟩
       have hS3:=HS3.1.below hb5 HS3.1.lt
       have hB3:=HB3.1.trans (hb5.mono HB3.1.size)
       have hZ3:=HZ3.1.below hb5 HZ3.1.lt
       have hR5:=HR3.1.below hb5 HR3.1.lt
       clear r2 r3
       obtain ⟨⟨r2,r3⟩,-,-⟩:=cellsW hR5
       clear hb5 HS3 HB3 HZ3 HR3 hR5
       obtain ⟨ur,hur⟩:∃ u,unb r=u:=⟨_,rfl⟩
       rw [hur]
       have HUR:=hide hur
       clear hur
       cases ur with
       | true=>
        have hS4:Blk (w5.setCell ⟨w.heap.size+1,1,none⟩ (.int .i64 (-1))) (w.heap.size+1) 35 #[.int .i64 s.1,.int .i64 (-1)]:=hS3.set_ 1 _
        have hB4:=hB3.setCell (p:=⟨w.heap.size+1,1,none⟩) (show w.heap.size≤w.heap.size+1 by omega) (.int .i64 (-1))
        have hZ4:=hZ3.far (p:=⟨w.heap.size+1,1,none⟩) (show w.heap.size≠w.heap.size+1 by omega) (.int .i64 (-1))
        obtain ⟨⟨t0,t1⟩,g0,g1⟩:=cellsW hS3
        have hR:ERel r0 rs w (.int .i64 ((k:Int)+1)) _:=⟨k+1,by push_cast;rfl,hlt,by rw [HTK.1,show orW s r=(s.1,-1) from by unfold orW;rw [HM.1];simp [HUR.1]];exact hS4,hZ4,hB4⟩
        have HR:=hide hR
        have hme:rs.length-(intOf (.int .i64 ((k:Int)+1))).toNat<rs.length-(intOf (.int .i64 (k:Int))).toNat:=by show rs.length-((k:Int)+1).toNat<rs.length-(k:Int).toNat;omega
        clear hS3 hB3 hZ3 hS4 hB4 hZ4 hR
        go_wp2_with fail
        first|exact ⟨HR.1,hme⟩|(go_roundw;all_goals first|exact HR.1|exact hme|omega)
       | false=>
        by_cases hmx:s.2<r.2
        ·have hmx2:decide (s.2<r.2)=true:=decide_eq_true hmx
         have hmx4:r.2 > s.2:=hmx
         have hmx6:max s.2 r.2=r.2:=by omega
         have hS4:Blk (w5.setCell ⟨w.heap.size+1,1,none⟩ (.int .i64 (r.2))) (w.heap.size+1) 35 #[.int .i64 s.1,.int .i64 (r.2)]:=hS3.set_ 1 _
         have hB4:=hB3.setCell (p:=⟨w.heap.size+1,1,none⟩) (show w.heap.size≤w.heap.size+1 by omega) (.int .i64 (r.2))
         have hZ4:=hZ3.far (p:=⟨w.heap.size+1,1,none⟩) (show w.heap.size≠w.heap.size+1 by omega) (.int .i64 (r.2))
         obtain ⟨⟨t0,t1⟩,g0,g1⟩:=cellsW hS3
         have hR:ERel r0 rs w (.int .i64 ((k:Int)+1)) _:=⟨k+1,by push_cast;rfl,hlt,by rw [HTK.1,show orW s r=(s.1,r.2) from by unfold orW;rw [HM.1];simp [HUS.1,HUR.1,(show max s.2 r.2=r.2 by omega)]];exact hS4,hZ4,hB4⟩
         have HR:=hide hR
         have hme:rs.length-(intOf (.int .i64 ((k:Int)+1))).toNat<rs.length-(intOf (.int .i64 (k:Int))).toNat:=by show rs.length-((k:Int)+1).toNat<rs.length-(k:Int).toNat;omega
         clear hS3 hB3 hZ3 hS4 hB4 hZ4 hR
         go_wp2_with fail
         first|exact ⟨HR.1,hme⟩|(go_roundw;all_goals first|exact HR.1|exact hme|omega)
        ·have hmx2:decide (s.2<r.2)=false:=decide_eq_false hmx
         have hmx4:¬ (r.2 > s.2):=hmx
         have hmx6:max s.2 r.2=s.2:=by omega
         have hmx5:(r.2 > s.2)=False:=eq_false hmx4
         have hS4:Blk (w5.setCell ⟨w.heap.size+1,1,none⟩ (.int .i64 (s.2))) (w.heap.size+1) 35 #[.int .i64 s.1,.int .i64 (s.2)]:=hS3.set_ 1 _
         have hB4:=hB3.setCell (p:=⟨w.heap.size+1,1,none⟩) (show w.heap.size≤w.heap.size+1 by omega) (.int .i64 (s.2))
         have hZ4:=hZ3.far (p:=⟨w.heap.size+1,1,none⟩) (show w.heap.size≠w.heap.size+1 by omega) (.int .i64 (s.2))
         obtain ⟨⟨t0,t1⟩,g0,g1⟩:=cellsW hS3
         have hR:ERel r0 rs w (.int .i64 ((k:Int)+1)) _:=⟨k+1,by push_cast;rfl,hlt,by rw [HTK.1,show orW s r=(s.1,s.2) from by unfold orW;rw [HM.1];simp [HUS.1,HUR.1,(show max s.2 r.2=s.2 by omega)]];exact hS4,hZ4,hB4⟩
         have HR:=hide hR
         have hme:rs.length-(intOf (.int .i64 ((k:Int)+1))).toNat<rs.length-(intOf (.int .i64 (k:Int))).toNat:=by show rs.length-((k:Int)+1).toNat<rs.length-(k:Int).toNat;omega
         clear hS3 hB3 hZ3 hS4 hB4 hZ4 hR
         go_wp2_with fail
         first|exact ⟨HR.1,hme⟩|(go_roundw;all_goals first|exact HR.1|exact hme|omega)
     ·have hle':decide (s.1≤r.1)=false:=decide_eq_false hle
      have hlt2:r.1<s.1:=by omega
      have w3:IntKind.i64.wrap ((k:Int)+1)=(k:Int)+1:=wrap_id _ (by omega) (by omega)
      have hgs:w.heap.size+2≤wr.heap.size:=by have:=hS.lt;omega
      have hS1:=hS.alloc (.cells (wd r) 35)
      have hS2:Blk ((wr.alloc (.cells (wd r) 35)).setCell ⟨w.heap.size+1,0,none⟩ (.int .i64 r.1)) (w.heap.size+1) 35 #[.int .i64 r.1,.int .i64 s.2]:=hS1.set_ 0 _
      have hR2:=(Blk.new wr 35 (wd r)).far (p:=⟨w.heap.size+1,0,none⟩) (show wr.heap.size≠w.heap.size+1 by omega) (.int .i64 r.1)
      have hB2:=(below_al hB hB.size (.cells (wd r) 35)).setCell (p:=⟨w.heap.size+1,0,none⟩) (show w.heap.size≤w.heap.size+1 by omega) (.int .i64 r.1)
      have hZ2:=(hZ.alloc (.cells (wd r) 35)).far (p:=⟨w.heap.size+1,0,none⟩) (show w.heap.size≠w.heap.size+1 by omega) (.int .i64 r.1)
      obtain ⟨⟨a0,a1⟩,f0,f1⟩:=cellsW hS1
      obtain ⟨⟨e0,e1⟩,-,-⟩:=cellsW hS2
      have HS2:=hide hS2
      have HR2:=hide hR2
      have HB2:=hide hB2
      have HZ2:=hide hZ2
      have hmm:min s.1 r.1=r.1:=by omega
      have HM:=hide hmm
      clear hS hZ hB hr hS1 hS2 hR2 hB2 hZ2
      go_wp2_with fail
      refine (unbound_any (r.1,s.2) _).mono ?_
      rintro e w4 ⟨rfl,hb4⟩
      rw [show unb (r.1,s.2)=unb s from rfl]
      have hS3:=HS2.1.below hb4 HS2.1.lt
      have hR3:=HR2.1.below hb4 HR2.1.lt
      have hB3:=HB2.1.trans (hb4.mono HB2.1.size)
      have hZ3:=HZ2.1.below hb4 HZ2.1.lt
      clear hb4 HS2 HR2 HB2 HZ2 a0 a1 f0 f1 e0 e1 c1 c2
      obtain ⟨us,hus⟩:∃ u,unb s=u:=⟨_,rfl⟩
      rw [hus]
      have HUS:=hide hus
      clear hus
      cases us with
      | true=>
       have hS4:Blk (w4.setCell ⟨w.heap.size+1,1,none⟩ (.int .i64 (-1))) (w.heap.size+1) 35 #[.int .i64 r.1,.int .i64 (-1)]:=hS3.set_ 1 _
       have hB4:=hB3.setCell (p:=⟨w.heap.size+1,1,none⟩) (show w.heap.size≤w.heap.size+1 by omega) (.int .i64 (-1))
       have hZ4:=hZ3.far (p:=⟨w.heap.size+1,1,none⟩) (show w.heap.size≠w.heap.size+1 by omega) (.int .i64 (-1))
       obtain ⟨⟨t0,t1⟩,g0,g1⟩:=cellsW hS3
       have hR:ERel r0 rs w (.int .i64 ((k:Int)+1)) _:=⟨k+1,by push_cast;rfl,hlt,by rw [HTK.1,show orW s r=(r.1,-1) from by unfold orW;rw [HM.1];simp [HUS.1]];exact hS4,hZ4,hB4⟩
       have HR:=hide hR
       have hme:rs.length-(intOf (.int .i64 ((k:Int)+1))).toNat<rs.length-(intOf (.int .i64 (k:Int))).toNat:=by show rs.length-((k:Int)+1).toNat<rs.length-(k:Int).toNat;omega
       clear hS3 hB3 hZ3 hS4 hB4 hZ4 hR
       go_wp2_with fail
       first|exact ⟨HR.1,hme⟩|(go_roundw;all_goals first|exact HR.1|exact hme|omega)
      | false=>
       obtain ⟨⟨r2,r3⟩,-,-⟩:=cellsW hR3
       have HS3:=hide hS3
       have HB3:=hide hB3
       have HZ3:=hide hZ3
       have HR3:=hide hR3
       clear hS3 hB3 hZ3 hR3
       go_wp2_with fail
       refine (unbound_any r _).mono ?_
       rintro e w5 ⟨rfl,hb5⟩
       have hS3:=HS3.1.below hb5 HS3.1.lt
       have hB3:=HB3.1.trans (hb5.mono HB3.1.size)
       have hZ3:=HZ3.1.below hb5 HZ3.1.lt
       have hR5:=HR3.1.below hb5 HR3.1.lt
       clear r2 r3
       obtain ⟨⟨r2,r3⟩,-,-⟩:=cellsW hR5
       clear hb5 HS3 HB3 HZ3 HR3 hR5
       obtain ⟨ur,hur⟩:∃ u,unb r=u:=⟨_,rfl⟩
       rw [hur]
       have HUR:=hide hur
       clear hur
       cases ur with
       | true=>
        have hS4:Blk (w5.setCell ⟨w.heap.size+1,1,none⟩ (.int .i64 (-1))) (w.heap.size+1) 35 #[.int .i64 r.1,.int .i64 (-1)]:=hS3.set_ 1 _
        have hB4:=hB3.setCell (p:=⟨w.heap.size+1,1,none⟩) (show w.heap.size≤w.heap.size+1 by omega) (.int .i64 (-1))
        have hZ4:=hZ3.far (p:=⟨w.heap.size+1,1,none⟩) (show w.heap.size≠w.heap.size+1 by omega) (.int .i64 (-1))
        obtain ⟨⟨t0,t1⟩,g0,g1⟩:=cellsW hS3
        have hR:ERel r0 rs w (.int .i64 ((k:Int)+1)) _:=⟨k+1,by push_cast;rfl,hlt,by rw [HTK.1,show orW s r=(r.1,-1) from by unfold orW;rw [HM.1];simp [HUR.1]];exact hS4,hZ4,hB4⟩
        have HR:=hide hR
        have hme:rs.length-(intOf (.int .i64 ((k:Int)+1))).toNat<rs.length-(intOf (.int .i64 (k:Int))).toNat:=by show rs.length-((k:Int)+1).toNat<rs.length-(k:Int).toNat;omega
        clear hS3 hB3 hZ3 hS4 hB4 hZ4 hR
        go_wp2_with fail
        first|exact ⟨HR.1,hme⟩|(go_roundw;all_goals first|exact HR.1|exact hme|omega)
       | false=>
        by_cases hmx:s.2<r.2
        ·have hmx2:decide (s.2<r.2)=true:=decide_eq_true hmx
         have hmx4:r.2 > s.2:=hmx
         have hmx6:max s.2 r.2=r.2:=by omega
         have hS4:Blk (w5.setCell ⟨w.heap.size+1,1,none⟩ (.int .i64 (r.2))) (w.heap.size+1) 35 #[.int .i64 r.1,.int .i64 (r.2)]:=hS3.set_ 1 _
         have hB4:=hB3.setCell (p:=⟨w.heap.size+1,1,none⟩) (show w.heap.size≤w.heap.size+1 by omega) (.int .i64 (r.2))
         have hZ4:=hZ3.far (p:=⟨w.heap.size+1,1,none⟩) (show w.heap.size≠w.heap.size+1 by omega) (.int .i64 (r.2))
         obtain ⟨⟨t0,t1⟩,g0,g1⟩:=cellsW hS3
         have hR:ERel r0 rs w (.int .i64 ((k:Int)+1)) _:=⟨k+1,by push_cast;rfl,hlt,by rw [HTK.1,show orW s r=(r.1,r.2) from by unfold orW;rw [HM.1];simp [HUS.1,HUR.1,(show max s.2 r.2=r.2 by omega)]];exact hS4,hZ4,hB4⟩
         have HR:=hide hR
         have hme:rs.length-(intOf (.int .i64 ((k:Int)+1))).toNat<rs.length-(intOf (.int .i64 (k:Int))).toNat:=by show rs.length-((k:Int)+1).toNat<rs.length-(k:Int).toNat;omega
         clear hS3 hB3 hZ3 hS4 hB4 hZ4 hR
         go_wp2_with fail
         first|exact ⟨HR.1,hme⟩|(go_roundw;all_goals first|exact HR.1|exact hme|omega)
        ·have hmx2:decide (s.2<r.2)=false:=decide_eq_false hmx
         have hmx4:¬ (r.2 > s.2):=hmx
         have hmx6:max s.2 r.2=s.2:=by omega
         have hmx5:(r.2 > s.2)=False:=eq_false hmx4
         have hS4:Blk (w5.setCell ⟨w.heap.size+1,1,none⟩ (.int .i64 (s.2))) (w.heap.size+1) 35 #[.int .i64 r.1,.int .i64 (s.2)]:=hS3.set_ 1 _
         have hB4:=hB3.setCell (p:=⟨w.heap.size+1,1,none⟩) (show w.heap.size≤w.heap.size+1 by omega) (.int .i64 (s.2))
         have hZ4:=hZ3.far (p:=⟨w.heap.size+1,1,none⟩) (show w.heap.size≠w.heap.size+1 by omega) (.int .i64 (s.2))
         obtain ⟨⟨t0,t1⟩,g0,g1⟩:=cellsW hS3
         have hR:ERel r0 rs w (.int .i64 ((k:Int)+1)) _:=⟨k+1,by push_cast;rfl,hlt,by rw [HTK.1,show orW s r=(r.1,s.2) from by unfold orW;rw [HM.1];simp [HUS.1,HUR.1,(show max s.2 r.2=s.2 by omega)]];exact hS4,hZ4,hB4⟩
         have HR:=hide hR
         have hme:rs.length-(intOf (.int .i64 ((k:Int)+1))).toNat<rs.length-(intOf (.int .i64 (k:Int))).toNat:=by show rs.length-((k:Int)+1).toNat<rs.length-(k:Int).toNat;omega
         clear hS3 hB3 hZ3 hS4 hB4 hZ4 hR
         go_wp2_with fail
         first|exact ⟨HR.1,hme⟩|(go_roundw;all_goals first|exact HR.1|exact hme|omega)
    ·have hkn:k=rs.length:=by omega
     have hd:decide ((k:Int)<(rs.length:Int))=false:=decide_eq_false (by omega)
     have hnot:¬ ((k:Int)<(rs.length:Int)):=by omega
     rw [hkn,List.take_length] at hS
     obtain ⟨q,hq⟩:∃ q,rs.foldl orW r0=q:=⟨_,rfl⟩
     rw [hq] at hS
     have HQ:=hide hq
     obtain ⟨⟨a0,a1⟩,-,-⟩:=cellsW hS
     obtain ⟨⟨z0,z1⟩,g0,g1⟩:=cellsW hZ
     have HF:=hide ((hZ.set_ 0 (.int .i64 q.1)).set_ 1 (.int .i64 q.2))
     have HBF:=hide ((hB.setCell (p:=⟨w.heap.size,0,none⟩) (Nat.le_refl _) (.int .i64 q.1)).setCell (p:=⟨w.heap.size,1,none⟩) (Nat.le_refl _) (.int .i64 q.2))
     clear hS hZ hB hq
     go_wp2_with fail
     (try simp only [Exit.inBlock,Exit.then])
     exact bodyPost_ret (resW rfl w.heap.size q rfl HF.1) rfl ⟨by rw [show eithW (r0 :: rs)=rs.foldl orW r0 from rfl,HQ.1],HBF.1⟩
end
section
open Go.RowKit Mem Rs As
theorem build_w0 (w:World):Sem.run Tryz.prog (Instr.build 35 #[]) w=.ok (.agg #[.int .i64 0,.int .i64 0]) w:=run_build w 35 _ _ (by kernel_rfl)
attribute [local go_sem] build_w build_w0 run_not_true run_not_false
theorem of_rest (nd:Nd) (vs vk:Value) (l:List Wd) (A:Option Addr) (cap:Nat) (w:World) (hlen:l.length≤100000) (hcap:l.length≤cap) (hmx:cap≤9223372036854775807) (h:Lst w w.heap.size A l) (hok:∀ a∈l,OkW a) (h8:¬ nd.kind=8) :
  Calls Tryz.prog 17 #[.agg (ndv nd vs vk),.slice A l.length cap] w fun e w'=>e=.returned (.agg #[.int .i64 (ofW nd l).1,.int .i64 (ofW nd l).2])∧Below w.heap.size w w':=by
 have bn:=(Blk.new w 49 (ndv nd vs vk)).alloc (.cells fz 35)
 have bz:=(blk2 (W:=w) (o:=.cells (ndv nd vs vk) 49) (t:=35) (cs:=fz))
 have bb:Below w.heap.size w ((w.alloc (.cells (ndv nd vs vk) 49)).alloc (.cells fz 35)):=below_al (below_al (Below.refl _ _) (Nat.le_refl _) _) (by simp) _
 have c0:(_:Option Value)=some (.int .i64 nd.kind):=bn.cell 0
 have HL:=hide ((h.keep fun p hp=>bb.cell hp).more (show w.heap.size≤((w.alloc (.cells (ndv nd vs vk) 49)).alloc (.cells fz 35)).heap.size by simp;omega))
 have CE:=hide (either_any l A cap ((w.alloc (.cells (ndv nd vs vk) 49)).alloc (.cells fz 35)) hlen hcap hmx HL.1)
 have CS:=hide (sum_any l A cap ((w.alloc (.cells (ndv nd vs vk) 49)).alloc (.cells fz 35)) hlen HL.1 hok)
 have HS:=hide (ok_sum hok).1
 have HN:=hide bn
 have HZ:=hide bz
 have HB:=hide bb
 clear bn bz bb h hok hlen hcap hmx
 obtain ⟨q,hq⟩:∃ q,ofW nd l=q:=⟨_,rfl⟩
 rw [hq]
 have HQ:=hide hq
 clear hq
 by_cases h2:nd.kind=2
 ·have eh2:(nd.kind==2)=true:=beq_iff_eq.2 h2
  have hq2:(1,1)=q:=by rw [← HQ.1];unfold ofW;rw [if_pos h2]
  subst hq2
  clear h2
  have HF:=hide (blk2 (W:=w) (o:=.cells (ndv nd vs vk) 49) (t:=35) (cs:=#[.int .i64 1,.int .i64 1]))
  have HBF:=hide (below_al (below_al (Below.refl w.heap.size w) (Nat.le_refl _) (.cells (ndv nd vs vk) 49)) (by simp) (.cells #[.int .i64 1,.int .i64 1] 35))
  go_enter Tryz.func17,Tryz.ntmps17
  go_wp2_with fail
  (try simp only [Exit.inBlock,Exit.then])
  exact bodyPost_ret (resW rfl (w.heap.size+1) (1,1) rfl HF.1) rfl ⟨rfl,HBF.1⟩
 ·have eh2:(nd.kind==2)=false:=beq_eq_false_iff_ne.2 h2
  by_cases h4:nd.kind=4
  ·have eh4:(nd.kind==4)=true:=beq_iff_eq.2 h4
   have hq2:(0,-1)=q:=by rw [← HQ.1];unfold ofW;rw [if_neg h2,if_pos h4]
   subst hq2
   clear h2 h4
   have HF:=hide (blk2 (W:=w) (o:=.cells (ndv nd vs vk) 49) (t:=35) (cs:=#[.int .i64 0,.int .i64 (-1)]))
   have HBF:=hide (below_al (below_al (Below.refl w.heap.size w) (Nat.le_refl _) (.cells (ndv nd vs vk) 49)) (by simp) (.cells #[.int .i64 0,.int .i64 (-1)] 35))
   go_enter Tryz.func17,Tryz.ntmps17
   go_wp2_with fail
   (try simp only [Exit.inBlock,Exit.then])
   exact bodyPost_ret (resW rfl (w.heap.size+1) (0,-1) rfl HF.1) rfl ⟨rfl,HBF.1⟩
  ·have eh4:(nd.kind==4)=false:=beq_eq_false_iff_ne.2 h4
   by_cases h6:nd.kind=6
   ·have eh6:(nd.kind==6)=true:=beq_iff_eq.2 h6
    have hq2:eithW l=q:=by rw [← HQ.1];unfold ofW;rw [if_neg h2,if_neg h4,if_pos h6]
    subst hq2
    clear h2 h4 h6
    obtain ⟨q,hq⟩:∃ q,eithW l=q:=⟨_,rfl⟩
    have CX:=CE.1
    rw [hq] at CX ⊢
    have CX:=hide CX
    clear hq CE CS
    go_enter Tryz.func17,Tryz.ntmps17
    go_wp2_with fail
    refine CX.1.mono ?_
    rintro e w3 ⟨rfl,hb3⟩
    have HZ:=hide (HZ.1.below hb3 HZ.1.lt)
    have HB:=hide (HB.1.trans (hb3.mono HB.1.size))
    clear hb3 c0
    obtain ⟨⟨z0,z1⟩,zg0,zg1⟩:=cellsW HZ.1
    have HF:=hide ((HZ.1.set_ 0 (.int .i64 q.1)).set_ 1 (.int .i64 q.2))
    have HBF:=hide ((HB.1.setCell (p:=⟨w.heap.size+1,0,none⟩) (show w.heap.size≤w.heap.size+1 by omega) (.int .i64 q.1)).setCell (p:=⟨w.heap.size+1,1,none⟩) (show w.heap.size≤w.heap.size+1 by omega) (.int .i64 q.2))
    go_wp2_with fail
    (try simp only [Exit.inBlock,Exit.then])
    exact bodyPost_ret (resW rfl (w.heap.size+1) q rfl HF.1) rfl ⟨rfl,HBF.1⟩
   ·have eh6:(nd.kind==6)=false:=beq_eq_false_iff_ne.2 h6
    by_cases h7:nd.kind=7
    ·have eh7:(nd.kind==7)=true:=beq_iff_eq.2 h7
     have hq2:sumW l=q:=by rw [← HQ.1];unfold ofW;rw [if_neg (by omega),if_neg (by omega),if_neg (by omega),if_pos (by omega)]
     subst hq2
     clear h2 h4 h6 h7
     obtain ⟨q,hq⟩:∃ q,sumW l=q:=⟨_,rfl⟩
     have CX:=CS.1
     rw [hq] at CX ⊢
     have CX:=hide CX
     clear hq CE CS
     go_enter Tryz.func17,Tryz.ntmps17
     go_wp2_with fail
     refine CX.1.mono ?_
     rintro e w3 ⟨rfl,hb3⟩
     have HZ:=hide (HZ.1.below hb3 HZ.1.lt)
     have HB:=hide (HB.1.trans (hb3.mono HB.1.size))
     clear hb3 c0
     obtain ⟨⟨z0,z1⟩,zg0,zg1⟩:=cellsW HZ.1
     have HF:=hide ((HZ.1.set_ 0 (.int .i64 q.1)).set_ 1 (.int .i64 q.2))
     have HBF:=hide ((HB.1.setCell (p:=⟨w.heap.size+1,0,none⟩) (show w.heap.size≤w.heap.size+1 by omega) (.int .i64 q.1)).setCell (p:=⟨w.heap.size+1,1,none⟩) (show w.heap.size≤w.heap.size+1 by omega) (.int .i64 q.2))
     go_wp2_with fail
     (try simp only [Exit.inBlock,Exit.then])
     exact bodyPost_ret (resW rfl (w.heap.size+1) q rfl HF.1) rfl ⟨rfl,HBF.1⟩
    ·have eh7:(nd.kind==7)=false:=beq_eq_false_iff_ne.2 h7
     by_cases h9:nd.kind=9
     ·have eh9:(nd.kind==9)=true:=beq_iff_eq.2 h9
      have hq2:sumW l=q:=by rw [← HQ.1];unfold ofW;rw [if_neg (by omega),if_neg (by omega),if_neg (by omega),if_pos (by omega)]
      subst hq2
      clear h2 h4 h6 h7 h9
      obtain ⟨q,hq⟩:∃ q,sumW l=q:=⟨_,rfl⟩
      have CX:=CS.1
      rw [hq] at CX ⊢
      have CX:=hide CX
      clear hq CE CS
      go_enter Tryz.func17,Tryz.ntmps17
      go_wp2_with fail
      refine CX.1.mono ?_
      rintro e w3 ⟨rfl,hb3⟩
      have HZ:=hide (HZ.1.below hb3 HZ.1.lt)
      have HB:=hide (HB.1.trans (hb3.mono HB.1.size))
      clear hb3 c0
      obtain ⟨⟨z0,z1⟩,zg0,zg1⟩:=cellsW HZ.1
      have HF:=hide ((HZ.1.set_ 0 (.int .i64 q.1)).set_ 1 (.int .i64 q.2))
      have HBF:=hide ((HB.1.setCell (p:=⟨w.heap.size+1,0,none⟩) (show w.heap.size≤w.heap.size+1 by omega) (.int .i64 q.1)).setCell (p:=⟨w.heap.size+1,1,none⟩) (show w.heap.size≤w.heap.size+1 by omega) (.int .i64 q.2))
      go_wp2_with fail
      (try simp only [Exit.inBlock,Exit.then])
      exact bodyPost_ret (resW rfl (w.heap.size+1) q rfl HF.1) rfl ⟨rfl,HBF.1⟩
     ·have eh9:(nd.kind==9)=false:=beq_eq_false_iff_ne.2 h9
      by_cases h5:nd.kind=5
      ·have eh5:(nd.kind==5)=true:=beq_iff_eq.2 h5
       have hq2:sumW l=q:=by rw [← HQ.1];unfold ofW;rw [if_neg (by omega),if_neg (by omega),if_neg (by omega),if_pos (by omega)]
       subst hq2
       clear h2 h4 h6 h7 h9 h5
       obtain ⟨q,hq⟩:∃ q,sumW l=q:=⟨_,rfl⟩
       have CX:=CS.1
       rw [hq] at CX ⊢
       have CX:=hide CX
       clear hq CE CS
       go_enter Tryz.func17,Tryz.ntmps17
       go_wp2_with fail
       refine CX.1.mono ?_
       rintro e w3 ⟨rfl,hb3⟩
       have HZ:=hide (HZ.1.below hb3 HZ.1.lt)
       have HB:=hide (HB.1.trans (hb3.mono HB.1.size))
       clear hb3 c0
       obtain ⟨⟨z0,z1⟩,zg0,zg1⟩:=cellsW HZ.1
       have HF:=hide ((HZ.1.set_ 0 (.int .i64 q.1)).set_ 1 (.int .i64 q.2))
       have HBF:=hide ((HB.1.setCell (p:=⟨w.heap.size+1,0,none⟩) (show w.heap.size≤w.heap.size+1 by omega) (.int .i64 q.1)).setCell (p:=⟨w.heap.size+1,1,none⟩) (show w.heap.size≤w.heap.size+1 by omega) (.int .i64 q.2))
       go_wp2_with fail
       (try simp only [Exit.inBlock,Exit.then])
       exact bodyPost_ret (resW rfl (w.heap.size+1) q rfl HF.1) rfl ⟨rfl,HBF.1⟩
      ·have eh5:(nd.kind==5)=false:=beq_eq_false_iff_ne.2 h5
       have eh8:(nd.kind==8)=false:=beq_eq_false_iff_ne.2 h8
       have hq2:(0,0)=q:=by rw [← HQ.1];unfold ofW;rw [if_neg (by omega),if_neg (by omega),if_neg (by omega),if_neg (by omega),if_neg (by omega)]
       subst hq2
       clear h2 h4 h6 h7 h9 h5 h8
       have HF:=hide (blk2 (W:=w) (o:=.cells (ndv nd vs vk) 49) (t:=35) (cs:=fz))
       have HBF:=hide (below_al (below_al (Below.refl w.heap.size w) (Nat.le_refl _) (.cells (ndv nd vs vk) 49)) (by simp) (.cells fz 35))
       go_enter Tryz.func17,Tryz.ntmps17
       go_wp2_with fail
       (try simp only [Exit.inBlock,Exit.then])
       exact bodyPost_ret (resW rfl (w.heap.size+1) (0,0) rfl HF.1) rfl ⟨rfl,HBF.1⟩
end
section
open Go.RowKit Mem Rs As
theorem ofS {nd:Nd} {vs vk:Value} {l:List Wd} {A:Option Addr} {w W:World} (hn:Blk W w.heap.size 49 (ndv nd vs vk)) (hb:Below w.heap.size w W) (hl:Lst W w.heap.size A l):(fun W=>(W.cell? ⟨w.heap.size,0,none⟩=some (.int .i64 nd.kind)∧W.cell? ⟨w.heap.size,1,none⟩=some (.int .i64 nd.from_)∧W.cell? ⟨w.heap.size,2,none⟩=some (.int .i64 nd.to_)∧W.cell? ⟨w.heap.size,3,none⟩=some (.int .i64 nd.num)∧W.cell? ⟨w.heap.size,4,none⟩=some (.int .i64 nd.mn)∧W.cell? ⟨w.heap.size,5,none⟩=some (.int .i64 nd.mx)∧W.cell? ⟨w.heap.size,6,none⟩=some (.int .i64 nd.mode)∧W.cell? ⟨w.heap.size,7,none⟩=some (str nd.name)∧W.cell? ⟨w.heap.size,8,none⟩=some vs∧W.cell? ⟨w.heap.size,9,none⟩=some vk)∧Hd (Blk W w.heap.size 49 (ndv nd vs vk))∧Hd (Below w.heap.size w W)∧Hd (Lst W w.heap.size A l)) W:=
 ⟨⟨hn.cell 0,hn.cell 1,hn.cell 2,hn.cell 3,hn.cell 4,hn.cell 5,hn.cell 6,hn.cell 7,hn.cell 8,hn.cell 9⟩,hide hn,hide hb,hide hl⟩
attribute [local go_sem] build_w run_not_true run_not_false
theorem of_rep (nd:Nd) (vs vk:Value) (l:List Wd) (A:Option Addr) (cap:Nat) (w:World) (hr:RepOk nd) (hlen:l.length≤100000) (h:Lst w w.heap.size A l) (hok:∀ a∈l,OkW a) (h8:nd.kind=8) :
  Calls Tryz.prog 17 #[.agg (ndv nd vs vk),.slice A l.length cap] w fun e w'=>e=.returned (.agg #[.int .i64 (ofW nd l).1,.int .i64 (ofW nd l).2])∧Below w.heap.size w w':=by
 obtain ⟨r1,r2,r3,r4,-⟩:=hr h8
 rw [show ofW nd l=timesW nd.mn nd.mx (sumW l) from by unfold ofW;rw [if_neg (by omega),if_neg (by omega),if_neg (by omega),if_neg (by omega),if_pos h8]]
 have bn:=(Blk.new w 49 (ndv nd vs vk)).alloc (.cells fz 35)
 have bz:=(blk2 (W:=w) (o:=.cells (ndv nd vs vk) 49) (t:=35) (cs:=fz))
 have bb:Below w.heap.size w ((w.alloc (.cells (ndv nd vs vk) 49)).alloc (.cells fz 35)):=below_al (below_al (Below.refl _ _) (Nat.le_refl _) _) (by simp) _
 have c0:(_:Option Value)=some (.int .i64 nd.kind):=bn.cell 0
 have CS:=hide (fun (W:World) (hL:Lst W W.heap.size A l)=>sum_any l A cap W hlen hL hok)
 have hs:=(ok_sum hok).1
 obtain ⟨⟨s1,s2⟩,hq1⟩:∃ s,sumW l=s:=⟨_,rfl⟩
 rw [hq1] at CS hs ⊢
 have CT:=fun wx=>times_any nd vs vk s1 s2 wx hs r1 r2 r3 r4
 obtain ⟨q,hq⟩:∃ q,timesW nd.mn nd.mx (s1,s2)=q:=⟨_,rfl⟩
 rw [hq] at CT ⊢
 have CT:=hide CT
 have e2:(nd.kind==2)=false:=beq_eq_false_iff_ne.2 (by omega)
 have e4:(nd.kind==4)=false:=beq_eq_false_iff_ne.2 (by omega)
 have e6:(nd.kind==6)=false:=beq_eq_false_iff_ne.2 (by omega)
 have e7:(nd.kind==7)=false:=beq_eq_false_iff_ne.2 (by omega)
 have e9:(nd.kind==9)=false:=beq_eq_false_iff_ne.2 (by omega)
 have e5:(nd.kind==5)=false:=beq_eq_false_iff_ne.2 (by omega)
 have e8:(nd.kind==8)=true:=beq_iff_eq.2 h8
 have HN:=hide bn
 have HZ:=hide bz
 have HB:=hide bb
 have H0:=hide h
 have CSd:=hide (CS.1 ((w.alloc (.cells (ndv nd vs vk) 49)).alloc (.cells fz 35)).drew ((h.below bb.drew).more (show w.heap.size≤((w.alloc (.cells (ndv nd vs vk) 49)).alloc (.cells fz 35)).drew.heap.size from bb.drew.size)))
 clear bn bz bb h hok hlen hr hs hq hq1 r1 r2 r3 r4 h8
 go_enter Tryz.func17,Tryz.ntmps17
 go_wp2_with fail
 refine wp_region_noPanic ?_
 refine wp_region_held_drew (S:=fun W=>(W.cell? ⟨w.heap.size,0,none⟩=some (.int .i64 nd.kind)∧W.cell? ⟨w.heap.size,1,none⟩=some (.int .i64 nd.from_)∧W.cell? ⟨w.heap.size,2,none⟩=some (.int .i64 nd.to_)∧W.cell? ⟨w.heap.size,3,none⟩=some (.int .i64 nd.num)∧W.cell? ⟨w.heap.size,4,none⟩=some (.int .i64 nd.mn)∧W.cell? ⟨w.heap.size,5,none⟩=some (.int .i64 nd.mx)∧W.cell? ⟨w.heap.size,6,none⟩=some (.int .i64 nd.mode)∧W.cell? ⟨w.heap.size,7,none⟩=some (str nd.name)∧W.cell? ⟨w.heap.size,8,none⟩=some vs∧W.cell? ⟨w.heap.size,9,none⟩=some vk)∧Hd (Blk W w.heap.size 49 (ndv nd vs vk))∧Hd (Below w.heap.size w W)∧Hd (Lst W w.heap.size A l)) (by kernel_rfl) (ofS HN.1.drew HB.1.drew (H0.1.below HB.1.drew)) (fun hHeld=>?_)
 refine tkH 0 (some 25) ?v0 rfl ?y0 hHeld ?r0
 case y0=>(intro w hSw;(try dsimp only at hSw);go_simp;try with_reducible rfl)
 try simp only [aP]
 refine tkH 1 (some 26) ?v1 rfl ?y1 hHeld ?r1
 case y1=>(intro w hSw;(try dsimp only at hSw);go_simp;try with_reducible rfl)
 try simp only [aP]
 refine wpAnyH_ready (rs:=[2]) (by kernel_rfl) (by simp) ?_
 refine AllReadyH.cons (o:=⟨some 27,_,_,_,_,_⟩) rfl (fun K hK=>?_) AllReadyH.nil
 go_simp
 refine CSd.1.mono ?_
 rintro e w3 ⟨rfl,hb3⟩
 have HN3:=hide (HN.1.drew.below hb3 HN.1.drew.lt)
 have HZ3:=hide (HZ.1.drew.below hb3 HZ.1.drew.lt)
 have HB3:=hide (HB.1.drew.trans (hb3.mono HB.1.drew.size))
 clear hb3 CSd CS c0
 go_wp2_with fail
 refine hK.out _ _ (ofS HN3.1 HB3.1 (H0.1.below HB3.1)) (fun hHeld2=>?_)
 clear hK K
 try simp only [aP]
 refine wpAnyH_ready (rs:=[3]) (by kernel_rfl) (by simp) ?_
 refine AllReadyH.cons (o:=⟨some 28,_,_,_,_,_⟩) rfl (fun K hK=>?_) AllReadyH.nil
 go_simp
 refine (CT.1 _).mono ?_
 rintro e w4 ⟨rfl,hb4⟩
 have HN4:=hide (HN3.1.below hb4 HN3.1.lt)
 have hz4:=HZ3.1.below hb4 HZ3.1.lt
 have hB4:=HB3.1.trans (hb4.mono HB3.1.size)
 obtain ⟨⟨z0,z1⟩,zg0,zg1⟩:=cellsW hz4
 have HF:=hide ((hz4.set_ 0 (.int .i64 q.1)).set_ 1 (.int .i64 q.2))
 have HBF:=hide ((hB4.setCell (p:=⟨w.heap.size+1,0,none⟩) (show w.heap.size≤w.heap.size+1 by omega) (.int .i64 q.1)).setCell (p:=⟨w.heap.size+1,1,none⟩) (show w.heap.size≤w.heap.size+1 by omega) (.int .i64 q.2))
 have HNF:=hide ((HN4.1.far (p:=⟨w.heap.size+1,0,none⟩) (show w.heap.size≠w.heap.size+1 by omega) (.int .i64 q.1)).far (p:=⟨w.heap.size+1,1,none⟩) (show w.heap.size≠w.heap.size+1 by omega) (.int .i64 q.2))
 have HB4:=hide hB4
 clear hb4 hz4 hB4 CT
 go_wp2_with fail
 refine hK.out _ _ (ofS HN4.1 HB4.1 (H0.1.below HB4.1)) (fun hHeld3=>?_)
 clear hK K
 try simp only [aP]
 refine wpAnyH_ready (rs:=[4]) (by kernel_rfl) (by simp) ?_
 refine AllReadyH.cons (o:=⟨none,_,_,_,_,_⟩) rfl (fun K hK=>?_) AllReadyH.nil
 go_simp
 refine hK.out _ _ (ofS HNF.1 HBF.1 (H0.1.below HBF.1)) (fun hHeld4=>?_)
 clear hK K
 refine wpAnyH_done (by kernel_rfl) ?_ _
 refine NoPanic.normal ?_
 go_wp2_with fail
 (try simp only [Exit.inBlock,Exit.then])
 exact bodyPost_ret (resW rfl (w.heap.size+1) q rfl HF.1) rfl ⟨rfl,HBF.1⟩
theorem of_any (nd:Nd) (vs vk:Value) (l:List Wd) (A:Option Addr) (cap:Nat) (w:World) (hr:RepOk nd) (hlen:l.length≤100000) (hcap:l.length≤cap) (hmx:cap≤9223372036854775807) (h:Lst w w.heap.size A l) (hok:∀ a∈l,OkW a) :
  Calls Tryz.prog 17 #[.agg (ndv nd vs vk),.slice A l.length cap] w fun e w'=>e=.returned (.agg #[.int .i64 (ofW nd l).1,.int .i64 (ofW nd l).2])∧Below w.heap.size w w':=by
 by_cases h8:nd.kind=8
 ·exact of_rep nd vs vk l A cap w hr hlen h hok h8
 ·exact of_rest nd vs vk l A cap w hlen hcap hmx h hok h8
end
end Go.Proofs.YtmlbklcmblofkaaGreatDoor.We
