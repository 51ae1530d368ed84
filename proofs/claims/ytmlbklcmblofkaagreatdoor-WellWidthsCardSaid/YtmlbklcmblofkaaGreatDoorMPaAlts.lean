/-
  The reader's alternatives, walked.
-/
import Derived.Test.YtmlbklcmblofkaaGreatDoorMPaF
set_option linter.unusedSimpArgs false
set_option linter.unusedVariables false
set_option maxHeartbeats 8000000
set_option maxRecDepth 100000
namespace Go.Proofs.YtmlbklcmblofkaaGreatDoor.Pa
open Go.RowKit Mem
open Sy (g)
attribute [local go_sem] build_pz build_fl build_f0
theorem build_alt (z:Int) (w:World):Sem.run Tryz.prog (Instr.build 49 #[(0,.int .i64 6),(1,.int .i64 z)]) w=.ok (.agg #[.int .i64 6,.int .i64 z,.int .i64 0,.int .i64 0,.int .i64 0,.int .i64 0,.int .i64 0,.string ⟨#[]⟩,.slice none 0 0,.slice none 0 0]) w:=run_build w 49 _ _ (by kernel_rfl)
attribute [local go_sem] build_alt build_part2
def altsR (bs:List UInt8) (inner:Option (St→Res Pt)) (st:St) (x:Pt) (s0:St) (l:F):Res Pt:=match altsF bs inner s0 l with
 | .error e=>.error e
 | .ok (l,st2)=>.ok (if l.len=1 then x else ⟨{ nd0 with kind:=6,from_:=st.pos,to_:=st2.pos },l⟩,st2)
def fltW (rb e n:Nat) (w:World):Nat:=match w.cell? ⟨e,0,none⟩ with
 | some (.int _ z)=>if z=0 then n-posW rb w+1 else 0
 | _=>0
def PE (lo:Nat) (nv v:Value) (e k:Nat):Prop:=Ok lo nv k∧v.ownBlock≠some k∧k≠e
section
variable {bs:List UInt8} {A:Option Addr} {cap:Nat} {w0:World} {rb nest base n m lo e g:Nat} {st st':St} {nv nv' v v':Value} {w W W':World} {xs ys:List Value} {row:Option Nat}
theorem fltW_ok {b:Value} (h:Blk w e 80 #[.int .i64 0,b]):fltW rb e n w=n-posW rb w+1:=by
 unfold fltW
 rw [show w.cell? ⟨e,0,none⟩=some (.int .i64 0) from h.cell 0]
 rfl
theorem fltW_bad {b:Value} {z:Int} (h:Blk w e 80 #[.int .i64 z,b]) (hz:z≠0):fltW rb e n w=0:=by
 unfold fltW
 rw [show w.cell? ⟨e,0,none⟩=some (.int .i64 z) from h.cell 0]
 simp only []
 rw [if_neg hz]
theorem slice_ne {k c:Nat} (h:k<g):(Value.slice (some ⟨g,0,none⟩) n c).ownBlock≠some k:=fun e=>by
 have e2:g=k:=Option.some.inj e
 omega
theorem keep13 (W:World) (g g2:Nat) (u0 u1 u2 u3 u4 u5 u6 u7 u8 u9 u10 a b:Value):W.heap.size≤(((((((((((((W.setCell ⟨g,0,none⟩ u0).setCell ⟨g,1,none⟩ u1).setCell ⟨g,2,none⟩ u2).setCell ⟨g,3,none⟩ u3).setCell ⟨g,4,none⟩ u4).setCell ⟨g,5,none⟩ u5).setCell ⟨g,6,none⟩ u6).setCell ⟨g,7,none⟩ u7).setCell ⟨g,8,none⟩ u8).setCell ⟨g,9,none⟩ u9).setCell ⟨g,10,none⟩ u10).setCell ⟨g2,0,none⟩ a).setCell ⟨g2,1,none⟩ b).heap.size∧∀ k,k<W.heap.size→k≠g→k≠g2→(((((((((((((W.setCell ⟨g,0,none⟩ u0).setCell ⟨g,1,none⟩ u1).setCell ⟨g,2,none⟩ u2).setCell ⟨g,3,none⟩ u3).setCell ⟨g,4,none⟩ u4).setCell ⟨g,5,none⟩ u5).setCell ⟨g,6,none⟩ u6).setCell ⟨g,7,none⟩ u7).setCell ⟨g,8,none⟩ u8).setCell ⟨g,9,none⟩ u9).setCell ⟨g,10,none⟩ u10).setCell ⟨g2,0,none⟩ a).setCell ⟨g2,1,none⟩ b).heap[k]?=W.heap[k]?:=by
 have h1:=grow11 W g u0 u1 u2 u3 u4 u5 u6 u7 u8 u9 u10
 have h2:=grow2 (((((((((((W.setCell ⟨g,0,none⟩ u0).setCell ⟨g,1,none⟩ u1).setCell ⟨g,2,none⟩ u2).setCell ⟨g,3,none⟩ u3).setCell ⟨g,4,none⟩ u4).setCell ⟨g,5,none⟩ u5).setCell ⟨g,6,none⟩ u6).setCell ⟨g,7,none⟩ u7).setCell ⟨g,8,none⟩ u8).setCell ⟨g,9,none⟩ u9).setCell ⟨g,10,none⟩ u10) g2 a b
 exact ⟨Nat.le_trans h1.size h2.size,fun k hk e1 e2=>(h2.block k (Nat.lt_of_lt_of_le hk h1.size) (fun e=>by injection e with e;exact e2 e)).trans (h1.block k hk (fun e=>by injection e with e;exact e1 e))⟩
theorem own_keep (ho:W.ownsRow base 78 11 v n xs) (hk:∀ k,v.ownBlock=some k→k<W.heap.size→W'.heap[k]?=W.heap[k]?):W'.ownsRow base 78 11 v n xs:=by
 refine ⟨ho.1,?_⟩
 rcases ho.2 with h2|⟨b,c,cur,e,h1,h2,h3⟩
 ·exact .inl h2
 ·have hlt:b<W.heap.size:=(Array.getElem?_eq_some_iff.1 h2).1
  exact .inr ⟨b,c,cur,e,h1,(hk b (by rw [e];rfl) hlt).trans h2,h3⟩
theorem own_mk {C:Array Value} (h:Blk W g 78 C) (hC:C.size=11) (hb:base≤g):W.ownsRow base 78 11 (.slice (some ⟨g,0,none⟩) 1 1) 1 C.toList:=by
 refine ⟨by simp [hC],.inr ⟨g,1,C,rfl,hb,h,Nat.le_refl _,by unfold maxLen;omega,by omega,?_⟩⟩
 rw [List.take_of_length_le (by simp [hC])]
theorem RL.app2 {F:F} {x:Pt} {C:Array Value} (hr:RL (PE lo nv v e) W F xs) (hx:PtV (PE lo nv v e) W x (.agg C)) (ha:AppW W W' v) (hv:v'.ownBlock=v.ownBlock∨∃ j,v'.ownBlock=some j∧W.heap.size≤j):RL (PE lo nv v' e) W' (F.app x) (xs++C.toList):=by
 have hk:∀ k,k<W.heap.size→PE lo nv v e k→W'.heap[k]?=W.heap[k]?∧PE lo nv v' e k:=fun k hk hP=>⟨ha.block k hk hP.2.1,hP.1,fun e=>by
  rcases hv with e2|⟨j,e2,hj⟩
  ·exact hP.2.1 (e2 ▸ e)
  ·rw [e2] at e;injection e with e;omega,hP.2.2⟩
 obtain ⟨L,lc,K,kc,hv2,h2,h3⟩:=hx.keep ha.size hk
 injection hv2 with hv2
 subst hv2
 exact RL.snoc h2 h3 (RL.keep ha.size hk hr)
theorem PtV.app2 {x:Pt} {u:Value} (hx:PtV (PE lo nv v e) W x u) (ha:AppW W W' v) (hv:v'.ownBlock=v.ownBlock∨∃ j,v'.ownBlock=some j∧W.heap.size≤j):PtV (PE lo nv v' e) W' x u:=
 hx.keep ha.size fun k hk hP=>⟨ha.block k hk hP.2.1,hP.1,fun e=>by
  rcases hv with e2|⟨j,e2,hj⟩
  ·exact hP.2.1 (e2 ▸ e)
  ·rw [e2] at e;injection e with e;omega,hP.2.2⟩
theorem GiveP.formF {r:Res Pt} {e:Ending} (h:GiveP bs A cap w0 rb nest nv w r e W):∃ (u0 u1 u2 u3 u4 u5 u6:Int) (s1:List UInt8) (L:Option Addr) (ln lc:Nat) (K:Option Addr) (kn kc:Nat) (fe fp:Nat) (st':St) (nv':Value),
  e=.returned (.tuple #[.agg #[.int .i64 u0,.int .i64 u1,.int .i64 u2,.int .i64 u3,.int .i64 u4,.int .i64 u5,.int .i64 u6,.string ⟨s1.toArray⟩,.slice L ln lc,.slice none 0 0,.slice K kn kc],.agg #[.int .i64 (fe:Int),.int .i64 (fp:Int)]])∧Left bs A cap w0 rb nest nv w st' nv' W∧((fe=0∧fp=0∧∃ x,r=.ok (x,st')∧PtV (Ok w.heap.size nv') W x (.agg #[.int .i64 u0,.int .i64 u1,.int .i64 u2,.int .i64 u3,.int .i64 u4,.int .i64 u5,.int .i64 u6,.string ⟨s1.toArray⟩,.slice L ln lc,.slice none 0 0,.slice K kn kc]))∨(fe≠0∧r=.error (fe,fp))):=by
 cases r with
 | error t=>
  obtain ⟨k,pl⟩:=t
  obtain ⟨hk,rfl,st',nv',hL⟩:=h
  exact ⟨0,0,0,0,0,0,0,[],none,0,0,none,0,0,k,pl,st',nv',rfl,hL,.inr ⟨hk,rfl⟩⟩
 | ok t=>
  obtain ⟨x,st'⟩:=t
  obtain ⟨v,nv',rfl,hp,hL⟩:=h
  obtain ⟨u0,u1,u2,u3,u4,u5,u6,s1,L,ln,lc,K,kn,kc,rfl,-⟩:=hp.form
  exact ⟨u0,u1,u2,u3,u4,u5,u6,s1,L,ln,lc,K,kn,kc,0,0,st',nv',rfl,hL,.inl ⟨rfl,rfl,x,rfl,hp⟩⟩
theorem RL.one {P:Nat→Prop} {x:Pt} {C:Array Value} (hx:PtV P W x (.agg C)):RL P W (.one x) C.toList:=by
 obtain ⟨L,lc,K,kc,hv,h2,h3⟩:=hx
 injection hv with hv
 subst hv
 exact ⟨L,lc,K,kc,[],by simp,h2,h3,rfl⟩
end
def BRel (bs:List UInt8) (A:Option Addr) (cap:Nat) (w0:World) (rb nest:Nat) (st:St) (nv:Value) (inner:Option (St→Res Pt)) (w:World) (g:Nat) (C0:Array Value) (v:Value) (wr:World):Prop:=
 ∃ (fe fp n:Nat) (s0:St) (nv':Value) (xs:List Value),Left bs A cap w0 rb nest nv w s0 nv' wr∧0<n∧n≤4098∧wr.ownsRow (g+1+1) 78 11 v n xs∧Blk wr w.heap.size 78 pz∧Blk wr (w.heap.size+1) 80 fz∧Blk wr (w.heap.size+1+1) 49 (nu 6 (st.pos:Int) 0 0 0 0 0 [] none 0 0)∧Blk wr g 78 C0∧Blk wr (g+1) 80 #[.int .i64 (fe:Int),.int .i64 (fp:Int)] ∧
  ((fe=0∧fp=0∧∃ x0 l,n=l.len∧n≤s0.pos+1∧altsP bs inner st=altsR bs inner st x0 s0 l∧RL (PE (w.heap.size+3) nv' v (g+1)) wr l xs∧PtV (PE (w.heap.size+3) nv' v (g+1)) wr x0 (.agg C0))∨(fe≠0∧altsP bs inner st=.error (fe,fp)))
theorem alternatives_any {bs:List UInt8} {A:Option Addr} {cap:Nat} {w0:World} {rb nest:Nat} {st:St} {nv:Value} {w:World} (h:Rd bs A cap w0 rb nest st nv w) (inner:Option (St→Res Pt)) (hfw:∀ i,inner=some i→Fwd bs i)
  (CA:∀ (s:St) W nv1,Rd bs A cap w0 rb nest s nv1 W→Calls Tryz.prog 34 #[Value.pointer (some ⟨rb,0,none⟩)] W (GiveP bs A cap w0 rb nest nv1 W (altP bs inner s))) :
  Calls Tryz.prog 32 #[Value.pointer (some ⟨rb,0,none⟩)] w (GiveP bs A cap w0 rb nest nv w (altsP bs inner st)):=by
 obtain ⟨hbb,HS,HKP,HKF,HB,HW,hlt,habv⟩:=pro h
 have CA:=hide CA
 have CS:=hide (fun W nv1 s (hr:Rd bs A cap w0 rb nest s nv1 W)=>stands_any hr [124] (by decide) (by decide))
 have HFW:=hide hfw
 have htop:=h.top
 have HPOS:=hide h.pos
 have HXE:=hide (show (((w.alloc (.cells pz 78)).alloc (.cells fz 80))).heap.size=w.heap.size+1+1 by simp)
 have q1:=(h.below hbb).c1
 clear h hbb hfw
 go_enter Tryz.func32,Tryz.ntmps32
 go_wp2_with fail
 generalize ((w.alloc (.cells pz 78)).alloc (.cells fz 80))=X at *
 have hXs:w.heap.size+2≤X.heap.size:=HKF.1.lt
 have HBY:=hide (HB.1.alloc (Nat.le_trans (by omega) hXs:w.heap.size≤X.heap.size) (.cells (nu 6 (st.pos:Int) 0 0 0 0 0 [] none 0 0) 49))
 have HSY:=hide (HS.1.1.below ((Below.refl X.heap.size X).alloc (Nat.le_refl _) (.cells (nu 6 (st.pos:Int) 0 0 0 0 0 [] none 0 0) 49)))
 have HKP:=hide (HKP.1.alloc (.cells (nu 6 (st.pos:Int) 0 0 0 0 0 [] none 0 0) 49))
 have HKF:=hide (HKF.1.alloc (.cells (nu 6 (st.pos:Int) 0 0 0 0 0 [] none 0 0) 49))
 have HKN:=hide (show Blk (X.alloc (.cells (nu 6 (st.pos:Int) 0 0 0 0 0 [] none 0 0) 49)) (w.heap.size+1+1) 49 (nu 6 (st.pos:Int) 0 0 0 0 0 [] none 0 0) from HXE.1 ▸ Blk.new X 49 (nu 6 (st.pos:Int) 0 0 0 0 0 [] none 0 0))
 clear HS HB HXE q1
 generalize (X.alloc (.cells (nu 6 (st.pos:Int) 0 0 0 0 0 [] none 0 0) 49))=Y at *
 have hYs:w.heap.size+3≤Y.heap.size:=HKN.1.lt
 refine (CA.1 _ _ _ HSY.1).mono ?_
 rintro e W6 hG
 obtain ⟨u0,u1,u2,u3,u4,u5,u6,s1,L,ln,lc,K,kn,kc,fe,fp,st6,nv6,rfl,hL6,hor⟩:=hG.formF
 have HL6:=hide (Left.from HBY.1 hL6)
 have HOR:=hide (show (fe=0∧fp=0∧∃ x,altsP bs inner st=altsR bs inner st x st6 (.one x)∧PtV (Ok Y.heap.size nv6) W6 x (.agg #[.int .i64 u0,.int .i64 u1,.int .i64 u2,.int .i64 u3,.int .i64 u4,.int .i64 u5,.int .i64 u6,.string ⟨s1.toArray⟩,.slice L ln lc,.slice none 0 0,.slice K kn kc]))∨(fe≠0∧altsP bs inner st=.error (fe,fp)) by
  rcases hor with ⟨h1,h2,x,hx,hp⟩|⟨h1,hx⟩
  ·exact .inl ⟨h1,h2,x,by unfold altsP altsR;rw [hx];rfl,hp⟩
  ·exact .inr ⟨h1,by unfold altsP;rw [hx]⟩)
 have h6s:=hL6.turn.size
 have hrY:=hL6.turn
 have HKP:=hide (Left.blk HSY.1 hL6 HKP.1 (by decide) (by omega))
 have HKF:=hide (Left.blk HSY.1 hL6 HKF.1 (by decide) (by omega))
 have HKN:=hide (Left.blk HSY.1 hL6 HKN.1 (by decide) (by omega))
 clear hG hor hL6 HSY HBY hrY
 have HB6:=hide (((((Below.refl W6.heap.size W6).alloc (Nat.le_refl _) (.cells (pu u0 u1 u2 u3 u4 u5 u6 s1 L ln lc K kn kc) 78)).alloc (by simp) (.cells #[.int .i64 (fe:Int),.int .i64 (fp:Int)] 80)).alloc (by simp;omega) (.cells (pu u0 u1 u2 u3 u4 u5 u6 s1 L ln lc K kn kc) 78)))
 have HC6:=hide (((Blk.new W6 78 (pu u0 u1 u2 u3 u4 u5 u6 s1 L ln lc K kn kc)).alloc (.cells #[.int .i64 (fe:Int),.int .i64 (fp:Int)] 80)).alloc (.cells (pu u0 u1 u2 u3 u4 u5 u6 s1 L ln lc K kn kc) 78))
 have HF6:=hide ((blk_at (W:=W6.alloc (.cells (pu u0 u1 u2 u3 u4 u5 u6 s1 L ln lc K kn kc) 78)) (g:=W6.heap.size+1) (t:=80) (cs:=#[.int .i64 (fe:Int),.int .i64 (fp:Int)]) (by simp)).alloc (.cells (pu u0 u1 u2 u3 u4 u5 u6 s1 L ln lc K kn kc) 78))
 have HO6:=hide (blk_at (W:=(W6.alloc (.cells (pu u0 u1 u2 u3 u4 u5 u6 s1 L ln lc K kn kc) 78)).alloc (.cells #[.int .i64 (fe:Int),.int .i64 (fp:Int)] 80)) (g:=W6.heap.size+1+1) (t:=78) (cs:=(pu u0 u1 u2 u3 u4 u5 u6 s1 L ln lc K kn kc)) (by simp))
 have h6a:=((Blk.new W6 78 (pu u0 u1 u2 u3 u4 u5 u6 s1 L ln lc K kn kc)).alloc (.cells #[.int .i64 (fe:Int),.int .i64 (fp:Int)] 80))
 obtain ⟨⟨p0,p1,p2,p3,p4,p5,p6,p7,p8,p9,p10⟩,-⟩:=cells11 h6a
 clear h6a
 go_wp2_with fail
 clear p0 p1 p2 p3 p4 p5 p6 p7 p8 p9 p10
 generalize (((W6.alloc (.cells (pu u0 u1 u2 u3 u4 u5 u6 s1 L ln lc K kn kc) 78)).alloc (.cells #[.int .i64 (fe:Int),.int .i64 (fp:Int)] 80)).alloc (.cells (pu u0 u1 u2 u3 u4 u5 u6 s1 L ln lc K kn kc) 78))=V at *
 have hV6:=HB6.1.size
 have hLV:=hide (HL6.1.below HB6.1)
 have HR0:=hide (show BRel bs A cap w0 rb nest st nv inner w W6.heap.size #[.int .i64 u0,.int .i64 u1,.int .i64 u2,.int .i64 u3,.int .i64 u4,.int .i64 u5,.int .i64 u6,.string ⟨s1.toArray⟩,.slice L ln lc,.slice none 0 0,.slice K kn kc] (.slice (some ⟨W6.heap.size+1+1,0,none⟩) 1 1) V from ⟨fe,fp,1,st6,nv6,_,hLV.1,by omega,by omega,own_mk HO6.1 rfl (Nat.le_refl _),HKP.1.below HB6.1 HKP.1.lt,HKF.1.below HB6.1 HKF.1.lt,HKN.1.below HB6.1 HKN.1.lt,HC6.1,HF6.1,by
  rcases HOR.1 with ⟨h1,h2,x,hx,hp⟩|h1
  ·refine .inl ⟨h1,h2,x,.one x,rfl,by omega,hx,?_,?_⟩
   ·exact RL.one (hp.keep HB6.1.size fun k hk hP=>⟨HB6.1.block k hk,⟨by have:=hP.1;omega,hP.2⟩,slice_ne (by omega),by omega⟩)
   ·exact hp.keep HB6.1.size fun k hk hP=>⟨HB6.1.block k hk,⟨by have:=hP.1;omega,hP.2⟩,slice_ne (by omega),by omega⟩
  ·exact .inr h1⟩)
 have HGS:=hide h6s
 obtain ⟨gb,hgb⟩:∃ gb,W6.heap.size=gb:=⟨_,rfl⟩
 rw [hgb] at HR0 h6s hV6
 clear HL6 HOR HKP HKF HKN HB6 HC6 HF6 HO6 hLV HPOS HGS
 rw [hgb]
 clear hgb
 go_wp2_with fail
 go_loopw [7] (fun v wr=>BRel bs A cap w0 rb nest st nv inner w gb #[.int .i64 u0,.int .i64 u1,.int .i64 u2,.int .i64 u3,.int .i64 u4,.int .i64 u5,.int .i64 u6,.string ⟨s1.toArray⟩,.slice L ln lc,.slice none 0 0,.slice K kn kc] v wr) (fun _ wr=>fltW rb (gb+1) bs.length wr)
 case atStart=>exact HR0.1
 case round=>
  obtain ⟨v,hv⟩:∃ v,v=u7:=⟨_,rfl⟩
  subst hv
  obtain ⟨fe1,fp1,n,s0,nv',xs,hL,hn0,hn1,ho,hk,hf,hN,hC,hF,hor⟩:=hrel
  go_hideQ
  clear HR0
  have hpw:=posW_eq hL.rd
  have hwr:=hL.turn.size
  have hgw:gb+1<wr.heap.size:=hF.lt
  have HL:=hide hL
  have HO:=hide ho
  have HK:=hide hk
  have HKF:=hide hf
  have HKN:=hide hN
  have HKC:=hide hC
  clear hL ho hk hf hN hC
  rcases hor with ⟨h1,h2,x0,l,hnl,hnp,hA,hRL,hPX⟩|⟨h1,hA⟩
  ·subst h1
   subst h2
   have HF:=hide (show Blk wr (gb+1) 80 fz from hF)
   have HM:=hide (fltW_ok (rb:=rb) (n:=bs.length) HF.1)
   have HPW:=hide hpw
   have HRL:=hide hRL
   have HPX:=hide hPX
   have HNL:=hide hnl
   have HA:=hide hA
   clear hF hRL hPX hA hpw hnl
   obtain ⟨⟨f20,f21⟩,g20,g21⟩:=cells2 HF.1
   clear f21 g20 g21
   cases hs:stB bs s0.pos [124] with
   | false=>
    have CE:=hide (CS.1 wr nv' s0 HL.1.rd)
    rw [hs] at CE
    have HSA:=hide (show stA bs s0.pos [124]=false from (stB_is [124] bs s0.pos (by decide)).symm.trans hs)
    clear hs
    go_wp2_with fail
    refine CE.1.mono ?_
    rintro e W1 ⟨rfl,hb1⟩
    clear f20 CE CS CA
    have HL1:=hide (HL.1.below hb1)
    have HO1:=hide (own_bel HO.1 hb1)
    have HK1:=hide (HK.1.below hb1 HK.1.lt)
    have HKF1:=hide (HKF.1.below hb1 HKF.1.lt)
    have HKN1:=hide (HKN.1.below hb1 HKN.1.lt)
    have HKC1:=hide (HKC.1.below hb1 HKC.1.lt)
    have HF1:=hide (HF.1.below hb1 HF.1.lt)
    have HB1:=hide hb1
    have HALT:=hide (show altsP bs inner st=.ok (if l.len=1 then x0 else ⟨{ nd0 with kind:=6,from_:=st.pos,to_:=s0.pos },l⟩,s0) by rw [HA.1];unfold altsR;rw [alts_end HSA.1])
    clear hb1 HK HKF HKN HKC HF HL HO HSA HA
    obtain ⟨⟨f20,f21⟩,-⟩:=cells2 HF1.1
    obtain ⟨⟨p0,p1,p2,p3,p4,p5,p6,p7,p8,p9,p10⟩,-⟩:=cells11 HKC1.1
    obtain ⟨bb,cn,hvv,hbb,hcs⟩:=own_cells HO1.1 hn0
    have hcn:=own_cap HO1.1 hvv
    have hlt1:=HK1.1.lt
    subst hvv
    by_cases hn:n=1
    ·have HALT2:=hide (show altsP bs inner st=.ok (x0,s0) by rw [HALT.1,if_pos (HNL.1.symm.trans hn)])
     have HP1:=hide (show PtV (Ok (w.heap.size+2) nv') W1 x0 (.agg #[.int .i64 u0,.int .i64 u1,.int .i64 u2,.int .i64 u3,.int .i64 u4,.int .i64 u5,.int .i64 u6,.string ⟨s1.toArray⟩,.slice L ln lc,.slice none 0 0,.slice K kn kc]) from HPX.1.keep HB1.1.size fun k hk hP=>⟨HB1.1.block k hk,by have:=hP.1.1;omega,hP.1.2⟩)
     clear HALT HNL hcs
     subst hn
     obtain ⟨⟨y0,y1,y2,y3,y4,y5,y6,y7,y8,y9,y10⟩,z0,z1,z2,z3,z4,z5,z6,z7,z8,z9,z10⟩:=cells11 HK1.1
     obtain ⟨⟨u20,u21⟩,v20,v21⟩:=cells2 HKF1.1
     go_wp2_with fail
     (try simp only [Exit.inBlock,Exit.then])
     have hq:=blk13 HK1.1 HKF1.1 (by omega) rfl rfl
     exact bodyPost_ret (rcc rfl w.heap.size (w.heap.size+1) rfl rfl (hq _ _ _ _ _ _ _ _ _ _ _ _ _)) rfl (by rw [HALT2.1];exact ⟨_,nv',rfl,(HP1.1.set13 (by omega) (by omega) _ _ _ _ _ _ _ _ _ _ _ _ _).lower (by omega),HL1.1.set13 HK1.1 HKF1.1 hlt (Nat.le_refl _) (by omega) (by omega) _ _ _ _ _ _ _ _ _ _ _ _ _⟩)
    ·have HALT2:=hide (show altsP bs inner st=.ok (⟨{ nd0 with kind:=6,from_:=st.pos,to_:=s0.pos },l⟩,s0) by rw [HALT.1,if_neg (fun e=>hn (HNL.1.trans e))])
     have en:((n:Int)==1)=false:=by rw [beq_eq_false_iff_ne];omega
     have hbl:gb+1+1≤bb:=(own_lt HO1.1 rfl).1
     have hgb3:w.heap.size+3≤gb:=by omega
     have hok:Ok (w.heap.size+2) nv' bb:=⟨by omega,fun e=>by
      rcases own_two_ne HO1.1 HL1.1.rd.own (by decide) with hq|hq
      ·cases hq
      ·exact hq (by rw [e];rfl)⟩
     have hss:W1.heap.size≤(W1.setCell ⟨w.heap.size+1+1,2,none⟩ (.int .i64 (s0.pos:Int))).heap.size:=by simp [World.setCell]
     have hne:∀ k,k≠w.heap.size+1+1→(W1.setCell ⟨w.heap.size+1+1,2,none⟩ (.int .i64 (s0.pos:Int))).heap[k]?=W1.heap[k]?:=fun k hk=>Below.heap_setCell W1 ⟨w.heap.size+1+1,2,none⟩ _ k hk
     have hrow1:Row (PE (w.heap.size+3) nv' (.slice (some ⟨bb,0,none⟩) n cn) (gb+1)) W1 l bb 0:=RL.row (b:=bb) (o:=0) (RL.keep HB1.1.size (fun k hk hP=>⟨HB1.1.block k hk,hP⟩) HRL.1) (fun j u hu=>by rw [Nat.zero_add];exact hcs j u hu)
     have hrow2:Row (Ok (w.heap.size+2) nv') (W1.setCell ⟨w.heap.size+1+1,2,none⟩ (.int .i64 (s0.pos:Int))) l bb 0:=Row.keep hss (fun k hk hP=>⟨hne k (by have:=hP.1.1;omega),by have:=hP.1.1;omega,hP.1.2⟩) (hne bb (by omega)) hrow1
     have HP2:=hide (show PtV (Ok (w.heap.size+2) nv') (W1.setCell ⟨w.heap.size+1+1,2,none⟩ (.int .i64 (s0.pos:Int))) ⟨{ nd0 with kind:=6,from_:=st.pos,to_:=s0.pos },l⟩ (.agg (ptC 6 st.pos s0.pos 0 0 0 0 [] none 0 0 (some ⟨bb,0,none⟩) n cn)) from ⟨none,0,some ⟨bb,0,none⟩,cn,congrArg (fun z=>Value.agg (ptC 6 st.pos s0.pos 0 0 0 0 [] none 0 0 (some ⟨bb,0,none⟩) z cn)) HNL.1,SetV.nil _ _,HNL.1 ▸ hcn.1,hcn.2,.inr ⟨bb,0,rfl,hok,Nat.lt_of_lt_of_le hbb hss,hrow2⟩⟩)
     have HL2:=hide (HL1.1.set1 HKN1.1 (by decide) (show w.heap.size≤w.heap.size+1+1 by omega) hlt (i:=2) (.int .i64 (s0.pos:Int)))
     have HK2:=hide (HK1.1.far (p:=⟨w.heap.size+1+1,2,none⟩) (show w.heap.size≠w.heap.size+1+1 by omega) (.int .i64 (s0.pos:Int)))
     have HKF2:=hide (HKF1.1.far (p:=⟨w.heap.size+1+1,2,none⟩) (show w.heap.size+1≠w.heap.size+1+1 by omega) (.int .i64 (s0.pos:Int)))
     have HKN2:=hide (show Blk (W1.setCell ⟨w.heap.size+1+1,2,none⟩ (.int .i64 (s0.pos:Int))) (w.heap.size+1+1) 49 (nu 6 (st.pos:Int) (s0.pos:Int) 0 0 0 0 [] none 0 0) from HKN1.1.set_ 2 _)
     have m1:=(HL1.1.rd.blk.cell 1).trans (show _=some (Value.int .i64 (s0.pos:Int)) from rfl)
     clear HALT HNL hcs hrow1 hrow2 hok hne
     obtain ⟨⟨c0,c1,c2,c3,c4,c5,c6,c7,c8,c9⟩,d0,d1,d2,d3,d4,d5,d6,d7,d8,d9⟩:=cells10 HKN1.1
     clear c0 c1 c3 c4 c5 c6 c7 c8 c9 d0 d1 d3 d4 d5 d6 d7 d8 d9
     obtain ⟨⟨y0,y1,y2,y3,y4,y5,y6,y7,y8,y9,y10⟩,z0,z1,z2,z3,z4,z5,z6,z7,z8,z9,z10⟩:=cells11 HK2.1
     obtain ⟨⟨u20,u21⟩,v20,v21⟩:=cells2 HKF2.1
     obtain ⟨⟨n0,n1,n2,n3,n4,n5,n6,n7,n8,n9⟩,-⟩:=cells10 HKN2.1
     go_wp2_with fail
     (try simp only [Exit.inBlock,Exit.then])
     have hq:=blk13 HK2.1 HKF2.1 (by omega) rfl rfl
     exact bodyPost_ret (rcc rfl w.heap.size (w.heap.size+1) rfl rfl (hq _ _ _ _ _ _ _ _ _ _ _ _ _)) rfl (by rw [HALT2.1];exact ⟨_,nv',rfl,(HP2.1.set13 (by omega) (by omega) _ _ _ _ _ _ _ _ _ _ _ _ _).lower (by omega),HL2.1.set13 HK2.1 HKF2.1 hlt (Nat.le_refl _) (by omega) (by omega) _ _ _ _ _ _ _ _ _ _ _ _ _⟩)
   | true=>
    have CE:=hide (CS.1 wr nv' s0 HL.1.rd)
    rw [hs] at CE
    have HSA:=hide (show stA bs s0.pos [124]=true from (stB_is [124] bs s0.pos (by decide)).symm.trans hs)
    have hsl:s0.pos+1≤bs.length:=stA_len [124] s0.pos (by decide) (by decide) HSA.1
    clear hs
    go_wp2_with fail
    refine CE.1.mono ?_
    rintro e W1 ⟨rfl,hb1⟩
    clear f20 CE CS
    have HL1:=hide (HL.1.below hb1)
    have HO1:=hide (own_bel HO.1 hb1)
    have HK1:=hide (HK.1.below hb1 HK.1.lt)
    have HKF1:=hide (HKF.1.below hb1 HKF.1.lt)
    have HKN1:=hide (HKN.1.below hb1 HKN.1.lt)
    have HKC1:=hide (HKC.1.below hb1 HKC.1.lt)
    have HF1:=hide (HF.1.below hb1 HF.1.lt)
    have HRL1:=hide (RL.keep hb1.size (fun k hk hP=>⟨hb1.block k hk,hP⟩) HRL.1)
    have HPX1:=hide (HPX.1.keep hb1.size fun k hk hP=>⟨hb1.block k hk,hP⟩)
    have h1s:=hb1.size
    have hgb3:w.heap.size+3≤gb:=by omega
    have hvb:=fun k (e:v.ownBlock=some k)=>own_lt HO1.1 e
    have HVB:=hide hvb
    clear hb1 HK HKF HKN HKC HF HL HO hvb HRL HPX
    have hbV:Below W1.heap.size W1 (W1.alloc (.cells pz 78)):=(Below.refl W1.heap.size W1).alloc (Nat.le_refl _) (.cells pz 78)
    have hRV:=HL1.1.rd.below hbV
    have hw1:IntKind.i64.wrap ((s0.pos:Int)+1)=(s0.pos:Int)+1:=Rs.wrap_id _ (by omega) (by omega)
    have m1:=hRV.blk.cell 1 |>.trans (show _=some (Value.int .i64 (s0.pos:Int)) from rfl)
    have mf:=hRV.blk.frozen 1
    have HSV:=hide (Rd.store hRV 1 (.int .i64 ((s0.pos:Int)+1)) (st':={ s0 with pos:=s0.pos+1 }) (nest':=nest) rfl hsl hRV.deep rfl)
    have HLV:=hide (show Left bs A cap w0 rb nest nv' W1 { s0 with pos:=s0.pos+1 } nv' ((W1.alloc (.cells pz 78)).setCell ⟨rb,1,none⟩ (.int .i64 ((s0.pos:Int)+1))) from ⟨HSV.1,turn_set (Turn.of_below hbV) _,Nw.refl _ _⟩)
    have HGK:=hide ((Blk.new W1 78 pz).far (p:=⟨rb,1,none⟩) (show W1.heap.size≠rb by omega) (.int .i64 ((s0.pos:Int)+1)))
    clear hbV hRV
    go_wp2_with fail
    clear m1 mf hw1
    generalize ((W1.alloc (.cells pz 78)).setCell ⟨rb,1,none⟩ (.int .i64 ((s0.pos:Int)+1)))=V2 at *
    have hV2:W1.heap.size+1≤V2.heap.size:=HGK.1.lt
    refine (CA.1 _ _ _ HSV.1).mono ?_
    rintro e W6 hG
    obtain ⟨a0,a1,a2,a3,a4,a5,a6,s2,L2,ln2,lc2,K2,kn2,kc2,fe2,fp2,st2,nv2,rfl,hL6,hor⟩:=hG.formF
    have HOR2:=hide hor
    have h6s2:=hL6.turn.size
    have HL16:=hide (HLV.1.then hL6)
    have HGK6:=hide (Left.blk HSV.1 hL6 HGK.1 (by decide) (by omega))
    have HK6:=Left.blk HL1.1.rd HL16.1 HK1.1 (by decide) (by omega)
    have HKF6:=Left.blk HL1.1.rd HL16.1 HKF1.1 (by decide) (by omega)
    have HKN6:=Left.blk HL1.1.rd HL16.1 HKN1.1 (by decide) (by omega)
    have HKC6:=Left.blk HL1.1.rd HL16.1 HKC1.1 (by decide) (by omega)
    have HF6:=hide (Left.blk HL1.1.rd HL16.1 HF1.1 (by decide) (by omega))
    have HO6:=own_left HO1.1 HL1.1.rd HL16.1 (by omega)
    have hKP:=keep13 W6 W1.heap.size (gb+1) (.int .i64 a0) (.int .i64 a1) (.int .i64 a2) (.int .i64 a3) (.int .i64 a4) (.int .i64 a5) (.int .i64 a6) (.string ⟨s2.toArray⟩) (.slice L2 ln2 lc2) (.slice none 0 0) (.slice K2 kn2 kc2) (.int .i64 (fe2:Int)) (.int .i64 (fp2:Int))
    have HLU:=hide ((HL1.1.then HL16.1).set13 HGK6.1 HF6.1 hlt (by omega) (by omega) (by omega) (.int .i64 a0) (.int .i64 a1) (.int .i64 a2) (.int .i64 a3) (.int .i64 a4) (.int .i64 a5) (.int .i64 a6) (.string ⟨s2.toArray⟩) (.slice L2 ln2 lc2) (.slice none 0 0) (.slice K2 kn2 kc2) (.int .i64 (fe2:Int)) (.int .i64 (fp2:Int)))
    have HKU:=hide (far2 (far11 HK6 (show w.heap.size≠W1.heap.size by omega) (.int .i64 a0) (.int .i64 a1) (.int .i64 a2) (.int .i64 a3) (.int .i64 a4) (.int .i64 a5) (.int .i64 a6) (.string ⟨s2.toArray⟩) (.slice L2 ln2 lc2) (.slice none 0 0) (.slice K2 kn2 kc2)) (show w.heap.size≠gb+1 by omega) (.int .i64 (fe2:Int)) (.int .i64 (fp2:Int)))
    have HKFU:=hide (far2 (far11 HKF6 (show w.heap.size+1≠W1.heap.size by omega) (.int .i64 a0) (.int .i64 a1) (.int .i64 a2) (.int .i64 a3) (.int .i64 a4) (.int .i64 a5) (.int .i64 a6) (.string ⟨s2.toArray⟩) (.slice L2 ln2 lc2) (.slice none 0 0) (.slice K2 kn2 kc2)) (show w.heap.size+1≠gb+1 by omega) (.int .i64 (fe2:Int)) (.int .i64 (fp2:Int)))
    have HKNU:=hide (far2 (far11 HKN6 (show w.heap.size+1+1≠W1.heap.size by omega) (.int .i64 a0) (.int .i64 a1) (.int .i64 a2) (.int .i64 a3) (.int .i64 a4) (.int .i64 a5) (.int .i64 a6) (.string ⟨s2.toArray⟩) (.slice L2 ln2 lc2) (.slice none 0 0) (.slice K2 kn2 kc2)) (show w.heap.size+1+1≠gb+1 by omega) (.int .i64 (fe2:Int)) (.int .i64 (fp2:Int)))
    have HKCU:=hide (far2 (far11 HKC6 (show gb≠W1.heap.size by omega) (.int .i64 a0) (.int .i64 a1) (.int .i64 a2) (.int .i64 a3) (.int .i64 a4) (.int .i64 a5) (.int .i64 a6) (.string ⟨s2.toArray⟩) (.slice L2 ln2 lc2) (.slice none 0 0) (.slice K2 kn2 kc2)) (show gb≠gb+1 by omega) (.int .i64 (fe2:Int)) (.int .i64 (fp2:Int)))
    have hFA:=far11 HF6.1 (show gb+1≠W1.heap.size by omega) (.int .i64 a0) (.int .i64 a1) (.int .i64 a2) (.int .i64 a3) (.int .i64 a4) (.int .i64 a5) (.int .i64 a6) (.string ⟨s2.toArray⟩) (.slice L2 ln2 lc2) (.slice none 0 0) (.slice K2 kn2 kc2)
    have HFU:=hide (show Blk (((((((((((((W6.setCell ⟨W1.heap.size,0,none⟩ (.int .i64 a0)).setCell ⟨W1.heap.size,1,none⟩ (.int .i64 a1)).setCell ⟨W1.heap.size,2,none⟩ (.int .i64 a2)).setCell ⟨W1.heap.size,3,none⟩ (.int .i64 a3)).setCell ⟨W1.heap.size,4,none⟩ (.int .i64 a4)).setCell ⟨W1.heap.size,5,none⟩ (.int .i64 a5)).setCell ⟨W1.heap.size,6,none⟩ (.int .i64 a6)).setCell ⟨W1.heap.size,7,none⟩ (.string ⟨s2.toArray⟩)).setCell ⟨W1.heap.size,8,none⟩ (.slice L2 ln2 lc2)).setCell ⟨W1.heap.size,9,none⟩ (.slice none 0 0)).setCell ⟨W1.heap.size,10,none⟩ (.slice K2 kn2 kc2)).setCell ⟨(gb+1),0,none⟩ (.int .i64 (fe2:Int))).setCell ⟨(gb+1),1,none⟩ (.int .i64 (fp2:Int))) (gb+1) 80 #[.int .i64 (fe2:Int),.int .i64 (fp2:Int)] from (hFA.set_ 0 _).set_ 1 _)
    have hGU:=far2 (set11 HGK6.1 (.int .i64 a0) (.int .i64 a1) (.int .i64 a2) (.int .i64 a3) (.int .i64 a4) (.int .i64 a5) (.int .i64 a6) (.string ⟨s2.toArray⟩) (.slice L2 ln2 lc2) (.slice none 0 0) (.slice K2 kn2 kc2)) (show W1.heap.size≠gb+1 by omega) (.int .i64 (fe2:Int)) (.int .i64 (fp2:Int))
    have HOU:=hide (own_keep (W':=(((((((((((((W6.setCell ⟨W1.heap.size,0,none⟩ (.int .i64 a0)).setCell ⟨W1.heap.size,1,none⟩ (.int .i64 a1)).setCell ⟨W1.heap.size,2,none⟩ (.int .i64 a2)).setCell ⟨W1.heap.size,3,none⟩ (.int .i64 a3)).setCell ⟨W1.heap.size,4,none⟩ (.int .i64 a4)).setCell ⟨W1.heap.size,5,none⟩ (.int .i64 a5)).setCell ⟨W1.heap.size,6,none⟩ (.int .i64 a6)).setCell ⟨W1.heap.size,7,none⟩ (.string ⟨s2.toArray⟩)).setCell ⟨W1.heap.size,8,none⟩ (.slice L2 ln2 lc2)).setCell ⟨W1.heap.size,9,none⟩ (.slice none 0 0)).setCell ⟨W1.heap.size,10,none⟩ (.slice K2 kn2 kc2)).setCell ⟨(gb+1),0,none⟩ (.int .i64 (fe2:Int))).setCell ⟨(gb+1),1,none⟩ (.int .i64 (fp2:Int)))) HO6 fun k e hk=>hKP.2 k hk (by have:=HVB.1 k e;omega) (by have:=HVB.1 k e;omega))
    have hkk:∀ k,k<W1.heap.size→PE (w.heap.size+3) nv' v (gb+1) k→((((((((((((((W6.setCell ⟨W1.heap.size,0,none⟩ (.int .i64 a0)).setCell ⟨W1.heap.size,1,none⟩ (.int .i64 a1)).setCell ⟨W1.heap.size,2,none⟩ (.int .i64 a2)).setCell ⟨W1.heap.size,3,none⟩ (.int .i64 a3)).setCell ⟨W1.heap.size,4,none⟩ (.int .i64 a4)).setCell ⟨W1.heap.size,5,none⟩ (.int .i64 a5)).setCell ⟨W1.heap.size,6,none⟩ (.int .i64 a6)).setCell ⟨W1.heap.size,7,none⟩ (.string ⟨s2.toArray⟩)).setCell ⟨W1.heap.size,8,none⟩ (.slice L2 ln2 lc2)).setCell ⟨W1.heap.size,9,none⟩ (.slice none 0 0)).setCell ⟨W1.heap.size,10,none⟩ (.slice K2 kn2 kc2)).setCell ⟨(gb+1),0,none⟩ (.int .i64 (fe2:Int))).setCell ⟨(gb+1),1,none⟩ (.int .i64 (fp2:Int)))).heap[k]?=W1.heap[k]?∧PE (w.heap.size+3) nv2 v (gb+1) k:=fun k hk hP=>by
     have h5:=HL16.1.turn.keeps HL16.1.nw (show rb<w.heap.size+3 by omega) k hk hP.1
     exact ⟨(hKP.2 k (by omega) (by omega) hP.2.2).trans h5.1,h5.2,hP.2⟩
    have hsz:W1.heap.size≤((((((((((((((W6.setCell ⟨W1.heap.size,0,none⟩ (.int .i64 a0)).setCell ⟨W1.heap.size,1,none⟩ (.int .i64 a1)).setCell ⟨W1.heap.size,2,none⟩ (.int .i64 a2)).setCell ⟨W1.heap.size,3,none⟩ (.int .i64 a3)).setCell ⟨W1.heap.size,4,none⟩ (.int .i64 a4)).setCell ⟨W1.heap.size,5,none⟩ (.int .i64 a5)).setCell ⟨W1.heap.size,6,none⟩ (.int .i64 a6)).setCell ⟨W1.heap.size,7,none⟩ (.string ⟨s2.toArray⟩)).setCell ⟨W1.heap.size,8,none⟩ (.slice L2 ln2 lc2)).setCell ⟨W1.heap.size,9,none⟩ (.slice none 0 0)).setCell ⟨W1.heap.size,10,none⟩ (.slice K2 kn2 kc2)).setCell ⟨(gb+1),0,none⟩ (.int .i64 (fe2:Int))).setCell ⟨(gb+1),1,none⟩ (.int .i64 (fp2:Int)))).heap.size:=Nat.le_trans (by omega) hKP.1
    have HRLU:=hide (RL.keep hsz hkk HRL1.1)
    have HPXU:=hide (HPX1.1.keep hsz hkk)
    have HPKU:=hide (show ∀ x,PtV (Ok V2.heap.size nv2) W6 x (.agg #[.int .i64 a0,.int .i64 a1,.int .i64 a2,.int .i64 a3,.int .i64 a4,.int .i64 a5,.int .i64 a6,.string ⟨s2.toArray⟩,.slice L2 ln2 lc2,.slice none 0 0,.slice K2 kn2 kc2])→PtV (PE (w.heap.size+3) nv2 v (gb+1)) (((((((((((((W6.setCell ⟨W1.heap.size,0,none⟩ (.int .i64 a0)).setCell ⟨W1.heap.size,1,none⟩ (.int .i64 a1)).setCell ⟨W1.heap.size,2,none⟩ (.int .i64 a2)).setCell ⟨W1.heap.size,3,none⟩ (.int .i64 a3)).setCell ⟨W1.heap.size,4,none⟩ (.int .i64 a4)).setCell ⟨W1.heap.size,5,none⟩ (.int .i64 a5)).setCell ⟨W1.heap.size,6,none⟩ (.int .i64 a6)).setCell ⟨W1.heap.size,7,none⟩ (.string ⟨s2.toArray⟩)).setCell ⟨W1.heap.size,8,none⟩ (.slice L2 ln2 lc2)).setCell ⟨W1.heap.size,9,none⟩ (.slice none 0 0)).setCell ⟨W1.heap.size,10,none⟩ (.slice K2 kn2 kc2)).setCell ⟨(gb+1),0,none⟩ (.int .i64 (fe2:Int))).setCell ⟨(gb+1),1,none⟩ (.int .i64 (fp2:Int))) x (.agg #[.int .i64 a0,.int .i64 a1,.int .i64 a2,.int .i64 a3,.int .i64 a4,.int .i64 a5,.int .i64 a6,.string ⟨s2.toArray⟩,.slice L2 ln2 lc2,.slice none 0 0,.slice K2 kn2 kc2]) from fun x hp=>hp.keep hKP.1 fun k hk hP=>⟨hKP.2 k hk (by have:=hP.1;omega) (by have:=hP.1;omega),⟨by have:=hP.1;omega,hP.2⟩,fun e=>by have:=HVB.1 k e;have:=hP.1;omega,by have:=hP.1;omega⟩)
    obtain ⟨⟨y0,y1,y2,y3,y4,y5,y6,y7,y8,y9,y10⟩,z0,z1,z2,z3,z4,z5,z6,z7,z8,z9,z10⟩:=cells11 HGK6.1
    obtain ⟨⟨u20,u21⟩,v20,v21⟩:=cells2 HF6.1
    obtain ⟨⟨r20,r21⟩,q20,q21⟩:=cells2 hFA
    obtain ⟨⟨p0,p1,p2,p3,p4,p5,p6,p7,p8,p9,p10⟩,-⟩:=cells11 hGU
    clear hG hor hL6 HSV HLV HGK HK6 HKF6 HKN6 HKC6 HO6 hKP hFA hGU hkk hsz HK1 HKF1 HKN1 HKC1 HF1 HRL1 HPX1 CA
    go_wp2_with (at_builtin;refine wp_app_pt (base:=gb+1+1) (n:=n) (xs:=xs) (v:=v) rfl (by simp [Value.oneCell']) rfl rfl rfl rfl (by simp [World.setCell]) HOU.1 (by simp [World.setCell];omega) (by omega) ?_;intro v7 w7 hv7 ho7 ha7 hb7;have HV7:=hide hv7;have HO7:=hide ho7;have HA7:=hide ha7;have HB7:=hide hb7;clear hv7 ho7 ha7 hb7)
    clear p0 p1 p2 p3 p4 p5 p6 p7 p8 p9 p10 y0 y1 y2 y3 y4 y5 y6 y7 y8 y9 y10 z0 z1 z2 z3 z4 z5 z6 z7 z8 z9 z10 u20 u21 v20 v21 r20 r21 q20 q21
    generalize (((((((((((((W6.setCell ⟨W1.heap.size,0,none⟩ (.int .i64 a0)).setCell ⟨W1.heap.size,1,none⟩ (.int .i64 a1)).setCell ⟨W1.heap.size,2,none⟩ (.int .i64 a2)).setCell ⟨W1.heap.size,3,none⟩ (.int .i64 a3)).setCell ⟨W1.heap.size,4,none⟩ (.int .i64 a4)).setCell ⟨W1.heap.size,5,none⟩ (.int .i64 a5)).setCell ⟨W1.heap.size,6,none⟩ (.int .i64 a6)).setCell ⟨W1.heap.size,7,none⟩ (.string ⟨s2.toArray⟩)).setCell ⟨W1.heap.size,8,none⟩ (.slice L2 ln2 lc2)).setCell ⟨W1.heap.size,9,none⟩ (.slice none 0 0)).setCell ⟨W1.heap.size,10,none⟩ (.slice K2 kn2 kc2)).setCell ⟨(gb+1),0,none⟩ (.int .i64 (fe2:Int))).setCell ⟨(gb+1),1,none⟩ (.int .i64 (fp2:Int)))=U at *
    have HL7:=hide (HLU.1.app HA7.1 HOU.1 (by omega) (by omega))
    have HF7:=hide (HA7.1.blk HOU.1 HFU.1 (by omega))
    have hR:BRel bs A cap w0 rb nest st nv inner w gb #[.int .i64 u0,.int .i64 u1,.int .i64 u2,.int .i64 u3,.int .i64 u4,.int .i64 u5,.int .i64 u6,.string ⟨s1.toArray⟩,.slice L ln lc,.slice none 0 0,.slice K kn kc] v7 w7:=⟨fe2,fp2,n+1,st2,nv2,_,HL7.1,by omega,by omega,HO7.1,HA7.1.blk HOU.1 HKU.1 (by omega),HA7.1.blk HOU.1 HKFU.1 (by omega),HA7.1.blk HOU.1 HKNU.1 (by omega),HA7.1.blk HOU.1 HKCU.1 (by omega),HF7.1,by
     rcases HOR2.1 with ⟨h1,h2,x,hx,hp⟩|⟨h1,hx⟩
     ·have hon:=alt_on HFW.1 _ (Nat.le_refl _) (show (St.mk (s0.pos+1) s0.fl s0.names).pos≤bs.length from hsl) hx
      refine .inl ⟨h1,h2,x0,l.app x,by rw [F.len_app',← HNL.1],by have:=hon.1;simp only [] at this;omega,?_,RL.app2 HRLU.1 (HPKU.1 x hp) HA7.1 HB7.1,PtV.app2 HPXU.1 HA7.1 HB7.1⟩
      rw [HA.1];unfold altsR;rw [alts_step HFW.1 HSA.1 hx]
     ·refine .inr ⟨h1,?_⟩
      rw [HA.1];unfold altsR;rw [alts_bad HSA.1 hx]⟩
    have hMM:fltW rb (gb+1) bs.length w7<fltW rb (gb+1) bs.length wr:=by
     rw [HM.1,HPW.1]
     rcases HOR2.1 with ⟨h1,h2,x,hx,hp⟩|⟨h1,hx⟩
     ·have hon:=alt_on HFW.1 _ (Nat.le_refl _) (show (St.mk (s0.pos+1) s0.fl s0.names).pos≤bs.length from hsl) hx
      have hf7:=HF7.1
      rw [h1] at hf7
      have:=hon.1
      simp only [] at this
      rw [fltW_ok (rb:=rb) (n:=bs.length) hf7,posW_eq HL7.1.rd]
      omega
     ·rw [fltW_bad HF7.1 (by omega)]
      omega
    go_wp2_with fail
    first|exact ⟨hR,hMM⟩|exact ⟨hR,by simpa using hMM⟩|(go_roundw;all_goals first|exact hR|exact hMM|(simp [intOf];omega))
  ·have e0:((fe1:Int)==0)=false:=by rw [beq_eq_false_iff_ne];omega
   have e1:((fe1:Int) != 0)=true:=by rw [bne_iff_ne];omega
   have hk0:=hide h1
   have HF:=hide hF
   have HALT:=hide hA
   clear hF hA h1 hpw CA CS
   have hff:=err_facts HK.1 HKF.1 HF.1 (by omega) (by omega)
   obtain ⟨⟨f20,f21⟩,-⟩:=cells2 HF.1
   obtain ⟨-,⟨b0,b1⟩⟩:=hff (.int .i64 0) (.int .i64 0) (.int .i64 0) (.int .i64 0) (.int .i64 0) (.int .i64 0) (.int .i64 0) (.string ⟨#[]⟩) (.slice none 0 0) (.slice none 0 0) (.slice none 0 0)
   obtain ⟨⟨y0,y1,y2,y3,y4,y5,y6,y7,y8,y9,y10⟩,z0,z1,z2,z3,z4,z5,z6,z7,z8,z9,z10⟩:=cells11 HK.1
   obtain ⟨⟨u20,u21⟩,v20,v21⟩:=cells2 HKF.1
   obtain ⟨⟨p20,p21⟩,q20,q21⟩:=cells2 (far11 HKF.1 (show w.heap.size+1≠w.heap.size by omega) (.int .i64 0) (.int .i64 0) (.int .i64 0) (.int .i64 0) (.int .i64 0) (.int .i64 0) (.int .i64 0) (.string ⟨#[]⟩) (.slice none 0 0) (.slice none 0 0) (.slice none 0 0))
   clear hff
   go_wp2_with fail
   go_region
   all_goals
    go_wp2_with fail
    (try simp only [Exit.inBlock,Exit.then])
    have hq:=blk13 HK.1 HKF.1 (by omega) rfl rfl
    exact bodyPost_ret (rcc rfl w.heap.size (w.heap.size+1) rfl rfl ⟨(hq _ _ _ _ _ _ _ _ _ _ _ _ _).1.drew,(hq _ _ _ _ _ _ _ _ _ _ _ _ _).2.drew⟩) rfl (by rw [HALT.1];exact ⟨hk0.1,rfl,s0,nv',((HL.1.set13 HK.1 HKF.1 hlt (Nat.le_refl _) (by omega) (by omega) _ _ _ _ _ _ _ _ _ _ _ _ _).below (Below.refl _ _).drew)⟩)
end Go.Proofs.YtmlbklcmblofkaaGreatDoor.Pa
