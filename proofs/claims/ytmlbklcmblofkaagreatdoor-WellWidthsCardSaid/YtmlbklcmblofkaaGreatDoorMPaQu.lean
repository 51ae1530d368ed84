/-
  A quantifier's counts, asked by the reader and stored: the walk of that region.
-/
import Derived.Test.YtmlbklcmblofkaaGreatDoorMPaPiece
set_option linter.unusedSimpArgs false
set_option linter.unusedVariables false
set_option maxHeartbeats 8000000
set_option maxRecDepth 100000
namespace Go.Proofs.YtmlbklcmblofkaaGreatDoor.Pa
open Go.RowKit Mem
open Sy (g)
open Sc (GivesC cntP)
open Rs (R)
open As (Nd)
attribute [local go_sem] build_pz build_fl build_f0
variable {w w0:World}
theorem cells4 {g t:Nat} {v0 v1 v2 v3:Value} (h:Blk w g t #[v0,v1,v2,v3]):(w.cell? ⟨g,0,none⟩=some v0∧w.cell? ⟨g,1,none⟩=some v1∧w.cell? ⟨g,2,none⟩=some v2∧w.cell? ⟨g,3,none⟩=some v3)∧w.frozen? ⟨g,0,none⟩=false∧w.frozen? ⟨g,1,none⟩=false∧w.frozen? ⟨g,2,none⟩=false∧w.frozen? ⟨g,3,none⟩=false:=
 ⟨⟨h.cell 0,h.cell 1,h.cell 2,h.cell 3⟩,h.frozen 0,h.frozen 1,h.frozen 2,h.frozen 3⟩
theorem set4 {g t:Nat} {v0 v1 v2 v3:Value} (h:Blk w g t #[v0,v1,v2,v3]) (u0 u1 u2 u3:Value):Blk ((((w.setCell ⟨g,0,none⟩ u0).setCell ⟨g,1,none⟩ u1).setCell ⟨g,2,none⟩ u2).setCell ⟨g,3,none⟩ u3) g t #[u0,u1,u2,u3]:=
 (((h.set_ 0 u0).set_ 1 u1).set_ 2 u2).set_ 3 u3
theorem bel4 {B g:Nat} (h:Below B w0 w) (hg:B≤g) (u0 u1 u2 u3:Value):Below B w0 ((((w.setCell ⟨g,0,none⟩ u0).setCell ⟨g,1,none⟩ u1).setCell ⟨g,2,none⟩ u2).setCell ⟨g,3,none⟩ u3):=(((h.setCell (p:=⟨g,0,none⟩) hg u0).setCell (p:=⟨g,1,none⟩) hg u1).setCell (p:=⟨g,2,none⟩) hg u2).setCell (p:=⟨g,3,none⟩) hg u3
section
variable {bs:List UInt8} {A:Option Addr} {cap:Nat} {w0:World} {rb nest:Nat} {st:St} {nv:Value} {X wx:World} {g:Nat}
theorem RB.held' (h:RB bs A cap w0 rb nest st nv X wx):(fun wx=>Hd (RB bs A cap w0 rb nest st nv X wx)∧wx.cell? ⟨rb,0,none⟩=some (.slice A bs.length cap)∧wx.cell? ⟨rb,1,none⟩=some (.int .i64 (st.pos:Int))) wx:=h.held
theorem RB.set4 (hx:RB bs A cap w0 rb nest st nv X X) (h:RB bs A cap w0 rb nest st nv X wx) (hg:X.heap.size≤g) (u0 u1 u2 u3:Value):RB bs A cap w0 rb nest st nv X ((((wx.setCell ⟨g,0,none⟩ u0).setCell ⟨g,1,none⟩ u1).setCell ⟨g,2,none⟩ u2).setCell ⟨g,3,none⟩ u3):=
 ⟨hx.1.below (bel4 h.2 hg u0 u1 u2 u3),bel4 h.2 hg u0 u1 u2 u3⟩
end
theorem GiveQ.ok {lo:Nat} {bs:List UInt8} {A:Option Addr} {cap:Nat} {w0:World} {rb nest:Nat} {nv nv':Value} {w W:World} {st':St} {x:Pt} {v:Value} (hL:Left bs A cap w0 rb nest nv w st' nv' W) (hp:PtV (Ok lo nv) w x v) (hr:rb<lo) :
  GiveQ lo bs A cap w0 rb nest nv w (.ok (x,st')) (.returned (.tuple #[v,.agg #[.int .i64 0,.int .i64 0]])) W:=⟨v,nv',rfl,hp.turn hL.turn hL.nw hr,hL⟩
section
variable {bs:List UInt8} {A:Option Addr} {cap:Nat} {w0:World} {rb nest lo g g2:Nat} {nv nv':Value} {w W:World} {st':St} {x:Pt} {v:Value}
theorem PtV.past (hp:PtV (Ok lo nv) w x v) (hL:Left bs A cap w0 rb nest nv w st' nv' W) (hr:rb<lo) (h1:w.heap.size≤g) (h2:w.heap.size≤g2):PtV (fun k=>Ok lo nv' k∧k≠g∧k≠g2) W x v:=
 hp.keep hL.turn.size fun k hk hP=>⟨(hL.turn.keeps hL.nw hr k hk hP).1,(hL.turn.keeps hL.nw hr k hk hP).2,by omega,by omega⟩
theorem PtV.apart (hp:PtV (fun k=>Ok lo nv k∧k≠g∧k≠g2) W x v) (u0 u1 u2 u3 u4 u5 u6 u7 u8 u9 u10 a b:Value):PtV (Ok lo nv) (((((((((((((W.setCell ⟨g,0,none⟩ u0).setCell ⟨g,1,none⟩ u1).setCell ⟨g,2,none⟩ u2).setCell ⟨g,3,none⟩ u3).setCell ⟨g,4,none⟩ u4).setCell ⟨g,5,none⟩ u5).setCell ⟨g,6,none⟩ u6).setCell ⟨g,7,none⟩ u7).setCell ⟨g,8,none⟩ u8).setCell ⟨g,9,none⟩ u9).setCell ⟨g,10,none⟩ u10).setCell ⟨g2,0,none⟩ a).setCell ⟨g2,1,none⟩ b) x v:=by
 have h1:=grow11 W g u0 u1 u2 u3 u4 u5 u6 u7 u8 u9 u10
 have h2:=grow2 (((((((((((W.setCell ⟨g,0,none⟩ u0).setCell ⟨g,1,none⟩ u1).setCell ⟨g,2,none⟩ u2).setCell ⟨g,3,none⟩ u3).setCell ⟨g,4,none⟩ u4).setCell ⟨g,5,none⟩ u5).setCell ⟨g,6,none⟩ u6).setCell ⟨g,7,none⟩ u7).setCell ⟨g,8,none⟩ u8).setCell ⟨g,9,none⟩ u9).setCell ⟨g,10,none⟩ u10) g2 a b
 have h3:=hp.keep (Q:=fun k=>Ok lo nv k∧k≠g∧k≠g2) h1.size fun k hk hP=>⟨h1.block k hk (fun e=>by injection e with e;exact hP.2.1 e),hP⟩
 exact h3.keep h2.size fun k hk hP=>⟨h2.block k hk (fun e=>by injection e with e;exact hP.2.2 e),hP.1⟩
theorem PtV.wrap {P:Nat→Prop} {nd:Nd} {gk:Nat} {cs:Array Value} (hx:PtV P W x (.agg cs)) (hk:Blk W gk 78 cs) (hg:P gk) (hs:nd.set=[]):PtV P W ⟨nd,.one x⟩ (.agg (ptN nd none 0 (some ⟨gk,0,none⟩) 1 1)):=by
 obtain ⟨L,lc,K,kc,hv,h2,h3⟩:=hx
 injection hv with hv
 subst hv
 refine ⟨none,0,some ⟨gk,0,none⟩,1,rfl,?_,Nat.le_refl _,by omega,.inr ⟨gk,0,rfl,hg,hk.lt,⟨L,lc,K,kc,fun j u hu=>?_,h2,h3⟩,trivial⟩⟩
 ·show SetV P nd.set none 0 W
  rw [hs]
  exact SetV.nil P W
 ·show W.cell? ⟨gk,0+j,none⟩=some u
  rw [Nat.zero_add]
  exact (hk.cell j).trans hu
theorem GiveQ.mk (hL:Left bs A cap w0 rb nest nv w st' nv' W) (hp:PtV (Ok lo nv') W x v):GiveQ lo bs A cap w0 rb nest nv w (.ok (x,st')) (.returned (.tuple #[v,.agg #[.int .i64 0,.int .i64 0]])) W:=⟨v,nv',rfl,hp,hL⟩
end
theorem quant_walk {bs:List UInt8} {A:Option Addr} {cap:Nat} {rb nest:Nat} {st:St} {nv:Value} (h:Rd bs A cap w0 rb nest st nv w) (lo:Nat) (hlo:lo≤w.heap.size) (hrb:rb<lo) (x:Pt) (u0 u1 u2 u3 u4 u5 u6:Int) (s:List UInt8) (L:Option Addr) (ln lc:Nat) (K:Option Addr) (kn kc:Nat) (hp:PtV (Ok lo nv) w x (.agg #[.int .i64 u0,.int .i64 u1,.int .i64 u2,.int .i64 u3,.int .i64 u4,.int .i64 u5,.int .i64 u6,.string ⟨s.toArray⟩,.slice L ln lc,.slice none 0 0,.slice K kn kc])) (fr:Nat) (R:Res Pt) (hR:quantP bs x fr st=R) :
  Calls Tryz.prog 45 #[Value.pointer (some ⟨rb,0,none⟩),.agg #[.int .i64 u0,.int .i64 u1,.int .i64 u2,.int .i64 u3,.int .i64 u4,.int .i64 u5,.int .i64 u6,.string ⟨s.toArray⟩,.slice L ln lc,.slice none 0 0,.slice K kn kc],.int .i64 (fr:Int)] w (GiveQ lo bs A cap w0 rb nest nv w R):=by
 have CS:=hide (fun W st (hr:Rd bs A cap w0 rb nest st nv W)=>skip_any hr none)
 have hbb:Below w.heap.size w (((w.alloc (.cells (pu u0 u1 u2 u3 u4 u5 u6 s L ln lc K kn kc) 78)).alloc (.cells pz 78)).alloc (.cells fz 80)):=(((Below.refl w.heap.size w).alloc (Nat.le_refl _) (.cells (pu u0 u1 u2 u3 u4 u5 u6 s L ln lc K kn kc) 78)).alloc (by simp) (.cells pz 78)).alloc (by simp;omega) (.cells fz 80)
 have HR:=hide (h.below hbb)
 have HKX:=hide ((((Blk.new w 78 (pu u0 u1 u2 u3 u4 u5 u6 s L ln lc K kn kc)).alloc (.cells pz 78)).alloc (.cells fz 80)))
 have HKP:=hide ((blk_at (W:=(w.alloc (.cells (pu u0 u1 u2 u3 u4 u5 u6 s L ln lc K kn kc) 78))) (g:=w.heap.size+1) (t:=78) (cs:=pz) (by simp)).alloc (.cells fz 80))
 have HKF:=hide (blk_at (W:=((w.alloc (.cells (pu u0 u1 u2 u3 u4 u5 u6 s L ln lc K kn kc) 78)).alloc (.cells pz 78))) (g:=w.heap.size+2) (t:=80) (cs:=fz) (by simp))
 have HB:=hide hbb
 have HW:=hide h
 have HP:=hide hp
 have hlt:=h.blk.lt
 have habv:=h.above
 have htop:=h.top
 unfold quantP at hR
 dsimp only at hR
 have hpos:=(skip_on bs st h.pos).2.1
 have HRR:=hide hR
 clear h hbb hp hR
 go_enter Tryz.func45,Tryz.ntmps45
 go_wp2_with fail
 refine (CS.1 _ _ HR.1).mono ?_
 rintro e X ⟨rfl,hr,ht⟩
 have HLX:=hide (Left.from HB.1 (Left.of_turn hr ht))
 have HKX:=hide (Turn.blk ht HKX.1 (by omega))
 have HKP:=hide (Turn.blk ht HKP.1 (by omega))
 have HKF:=hide (Turn.blk ht HKF.1 (by omega))
 have hXs:w.heap.size+2<X.heap.size:=HKF.1.lt
 clear ht HR HB
 generalize skipP bs st=st at *
 have HX:=hide (show RB bs A cap w0 rb nest st nv X X from ⟨hr,Below.refl _ _⟩)
 have CN:=hide (fun W (hr:RB bs A cap w0 rb nest st nv X W)=>Sc.pcount_any bs A cap (st.pos:Int) W hr.1.pvW hr.1.glW.tabs)
 rw [cntz_nat] at CN
 unfold GivesC at CN
 generalize hc:cntP bs st.pos=c at *
 have HCC:=hide hc
 have HPOS:=hide hpos
 clear hc hr hpos
 go_wp2_with fail
 go_cut [8,9,10] from 16 to 28 (fun q is er wx=>∃ g5,q=.pointer (some ⟨g5,0,none⟩)∧is=.bool c.is∧er=.int .i64 (c.e:Int)∧RB bs A cap w0 rb nest st nv X wx∧Blk wx g5 91 #[.int .i64 (c.lo:Int),.int .i64 c.hi,.int .i64 (c.mode:Int),.int .i64 (c.to:Int)]∧X.heap.size≤g5)
 case first=>
  refine wp_region_noPanic ?_
  refine wp_region_held_drew (S:=(fun wx=>Hd (RB bs A cap w0 rb nest st nv X wx)∧wx.cell? ⟨rb,0,none⟩=some (.slice A bs.length cap)∧wx.cell? ⟨rb,1,none⟩=some (.int .i64 (st.pos:Int)))) (by kernel_rfl) (RB.held' (HX.1.below (Below.refl _ _).drew)) (fun hHeld=>?_)
  refine tkH 0 (some 17) ?vu1 rfl ?yu1 hHeld ?ru1
  case yu1=>(intro w hSw;(try dsimp only at hSw);go_simp;try with_reducible rfl)
  try simp only [aP]
  refine tkH 1 (some 18) ?vu2 rfl ?yu2 hHeld ?ru2
  case yu2=>(intro w hSw;(try dsimp only at hSw);go_simp;try with_reducible rfl)
  try simp only [aP]
  refine tkH 2 (some 19) ?vu3 rfl ?yu3 hHeld ?ru3
  case yu3=>(intro w hSw;(try dsimp only at hSw);go_simp;try with_reducible rfl)
  try simp only [aP]
  refine tkH 3 (some 20) ?vu4 rfl ?yu4 hHeld ?ru4
  case yu4=>(intro w hSw;(try dsimp only at hSw);go_simp;try with_reducible rfl)
  try simp only [aP]
  refine tkH 4 (some 21) ?vu5 rfl ?yu5 hHeld ?ru5
  case yu5=>(intro w hSw;(try dsimp only at hSw);go_simp;try with_reducible rfl)
  try simp only [aP]
  refine tkH 5 (some 22) ?vu6 rfl ?yu6 hHeld ?ru6
  case yu6=>(intro w hSw;(try dsimp only at hSw);go_simp;try with_reducible rfl)
  try simp only [aP]
  refine tkH 6 (some 23) ?vu7 rfl ?yu7 hHeld ?ru7
  case yu7=>(intro w hSw;(try dsimp only at hSw);go_simp;try with_reducible rfl)
  try simp only [aP]
  refine tkH 7 (some 24) ?vu8 rfl ?yu8 hHeld ?ru8
  case yu8=>(intro w hSw;(try dsimp only at hSw);go_simp;try with_reducible rfl)
  try simp only [aP]
  refine wpAnyH_ready (rs:=[8,13]) (by kernel_rfl) (by simp) ?_
  refine AllReadyH.cons (o:=⟨some 25,_,_,_,_,_⟩) rfl (fun K hK=>?_) (AllReadyH.cons (o:=⟨some 8,_,_,_,_,_⟩) rfl (fun K hK=>?_) AllReadyH.nil)
  ·go_simp
   have HC0:=hHeld.1
   refine (CN.1 _ HC0.1).mono ?_
   rintro e w5 ⟨rfl,hb⟩
   have HC:=hide (HC0.1.below hb)
   clear hb HC0
   go_wp2_with fail
   refine hK.out _ _ (RB.held' HC.1) (fun hHeld2=>?_)
   clear hK K
   try simp only [aP]
   refine tkH 9 (some 16) ?vu9 rfl ?yu9 hHeld2 ?ru9
   case yu9=>(intro w hSw;(try dsimp only at hSw);go_simp;try with_reducible rfl)
   try simp only [aP]
   refine tkH 10 (some 26) ?vu10 rfl ?yu10 hHeld2 ?ru10
   case yu10=>(intro w hSw;(try dsimp only at hSw);go_simp;try with_reducible rfl)
   try simp only [aP]
   refine tkH 11 (some 27) ?vu11 rfl ?yu11 hHeld2 ?ru11
   case yu11=>(intro w hSw;(try dsimp only at hSw);go_simp;try with_reducible rfl)
   try simp only [aP]
   refine tkH 12 (some 28) ?vu12 rfl ?yu12 hHeld2 ?ru12
   case yu12=>(intro w hSw;(try dsimp only at hSw);go_simp;try with_reducible rfl)
   try simp only [aP]
   refine wpAnyH_ready (rs:=[13]) (by kernel_rfl) (by simp) ?_
   refine AllReadyH.cons (o:=⟨some 8,_,_,_,_,_⟩) rfl (fun K hK=>?_) AllReadyH.nil
   go_simp
   refine hK.out _ _ (RB.held' (HC.1.below ((Below.refl _ _).alloc (Nat.le_refl _) _))) (fun hHeld3=>?_)
   clear hK K
   try simp only [aP]
   refine wpAnyH_ready (rs:=[14]) (by kernel_rfl) (by simp) ?_
   refine AllReadyH.cons (o:=⟨none,_,_,_,_,_⟩) rfl (fun K hK=>?_) AllReadyH.nil
   go_simp
   refine hK.out _ _ (RB.held' (HC.1.below ((Below.refl _ _).alloc (Nat.le_refl _) _))) (fun hHeld4=>?_)
   clear hK K
   try simp only [aP]
   refine wpAnyH_ready (rs:=[15]) (by kernel_rfl) (by simp) ?_
   refine AllReadyH.cons (o:=⟨some 9,_,_,_,_,_⟩) rfl (fun K hK=>?_) AllReadyH.nil
   go_simp
   refine hK.out _ _ (RB.held' (HC.1.below ((Below.refl _ _).alloc (Nat.le_refl _) _))) (fun hHeld5=>?_)
   clear hK K
   try simp only [aP]
   refine wpAnyH_ready (rs:=[16]) (by kernel_rfl) (by simp) ?_
   refine AllReadyH.cons (o:=⟨some 10,_,_,_,_,_⟩) rfl (fun K hK=>?_) AllReadyH.nil
   go_simp
   refine hK.out _ _ (RB.held' (HC.1.below ((Below.refl _ _).alloc (Nat.le_refl _) _))) (fun hHeld6=>?_)
   clear hK K
   try simp only [aP]
   refine wpAnyH_done (by kernel_rfl) ?_ _
   refine NoPanic.normal ?_
   (try clear hHeld hHeld2 hHeld3 hHeld4 hHeld5 hHeld6)
   (try clear CN)
   have HQ:=hide (Blk.new w5 91 #[.int .i64 (c.lo:Int),.int .i64 c.hi,.int .i64 (c.mode:Int),.int .i64 (c.to:Int)])
   have HV:=hide (HC.1.below ((Below.refl w5.heap.size w5).alloc (Nat.le_refl _) (.cells #[.int .i64 (c.lo:Int),.int .i64 c.hi,.int .i64 (c.mode:Int),.int .i64 (c.to:Int)] 91)))
   have hgV:X.heap.size≤w5.heap.size:=HC.1.2.size
   clear HC
   generalize (w5.alloc (.cells #[.int .i64 (c.lo:Int),.int .i64 c.hi,.int .i64 (c.mode:Int),.int .i64 (c.to:Int)] 91))=V at *
   generalize w5.heap.size=g5 at *
   (try go_wp2_with fail)
   go_meet
   exact ⟨_,rfl,rfl,rfl,HV.1,HQ.1,hgV⟩
  ·go_simp
   refine hK.out _ _ (by first|exact RB.held' (HX.1.below ((Below.refl _ _).alloc (Nat.le_refl _) _).drew)|exact RB.held' (HX.1.below ((Below.refl _ _).drew.alloc (Nat.le_refl _) _))) (fun hHeld2=>?_)
   clear hK K
   try simp only [aP]
   have HG0:=hide (show Blk _ X.heap.size 91 #[.int .i64 0,.int .i64 0,.int .i64 0,.int .i64 0] from (by first|exact (Blk.new X _ _).drew|exact Blk.new X.drew _ _))
   refine wpAnyH_ready (rs:=[8]) (by kernel_rfl) (by simp) ?_
   refine AllReadyH.cons (o:=⟨some 25,_,_,_,_,_⟩) rfl (fun K hK=>?_) AllReadyH.nil
   go_simp
   have HC0:=hHeld2.1
   refine (CN.1 _ HC0.1).mono ?_
   rintro e w5 ⟨rfl,hb⟩
   have HC:=hide (HC0.1.below hb)
   have hg5:=hide HG0.1.lt
   have HQ0:=hide (HG0.1.below hb HG0.1.lt)
   clear hb HC0
   go_wp2_with fail
   refine hK.out _ _ (RB.held' HC.1) (fun hHeld3=>?_)
   clear hK K
   try simp only [aP]
   refine tkH 9 (some 16) ?vu13 rfl ?yu13 hHeld3 ?ru13
   case yu13=>(intro w hSw;(try dsimp only at hSw);go_simp;try with_reducible rfl)
   try simp only [aP]
   refine tkH 10 (some 26) ?vu14 rfl ?yu14 hHeld3 ?ru14
   case yu14=>(intro w hSw;(try dsimp only at hSw);go_simp;try with_reducible rfl)
   try simp only [aP]
   refine tkH 11 (some 27) ?vu15 rfl ?yu15 hHeld3 ?ru15
   case yu15=>(intro w hSw;(try dsimp only at hSw);go_simp;try with_reducible rfl)
   try simp only [aP]
   refine tkH 12 (some 28) ?vu16 rfl ?yu16 hHeld3 ?ru16
   case yu16=>(intro w hSw;(try dsimp only at hSw);go_simp;try with_reducible rfl)
   try simp only [aP]
   obtain ⟨⟨d0,d1,d2,d3⟩,f0,f1,f2,f3⟩:=cells4 HQ0.1
   refine wpAnyH_ready (rs:=[14]) (by kernel_rfl) (by simp) ?_
   refine AllReadyH.cons (o:=⟨none,_,_,_,_,_⟩) rfl (fun K hK=>?_) AllReadyH.nil
   go_simp
   refine hK.out _ _ (RB.held' (RB.set4 HX.1 HC.1 (Nat.le_refl _) _ _ _ _)) (fun hHeld4=>?_)
   clear hK K
   try simp only [aP]
   refine wpAnyH_ready (rs:=[15]) (by kernel_rfl) (by simp) ?_
   refine AllReadyH.cons (o:=⟨some 9,_,_,_,_,_⟩) rfl (fun K hK=>?_) AllReadyH.nil
   go_simp
   refine hK.out _ _ (RB.held' (RB.set4 HX.1 HC.1 (Nat.le_refl _) _ _ _ _)) (fun hHeld5=>?_)
   clear hK K
   try simp only [aP]
   refine wpAnyH_ready (rs:=[16]) (by kernel_rfl) (by simp) ?_
   refine AllReadyH.cons (o:=⟨some 10,_,_,_,_,_⟩) rfl (fun K hK=>?_) AllReadyH.nil
   go_simp
   refine hK.out _ _ (RB.held' (RB.set4 HX.1 HC.1 (Nat.le_refl _) _ _ _ _)) (fun hHeld6=>?_)
   clear hK K
   try simp only [aP]
   refine wpAnyH_done (by kernel_rfl) ?_ _
   refine NoPanic.normal ?_
   (try clear hHeld hHeld2 hHeld3 hHeld4 hHeld5 hHeld6)
   (try clear CN)
   have HQ:=hide (set4 HQ0.1 (.int .i64 (c.lo:Int)) (.int .i64 c.hi) (.int .i64 (c.mode:Int)) (.int .i64 (c.to:Int)))
   have HV:=hide (RB.set4 HX.1 HC.1 (Nat.le_refl X.heap.size) (.int .i64 (c.lo:Int)) (.int .i64 c.hi) (.int .i64 (c.mode:Int)) (.int .i64 (c.to:Int)))
   have hgV:X.heap.size≤X.heap.size:=Nat.le_refl _
   clear HC HQ0 hg5 d0 d1 d2 d3 f0 f1 f2 f3 HG0
   generalize ((((w5.setCell ⟨X.heap.size,0,none⟩ (.int .i64 (c.lo:Int))).setCell ⟨X.heap.size,1,none⟩ (.int .i64 c.hi)).setCell ⟨X.heap.size,2,none⟩ (.int .i64 (c.mode:Int))).setCell ⟨X.heap.size,3,none⟩ (.int .i64 (c.to:Int)))=V at *
   obtain ⟨g5,hg5⟩:∃ g5,X.heap.size=g5:=⟨_,rfl⟩
   rw [hg5] at HQ
   rw [show (Value.pointer (some ⟨X.heap.size,0,none⟩))=Value.pointer (some ⟨g5,0,none⟩) from by rw [hg5]]
   have hgV:X.heap.size≤g5:=by omega
   (try go_wp2_with fail)
   go_meet
   exact ⟨_,rfl,rfl,rfl,HV.1,HQ.1,hgV⟩
 case rest=>
  obtain ⟨g5,rfl,rfl,rfl,hv,hq,hg⟩:=hcut
  have HV:=hide hv
  have HQ:=hide hq
  clear hv hq HX CN
  generalize wc=V at *
  have hVs:=HV.1.2.size
  have HLV:=hide (HLX.1.below HV.1.2)
  have HKX:=hide (HKX.1.below HV.1.2 HKX.1.lt)
  have HKP:=hide (HKP.1.below HV.1.2 HKP.1.lt)
  have HKF:=hide (HKF.1.below HV.1.2 HKF.1.lt)
  by_cases hE:c.e≠0
  ·have e0:(((c.e:Nat):Int) != 0)=true:=by rw [bne_iff_ne];omega
   have HE:=hide hE
   have HRE:=hide (show (.error (c.e,st.pos):Res Pt)=R from by rw [← HRR.1,if_pos hE])
   clear hE HRR
   go_wp2_with fail
   have m1:V.cell? ⟨rb,1,none⟩=some (.int .i64 (st.pos:Int)):=(HV.1.1).blk.cell 1
   have n1:=((far11 (HV.1.1).blk (show rb≠w.heap.size+1 by omega) (.int .i64 0) (.int .i64 0) (.int .i64 0) (.int .i64 0) (.int .i64 0) (.int .i64 0) (.int .i64 0) (.string ⟨#[]⟩) (.slice none 0 0) (.slice none 0 0) (.slice none 0 0)).cell 1).trans (show _=some (Value.int .i64 (st.pos:Int)) from rfl)
   obtain ⟨⟨y0,y1,y2,y3,y4,y5,y6,y7,y8,y9,y10⟩,z0,z1,z2,z3,z4,z5,z6,z7,z8,z9,z10⟩:=cells11 HKP.1
   obtain ⟨⟨u20,u21⟩,v20,v21⟩:=cells2 HKF.1
   obtain ⟨⟨p20,p21⟩,q20,q21⟩:=cells2 (far11 HKF.1 (show w.heap.size+2≠w.heap.size+1 by omega) (.int .i64 0) (.int .i64 0) (.int .i64 0) (.int .i64 0) (.int .i64 0) (.int .i64 0) (.int .i64 0) (.string ⟨#[]⟩) (.slice none 0 0) (.slice none 0 0) (.slice none 0 0))
   go_region
   all_goals
    go_wp2_with fail
    (try simp only [Exit.inBlock,Exit.then])
    have hq:=blk13 HKP.1 HKF.1 (by omega) rfl rfl
    exact bodyPost_ret (rcc rfl (w.heap.size+1) (w.heap.size+2) rfl rfl ⟨(hq _ _ _ _ _ _ _ _ _ _ _ _ _).1.drew,(hq _ _ _ _ _ _ _ _ _ _ _ _ _).2.drew⟩) rfl (by rw [← HRE.1];exact ⟨HE.1,rfl,st,nv,((HLV.1.set13 HKP.1 HKF.1 hlt (by omega) (by omega) (by omega) _ _ _ _ _ _ _ _ _ _ _ _ _).below (Below.refl _ _).drew)⟩)
  ·have hE0:c.e=0:=by simpa using hE
   have e0:(((c.e:Nat):Int) != 0)=false:=by rw [hE0];rfl
   cases hI:c.is with
   | false=>
    have HRE:=hide (show (.ok (x,st):Res Pt)=R from by rw [← HRR.1,if_neg hE,if_pos hI])
    clear hE hE0 hI HRR
    obtain ⟨⟨p0,p1,p2,p3,p4,p5,p6,p7,p8,p9,p10⟩,-⟩:=cells11 HKX.1
    obtain ⟨⟨y0,y1,y2,y3,y4,y5,y6,y7,y8,y9,y10⟩,z0,z1,z2,z3,z4,z5,z6,z7,z8,z9,z10⟩:=cells11 HKP.1
    obtain ⟨⟨u20,u21⟩,v20,v21⟩:=cells2 HKF.1
    go_wp2_with fail
    (try simp only [Exit.inBlock,Exit.then])
    have hq:=blk13 HKP.1 HKF.1 (by omega) rfl rfl
    exact bodyPost_ret (rcc rfl (w.heap.size+1) (w.heap.size+2) rfl rfl (hq _ _ _ _ _ _ _ _ _ _ _ _ _)) rfl (by rw [← HRE.1];exact GiveQ.ok (HLV.1.set13 HKP.1 HKF.1 hlt (by omega) (by omega) (by omega) _ _ _ _ _ _ _ _ _ _ _ _ _) HP.1 hrb)
   | true=>
    have hcn:=cnt_on (bs:=bs) (k:=st.pos) (by rw [HCC.1];exact hI)
    rw [HCC.1] at hcn
    have hto:=hcn.2.1
    have hmode:=hcn.2.2.1
    have HRE:=hide (show (if (cntP bs (skipP bs { st with pos:=c.«to» }).pos).is=true∨(cntP bs (skipP bs { st with pos:=c.«to» }).pos).e≠0 then (.error (31,(skipP bs { st with pos:=c.«to» }).pos):Res Pt) else .ok (repP x fr c,skipP bs { st with pos:=c.«to» }))=R from by rw [← HRR.1,if_neg hE,if_neg (show ¬ c.is=false by rw [hI];simp)])
    have HTO:=hide hto
    have HMO:=hide hmode
    clear hE hE0 hI HRR hcn hto hmode HCC HPOS
    obtain ⟨⟨d0,d1,d2,d3⟩,-⟩:=cells4 HQ.1
    have m1:V.cell? ⟨rb,1,none⟩=some (.int .i64 (st.pos:Int)):=HV.1.1.blk.cell 1
    have m1f:=HV.1.1.blk.frozen 1
    go_wp2_with fail
    have hr1:=HV.1.1.store 1 (.int .i64 (c.«to» : Int)) (st':={ st with pos:=c.«to» }) (nest':=nest) rfl HTO.1 HV.1.1.deep rfl
    have HL1:=hide (Left.then HLV.1 (Left.of_turn hr1 (turn_set (Turn.of_below (Below.refl _ _)) _)))
    refine (CS.1 _ _ hr1).mono ?_
    rintro e X2 ⟨rfl,hr2,ht2⟩
    have HLX2:=hide (Left.then HL1.1 (Left.of_turn hr2 ht2))
    have HKX:=hide (Turn.blk ht2 (HKX.1.far (p:=⟨rb,1,none⟩) (by show w.heap.size≠rb;omega) (.int .i64 (c.«to» : Int))) (by omega))
    have HKP:=hide (Turn.blk ht2 (HKP.1.far (p:=⟨rb,1,none⟩) (by show w.heap.size+1≠rb;omega) (.int .i64 (c.«to» : Int))) (by omega))
    have HKF:=hide (Turn.blk ht2 (HKF.1.far (p:=⟨rb,1,none⟩) (by show w.heap.size+2≠rb;omega) (.int .i64 (c.«to» : Int))) (by omega))
    have HQ:=hide (Turn.blk ht2 (HQ.1.far (p:=⟨rb,1,none⟩) (by show g5≠rb;omega) (.int .i64 (c.«to» : Int))) (by omega))
    have hX2s:w.heap.size+2<X2.heap.size:=HKF.1.lt
    have hg5s:g5<X2.heap.size:=HQ.1.lt
    generalize skipP bs { st with pos:=c.«to» }=st2 at *
    have HX2:=hide (show RB bs A cap w0 rb nest st2 nv X2 X2 from ⟨hr2,Below.refl _ _⟩)
    have CN2:=hide (fun W (hr:RB bs A cap w0 rb nest st2 nv X2 W)=>Sc.pcount_any bs A cap (st2.pos:Int) W hr.1.pvW hr.1.glW.tabs)
    rw [cntz_nat] at CN2
    unfold GivesC at CN2
    generalize cntP bs st2.pos=c2 at *
    clear hr1 hr2 ht2 m1 m1f d0 d1 d2 d3 HV HLV HL1
    go_wp2_with fail
    go_cut [11,12,13] from 49 to 61 (fun q is er wx=>∃ g6,q=.pointer (some ⟨g6,0,none⟩)∧is=.bool c2.is∧er=.int .i64 (c2.e:Int)∧RB bs A cap w0 rb nest st2 nv X2 wx∧Blk wx g6 91 #[.int .i64 (c2.lo:Int),.int .i64 c2.hi,.int .i64 (c2.mode:Int),.int .i64 (c2.to:Int)]∧X2.heap.size≤g6)
    case first=>
     refine wp_region_noPanic ?_
     refine wp_region_held_drew (S:=(fun wx=>Hd (RB bs A cap w0 rb nest st2 nv X2 wx)∧wx.cell? ⟨rb,0,none⟩=some (.slice A bs.length cap)∧wx.cell? ⟨rb,1,none⟩=some (.int .i64 (st2.pos:Int)))) (by kernel_rfl) (RB.held' (HX2.1.below (Below.refl _ _).drew)) (fun hHeld=>?_)
     refine tkH 0 (some 50) ?vu17 rfl ?yu17 hHeld ?ru17
     case yu17=>(intro w hSw;(try dsimp only at hSw);go_simp;try with_reducible rfl)
     try simp only [aP]
     refine tkH 1 (some 51) ?vu18 rfl ?yu18 hHeld ?ru18
     case yu18=>(intro w hSw;(try dsimp only at hSw);go_simp;try with_reducible rfl)
     try simp only [aP]
     refine tkH 2 (some 52) ?vu19 rfl ?yu19 hHeld ?ru19
     case yu19=>(intro w hSw;(try dsimp only at hSw);go_simp;try with_reducible rfl)
     try simp only [aP]
     refine tkH 3 (some 53) ?vu20 rfl ?yu20 hHeld ?ru20
     case yu20=>(intro w hSw;(try dsimp only at hSw);go_simp;try with_reducible rfl)
     try simp only [aP]
     refine tkH 4 (some 54) ?vu21 rfl ?yu21 hHeld ?ru21
     case yu21=>(intro w hSw;(try dsimp only at hSw);go_simp;try with_reducible rfl)
     try simp only [aP]
     refine tkH 5 (some 55) ?vu22 rfl ?yu22 hHeld ?ru22
     case yu22=>(intro w hSw;(try dsimp only at hSw);go_simp;try with_reducible rfl)
     try simp only [aP]
     refine tkH 6 (some 56) ?vu23 rfl ?yu23 hHeld ?ru23
     case yu23=>(intro w hSw;(try dsimp only at hSw);go_simp;try with_reducible rfl)
     try simp only [aP]
     refine tkH 7 (some 57) ?vu24 rfl ?yu24 hHeld ?ru24
     case yu24=>(intro w hSw;(try dsimp only at hSw);go_simp;try with_reducible rfl)
     try simp only [aP]
     refine wpAnyH_ready (rs:=[8,13]) (by kernel_rfl) (by simp) ?_
     refine AllReadyH.cons (o:=⟨some 58,_,_,_,_,_⟩) rfl (fun K hK=>?_) (AllReadyH.cons (o:=⟨some 11,_,_,_,_,_⟩) rfl (fun K hK=>?_) AllReadyH.nil)
     ·go_simp
      have HC20:=hHeld.1
      refine (CN2.1 _ HC20.1).mono ?_
      rintro e w7 ⟨rfl,hb⟩
      have HC2:=hide (HC20.1.below hb)
      clear hb HC20
      go_wp2_with fail
      refine hK.out _ _ (RB.held' HC2.1) (fun hHeld2=>?_)
      clear hK K
      try simp only [aP]
      refine tkH 9 (some 49) ?vu25 rfl ?yu25 hHeld2 ?ru25
      case yu25=>(intro w hSw;(try dsimp only at hSw);go_simp;try with_reducible rfl)
      try simp only [aP]
      refine tkH 10 (some 59) ?vu26 rfl ?yu26 hHeld2 ?ru26
      case yu26=>(intro w hSw;(try dsimp only at hSw);go_simp;try with_reducible rfl)
      try simp only [aP]
      refine tkH 11 (some 60) ?vu27 rfl ?yu27 hHeld2 ?ru27
      case yu27=>(intro w hSw;(try dsimp only at hSw);go_simp;try with_reducible rfl)
      try simp only [aP]
      refine tkH 12 (some 61) ?vu28 rfl ?yu28 hHeld2 ?ru28
      case yu28=>(intro w hSw;(try dsimp only at hSw);go_simp;try with_reducible rfl)
      try simp only [aP]
      refine wpAnyH_ready (rs:=[13]) (by kernel_rfl) (by simp) ?_
      refine AllReadyH.cons (o:=⟨some 11,_,_,_,_,_⟩) rfl (fun K hK=>?_) AllReadyH.nil
      go_simp
      refine hK.out _ _ (RB.held' (HC2.1.below ((Below.refl _ _).alloc (Nat.le_refl _) _))) (fun hHeld3=>?_)
      clear hK K
      try simp only [aP]
      refine wpAnyH_ready (rs:=[14]) (by kernel_rfl) (by simp) ?_
      refine AllReadyH.cons (o:=⟨none,_,_,_,_,_⟩) rfl (fun K hK=>?_) AllReadyH.nil
      go_simp
      refine hK.out _ _ (RB.held' (HC2.1.below ((Below.refl _ _).alloc (Nat.le_refl _) _))) (fun hHeld4=>?_)
      clear hK K
      try simp only [aP]
      refine wpAnyH_ready (rs:=[15]) (by kernel_rfl) (by simp) ?_
      refine AllReadyH.cons (o:=⟨some 12,_,_,_,_,_⟩) rfl (fun K hK=>?_) AllReadyH.nil
      go_simp
      refine hK.out _ _ (RB.held' (HC2.1.below ((Below.refl _ _).alloc (Nat.le_refl _) _))) (fun hHeld5=>?_)
      clear hK K
      try simp only [aP]
      refine wpAnyH_ready (rs:=[16]) (by kernel_rfl) (by simp) ?_
      refine AllReadyH.cons (o:=⟨some 13,_,_,_,_,_⟩) rfl (fun K hK=>?_) AllReadyH.nil
      go_simp
      refine hK.out _ _ (RB.held' (HC2.1.below ((Below.refl _ _).alloc (Nat.le_refl _) _))) (fun hHeld6=>?_)
      clear hK K
      try simp only [aP]
      refine wpAnyH_done (by kernel_rfl) ?_ _
      refine NoPanic.normal ?_
      (try clear hHeld hHeld2 hHeld3 hHeld4 hHeld5 hHeld6)
      (try clear CN2)
      have HQ2:=hide (Blk.new w7 91 #[.int .i64 (c2.lo:Int),.int .i64 c2.hi,.int .i64 (c2.mode:Int),.int .i64 (c2.«to» : Int)])
      have HV2:=hide (HC2.1.below ((Below.refl w7.heap.size w7).alloc (Nat.le_refl _) (.cells #[.int .i64 (c2.lo:Int),.int .i64 c2.hi,.int .i64 (c2.mode:Int),.int .i64 (c2.«to» : Int)] 91)))
      have hgV2:X2.heap.size≤w7.heap.size:=HC2.1.2.size
      clear HC2
      generalize (w7.alloc (.cells #[.int .i64 (c2.lo:Int),.int .i64 c2.hi,.int .i64 (c2.mode:Int),.int .i64 (c2.«to» : Int)] 91))=V2 at *
      generalize w7.heap.size=g6 at *
      (try go_wp2_with fail)
      go_meet
      exact ⟨_,rfl,rfl,rfl,HV2.1,HQ2.1,hgV2⟩
     ·go_simp
      refine hK.out _ _ (by first|exact RB.held' (HX2.1.below ((Below.refl _ _).alloc (Nat.le_refl _) _).drew)|exact RB.held' (HX2.1.below ((Below.refl _ _).drew.alloc (Nat.le_refl _) _))) (fun hHeld2=>?_)
      clear hK K
      try simp only [aP]
      have HG20:=hide (show Blk _ X2.heap.size 91 #[.int .i64 0,.int .i64 0,.int .i64 0,.int .i64 0] from (by first|exact (Blk.new X2 _ _).drew|exact Blk.new X2.drew _ _))
      refine wpAnyH_ready (rs:=[8]) (by kernel_rfl) (by simp) ?_
      refine AllReadyH.cons (o:=⟨some 58,_,_,_,_,_⟩) rfl (fun K hK=>?_) AllReadyH.nil
      go_simp
      have HC20:=hHeld2.1
      refine (CN2.1 _ HC20.1).mono ?_
      rintro e w7 ⟨rfl,hb⟩
      have HC2:=hide (HC20.1.below hb)
      have hg6:=hide HG20.1.lt
      have HQ20:=hide (HG20.1.below hb HG20.1.lt)
      clear hb HC20
      go_wp2_with fail
      refine hK.out _ _ (RB.held' HC2.1) (fun hHeld3=>?_)
      clear hK K
      try simp only [aP]
      refine tkH 9 (some 49) ?vu29 rfl ?yu29 hHeld3 ?ru29
      case yu29=>(intro w hSw;(try dsimp only at hSw);go_simp;try with_reducible rfl)
      try simp only [aP]
      refine tkH 10 (some 59) ?vu30 rfl ?yu30 hHeld3 ?ru30
      case yu30=>(intro w hSw;(try dsimp only at hSw);go_simp;try with_reducible rfl)
      try simp only [aP]
      refine tkH 11 (some 60) ?vu31 rfl ?yu31 hHeld3 ?ru31
      case yu31=>(intro w hSw;(try dsimp only at hSw);go_simp;try with_reducible rfl)
      try simp only [aP]
      refine tkH 12 (some 61) ?vu32 rfl ?yu32 hHeld3 ?ru32
      case yu32=>(intro w hSw;(try dsimp only at hSw);go_simp;try with_reducible rfl)
      try simp only [aP]
      obtain ⟨⟨dd0,dd1,dd2,dd3⟩,ff0,ff1,ff2,ff3⟩:=cells4 HQ20.1
      refine wpAnyH_ready (rs:=[14]) (by kernel_rfl) (by simp) ?_
      refine AllReadyH.cons (o:=⟨none,_,_,_,_,_⟩) rfl (fun K hK=>?_) AllReadyH.nil
      go_simp
      refine hK.out _ _ (RB.held' (RB.set4 HX2.1 HC2.1 (Nat.le_refl _) _ _ _ _)) (fun hHeld4=>?_)
      clear hK K
      try simp only [aP]
      refine wpAnyH_ready (rs:=[15]) (by kernel_rfl) (by simp) ?_
      refine AllReadyH.cons (o:=⟨some 12,_,_,_,_,_⟩) rfl (fun K hK=>?_) AllReadyH.nil
      go_simp
      refine hK.out _ _ (RB.held' (RB.set4 HX2.1 HC2.1 (Nat.le_refl _) _ _ _ _)) (fun hHeld5=>?_)
      clear hK K
      try simp only [aP]
      refine wpAnyH_ready (rs:=[16]) (by kernel_rfl) (by simp) ?_
      refine AllReadyH.cons (o:=⟨some 13,_,_,_,_,_⟩) rfl (fun K hK=>?_) AllReadyH.nil
      go_simp
      refine hK.out _ _ (RB.held' (RB.set4 HX2.1 HC2.1 (Nat.le_refl _) _ _ _ _)) (fun hHeld6=>?_)
      clear hK K
      try simp only [aP]
      refine wpAnyH_done (by kernel_rfl) ?_ _
      refine NoPanic.normal ?_
      (try clear hHeld hHeld2 hHeld3 hHeld4 hHeld5 hHeld6)
      (try clear CN2)
      have HQ2:=hide (set4 HQ20.1 (.int .i64 (c2.lo:Int)) (.int .i64 c2.hi) (.int .i64 (c2.mode:Int)) (.int .i64 (c2.«to» : Int)))
      have HV2:=hide (RB.set4 HX2.1 HC2.1 (Nat.le_refl X2.heap.size) (.int .i64 (c2.lo:Int)) (.int .i64 c2.hi) (.int .i64 (c2.mode:Int)) (.int .i64 (c2.«to» : Int)))
      have hgV2:X2.heap.size≤X2.heap.size:=Nat.le_refl _
      clear HC2 HQ20 hg6 dd0 dd1 dd2 dd3 ff0 ff1 ff2 ff3 HG20
      generalize ((((w7.setCell ⟨X2.heap.size,0,none⟩ (.int .i64 (c2.lo:Int))).setCell ⟨X2.heap.size,1,none⟩ (.int .i64 c2.hi)).setCell ⟨X2.heap.size,2,none⟩ (.int .i64 (c2.mode:Int))).setCell ⟨X2.heap.size,3,none⟩ (.int .i64 (c2.«to» : Int)))=V2 at *
      obtain ⟨g6,hg6⟩:∃ g6,X2.heap.size=g6:=⟨_,rfl⟩
      rw [hg6] at HQ2
      rw [show (Value.pointer (some ⟨X2.heap.size,0,none⟩))=Value.pointer (some ⟨g6,0,none⟩) from by rw [hg6]]
      have hgV2:X2.heap.size≤g6:=by omega
      (try go_wp2_with fail)
      go_meet
      exact ⟨_,rfl,rfl,rfl,HV2.1,HQ2.1,hgV2⟩
    case rest=>
     obtain ⟨g6,rfl,rfl,rfl,hv,hq,hg2⟩:=hcut
     have HV2:=hide hv
     clear hv hq HX2 CN2
     generalize wc=V2 at *
     have hVs:=HV2.1.2.size
     have HLV:=hide (HLX2.1.below HV2.1.2)
     have HKX:=hide (HKX.1.below HV2.1.2 HKX.1.lt)
     have HKP:=hide (HKP.1.below HV2.1.2 HKP.1.lt)
     have HKF:=hide (HKF.1.below HV2.1.2 HKF.1.lt)
     have HQ:=hide (HQ.1.below HV2.1.2 HQ.1.lt)
     by_cases h2:c2.is=true∨c2.e≠0
     ·have HRE:=hide ((show (.error (31,st2.pos):Res Pt)=R from by rw [← HRE.1,if_pos h2]))
      cases hI2:c2.is with
      | true=>
       clear h2
       go_wp2_with fail
       have m1:V2.cell? ⟨rb,1,none⟩=some (.int .i64 (st2.pos:Int)):=(HV2.1.1).blk.cell 1
       have n1:=((far11 (HV2.1.1).blk (show rb≠w.heap.size+1 by omega) (.int .i64 0) (.int .i64 0) (.int .i64 0) (.int .i64 0) (.int .i64 0) (.int .i64 0) (.int .i64 0) (.string ⟨#[]⟩) (.slice none 0 0) (.slice none 0 0) (.slice none 0 0)).cell 1).trans (show _=some (Value.int .i64 (st2.pos:Int)) from rfl)
       obtain ⟨⟨y0,y1,y2,y3,y4,y5,y6,y7,y8,y9,y10⟩,z0,z1,z2,z3,z4,z5,z6,z7,z8,z9,z10⟩:=cells11 HKP.1
       obtain ⟨⟨u20,u21⟩,v20,v21⟩:=cells2 HKF.1
       obtain ⟨⟨p20,p21⟩,q20,q21⟩:=cells2 (far11 HKF.1 (show w.heap.size+2≠w.heap.size+1 by omega) (.int .i64 0) (.int .i64 0) (.int .i64 0) (.int .i64 0) (.int .i64 0) (.int .i64 0) (.int .i64 0) (.string ⟨#[]⟩) (.slice none 0 0) (.slice none 0 0) (.slice none 0 0))
       go_region
       all_goals
        go_wp2_with fail
        (try simp only [Exit.inBlock,Exit.then])
        have hq:=blk13 HKP.1 HKF.1 (by omega) rfl rfl
        exact bodyPost_ret (rcc rfl (w.heap.size+1) (w.heap.size+2) rfl rfl ⟨(hq _ _ _ _ _ _ _ _ _ _ _ _ _).1.drew,(hq _ _ _ _ _ _ _ _ _ _ _ _ _).2.drew⟩) rfl (by rw [← HRE.1];exact ⟨by decide,rfl,st2,nv,((HLV.1.set13 HKP.1 HKF.1 hlt (by omega) (by omega) (by omega) _ _ _ _ _ _ _ _ _ _ _ _ _).below (Below.refl _ _).drew)⟩)
      | false=>
       have hE2:c2.e≠0:=by rcases h2 with h|h;rw [hI2] at h;cases h;exact h
       have e2:(((c2.e:Nat):Int) != 0)=true:=by rw [bne_iff_ne];omega
       clear h2 hE2
       go_wp2_with fail
       have m1:V2.cell? ⟨rb,1,none⟩=some (.int .i64 (st2.pos:Int)):=(HV2.1.1).blk.cell 1
       have n1:=((far11 (HV2.1.1).blk (show rb≠w.heap.size+1 by omega) (.int .i64 0) (.int .i64 0) (.int .i64 0) (.int .i64 0) (.int .i64 0) (.int .i64 0) (.int .i64 0) (.string ⟨#[]⟩) (.slice none 0 0) (.slice none 0 0) (.slice none 0 0)).cell 1).trans (show _=some (Value.int .i64 (st2.pos:Int)) from rfl)
       obtain ⟨⟨y0,y1,y2,y3,y4,y5,y6,y7,y8,y9,y10⟩,z0,z1,z2,z3,z4,z5,z6,z7,z8,z9,z10⟩:=cells11 HKP.1
       obtain ⟨⟨u20,u21⟩,v20,v21⟩:=cells2 HKF.1
       obtain ⟨⟨p20,p21⟩,q20,q21⟩:=cells2 (far11 HKF.1 (show w.heap.size+2≠w.heap.size+1 by omega) (.int .i64 0) (.int .i64 0) (.int .i64 0) (.int .i64 0) (.int .i64 0) (.int .i64 0) (.int .i64 0) (.string ⟨#[]⟩) (.slice none 0 0) (.slice none 0 0) (.slice none 0 0))
       go_region
       all_goals
        go_wp2_with fail
        (try simp only [Exit.inBlock,Exit.then])
        have hq:=blk13 HKP.1 HKF.1 (by omega) rfl rfl
        exact bodyPost_ret (rcc rfl (w.heap.size+1) (w.heap.size+2) rfl rfl ⟨(hq _ _ _ _ _ _ _ _ _ _ _ _ _).1.drew,(hq _ _ _ _ _ _ _ _ _ _ _ _ _).2.drew⟩) rfl (by rw [← HRE.1];exact ⟨by decide,rfl,st2,nv,((HLV.1.set13 HKP.1 HKF.1 hlt (by omega) (by omega) (by omega) _ _ _ _ _ _ _ _ _ _ _ _ _).below (Below.refl _ _).drew)⟩)
     ·have HRE:=hide ((show (.ok (repP x fr c,st2):Res Pt)=R from by rw [← HRE.1,if_neg h2]))
      have hI2:c2.is=false:=by cases hq:c2.is with
       | false=>rfl
       | true=>exact absurd (.inl hq) h2
      have hE2:c2.e=0:=by
       rcases Nat.eq_zero_or_pos c2.e with h|h
       ·exact h
       ·exact absurd (.inr (by omega)) h2
      have e2:(((c2.e:Nat):Int) != 0)=false:=by rw [hE2];rfl
      clear h2 hE2
      by_cases hM:c.mode=2
      ·have HMD:=hide hM
       clear hM
       have CR:=repeat_two u0 u1 u2 u3 u4 u5 u6 s L ln lc K kn kc (fr:Int) (c.lo:Int) c.hi (c.«to» : Int) V2
       unfold ptC at CR
       rw [show (2:Int)=(c.mode:Int) by have:=HMD.1;omega] at CR
       have CR:=hide CR
       obtain ⟨⟨d0,d1,d2,d3⟩,-⟩:=cells4 HQ.1
       obtain ⟨⟨p0,p1,p2,p3,p4,p5,p6,p7,p8,p9,p10⟩,-⟩:=cells11 HKX.1
       go_wp2_with fail
       refine CR.1.mono ?_
       rintro e W ⟨gk,gk2,rfl,hbk2,hbk,hge,hge2,hne,hbw⟩
       have HLW:=hide (HLV.1.below hbw)
       have hrW:=HLV.1.rd
       have hPW:=HP.1.past HLW.1 hrb (show w.heap.size≤w.heap.size+1 by omega) (show w.heap.size≤w.heap.size+2 by omega)
       have HKP:=hide (HKP.1.below hbw HKP.1.lt)
       have HKF:=hide (HKF.1.below hbw HKF.1.lt)
       have hw1:=hPW.wrap (nd:=repN fr c) hbk ⟨⟨by omega,hrW.nv_lt hge⟩,by omega,by omega⟩ rfl
       have hbk2':Blk W gk2 78 (ptN (repN fr c) none 0 (some ⟨gk,0,none⟩) 1 1):=by
        have e1:(repN fr c).mode=0:=by show (if c.mode=1 then (1:Int) else 0)=0;rw [if_neg (by have:=HMD.1;omega)]
        unfold ptN;rw [e1];exact hbk2
       have HPW:=hide (hw1.wrap (nd:={ nd0 with kind:=9,from_:=fr,to_:=c.«to» }) hbk2' ⟨⟨by omega,hrW.nv_lt hge2⟩,by omega,by omega⟩ rfl)
       have HRP:=hide (show repP x fr c=⟨{ nd0 with kind:=9,from_:=fr,to_:=c.«to» },.one ⟨repN fr c,.one x⟩⟩ from by unfold repP;rw [if_pos HMD.1];rfl)
       clear hbk2' hw1 hbk2
       obtain ⟨⟨y0,y1,y2,y3,y4,y5,y6,y7,y8,y9,y10⟩,z0,z1,z2,z3,z4,z5,z6,z7,z8,z9,z10⟩:=cells11 HKP.1
       obtain ⟨⟨u20,u21⟩,v20,v21⟩:=cells2 HKF.1
       clear hPW hbk hbw hrW CR
       go_wp2_with fail
       rw [← HRE.1,HRP.1]
       (try simp only [Exit.inBlock,Exit.then])
       have hq:=blk13 HKP.1 HKF.1 (by omega) rfl rfl
       exact bodyPost_ret (rcc rfl (w.heap.size+1) (w.heap.size+2) rfl rfl (hq _ _ _ _ _ _ _ _ _ _ _ _ _)) rfl (GiveQ.mk (HLW.1.set13 HKP.1 HKF.1 hlt (by omega) (by omega) (by omega) _ _ _ _ _ _ _ _ _ _ _ _ _) (HPW.1.apart _ _ _ _ _ _ _ _ _ _ _ _ _))
      ·have HMD:=hide (show (c.mode:Int)=0∨(c.mode:Int)=1 by have:=HMO.1;omega)
       clear hM
       have CR:=repeat_one u0 u1 u2 u3 u4 u5 u6 s L ln lc K kn kc (fr:Int) (c.lo:Int) c.hi (c.mode:Int) (c.«to» : Int) V2 HMD.1
       unfold ptC at CR
       have CR:=hide CR
       obtain ⟨⟨d0,d1,d2,d3⟩,-⟩:=cells4 HQ.1
       obtain ⟨⟨p0,p1,p2,p3,p4,p5,p6,p7,p8,p9,p10⟩,-⟩:=cells11 HKX.1
       go_wp2_with fail
       refine CR.1.mono ?_
       rintro e W ⟨gk,rfl,hbk,hge,hbw⟩
       have HLW:=hide (HLV.1.below hbw)
       have hrW:=HLV.1.rd
       have hPW:=HP.1.past HLW.1 hrb (show w.heap.size≤w.heap.size+1 by omega) (show w.heap.size≤w.heap.size+2 by omega)
       have HKP:=hide (HKP.1.below hbw HKP.1.lt)
       have HKF:=hide (HKF.1.below hbw HKF.1.lt)
       have HPW:=hide (hPW.wrap (nd:=repN fr c) hbk ⟨⟨by omega,hrW.nv_lt hge⟩,by omega,by omega⟩ rfl)
       have HRP:=hide (show repP x fr c=⟨repN fr c,.one x⟩ from by unfold repP;rw [if_neg (by have:=HMD.1;omega)])
       have HMN:=hide (show (c.mode:Int)=(repN fr c).mode from by show _=(if c.mode=1 then (1:Int) else 0);have:=HMD.1;split<;>omega)
       obtain ⟨⟨y0,y1,y2,y3,y4,y5,y6,y7,y8,y9,y10⟩,z0,z1,z2,z3,z4,z5,z6,z7,z8,z9,z10⟩:=cells11 HKP.1
       obtain ⟨⟨u20,u21⟩,v20,v21⟩:=cells2 HKF.1
       clear hPW hbk hbw hrW CR
       go_wp2_with fail
       rw [← HRE.1,HRP.1]
       rw [HMN.1]
       (try simp only [Exit.inBlock,Exit.then])
       have hq:=blk13 HKP.1 HKF.1 (by omega) rfl rfl
       exact bodyPost_ret (rcc rfl (w.heap.size+1) (w.heap.size+2) rfl rfl (hq _ _ _ _ _ _ _ _ _ _ _ _ _)) rfl (GiveQ.mk (HLW.1.set13 HKP.1 HKF.1 hlt (by omega) (by omega) (by omega) _ _ _ _ _ _ _ _ _ _ _ _ _) (HPW.1.apart _ _ _ _ _ _ _ _ _ _ _ _ _))
theorem quant_any {bs:List UInt8} {A:Option Addr} {cap:Nat} {rb nest:Nat} {st:St} {nv:Value} (h:Rd bs A cap w0 rb nest st nv w) (lo:Nat) (hlo:lo≤w.heap.size) (hrb:rb<lo) (x:Pt) (v:Value) (hp:PtV (Ok lo nv) w x v) (fr:Nat) :
  Calls Tryz.prog 45 #[Value.pointer (some ⟨rb,0,none⟩),v,.int .i64 (fr:Int)] w (GiveQ lo bs A cap w0 rb nest nv w (quantP bs x fr st)):=by
 obtain ⟨u0,u1,u2,u3,u4,u5,u6,s,L,ln,lc,K,kn,kc,rfl,-⟩:=hp.form
 exact quant_walk h lo hlo hrb x u0 u1 u2 u3 u4 u5 u6 s L ln lc K kn kc hp fr _ rfl
end Go.Proofs.YtmlbklcmblofkaaGreatDoor.Pa
