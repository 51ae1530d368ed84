/-
  The reader's escape, walked.
-/
import Derived.Test.YtmlbklcmblofkaaGreatDoorMPaQu
set_option linter.unusedSimpArgs false
set_option linter.unusedVariables false
set_option maxHeartbeats 8000000
set_option maxRecDepth 100000
namespace Go.Proofs.YtmlbklcmblofkaaGreatDoor.Pa
open Go.RowKit Mem
open Sy (g)
open Sc (Lies cells5 It GivesI escz itV)
open Rs (R)
attribute [local go_sem] build_pz build_fl build_f0
attribute [local go_sem] build_hold
variable {bs:List UInt8} {A:Option Addr} {cap rb nest:Nat} {w0 w:World} {st:St} {nv:Value}
structure EscB (X W:World) (g:Nat) (x:It) (L:Option Addr) (lc:Nat):Prop where
 below:Below X.heap.size X W
 blk:Blk W g 116 #[.int .i64 (x.kind:Int),.int .i64 (x.to:Int),.int .i64 (x.num:Int),.string ⟨x.name.toArray⟩,.slice L x.set.length lc]
 ge:X.heap.size≤g
 set:SetV (fun k=>X.heap.size≤k∧k≠g) x.set L lc W
theorem EscB.after {X W5:World} {x:It} {L:Option Addr} {lc:Nat} (hb:Below X.heap.size X W5) (hs:SetV (fun k=>X.heap.size≤k) x.set L lc W5) :
  EscB X (W5.alloc (.cells #[.int .i64 (x.kind:Int),.int .i64 (x.to:Int),.int .i64 (x.num:Int),.string ⟨x.name.toArray⟩,.slice L x.set.length lc] 116)) W5.heap.size x L lc:=
 ⟨hb.alloc hb.size _,Blk.new _ _ _,hb.size,hs.keep (by simp) fun k hk hP=>⟨(Below.refl _ W5).alloc (Nat.le_refl _) _ |>.block k hk,hP,by omega⟩⟩
theorem EscB.ahead {X W5:World} {g:Nat} {x:It} {L:Option Addr} {lc:Nat} (hb:Below X.heap.size X W5) (hk:Blk W5 g 116 #[.int .i64 0,.int .i64 0,.int .i64 0,.string ⟨#[]⟩,.slice none 0 0]) (hg:X.heap.size≤g) (hs:SetV (fun k=>g<k) x.set L lc W5) :
  EscB X (((((W5.setCell ⟨g,0,none⟩ (.int .i64 (x.kind:Int))).setCell ⟨g,1,none⟩ (.int .i64 (x.to:Int))).setCell ⟨g,2,none⟩ (.int .i64 (x.num:Int))).setCell ⟨g,3,none⟩ (.string ⟨x.name.toArray⟩)).setCell ⟨g,4,none⟩ (.slice L x.set.length lc)) g x L lc:=by
 have hgr:W5.grownBy (((((W5.setCell ⟨g,0,none⟩ (.int .i64 (x.kind:Int))).setCell ⟨g,1,none⟩ (.int .i64 (x.to:Int))).setCell ⟨g,2,none⟩ (.int .i64 (x.num:Int))).setCell ⟨g,3,none⟩ (.string ⟨x.name.toArray⟩)).setCell ⟨g,4,none⟩ (.slice L x.set.length lc)) (some g):=
  only_setCell (only_setCell (only_setCell (only_setCell (only_setCell (World.grownBy.refl W5 (some g)) (p:=⟨g,0,none⟩) (.inl rfl) _) (p:=⟨g,1,none⟩) (.inl rfl) _) (p:=⟨g,2,none⟩) (.inl rfl) _) (p:=⟨g,3,none⟩) (.inl rfl) _) (p:=⟨g,4,none⟩) (.inl rfl) _
 have h1:=(((hk.set_ 0 (.int .i64 (x.kind:Int))).set_ 1 (.int .i64 (x.to:Int))).set_ 2 (.int .i64 (x.num:Int))).set_ 3 (.string ⟨x.name.toArray⟩)
 exact ⟨((((hb.setCell (p:=⟨g,0,none⟩) hg _).setCell (p:=⟨g,1,none⟩) hg _).setCell (p:=⟨g,2,none⟩) hg _).setCell (p:=⟨g,3,none⟩) hg _).setCell (p:=⟨g,4,none⟩) hg _,h1.set_ 4 (.slice L x.set.length lc),hg,
  hs.keep hgr.size fun k hk2 hP=>⟨hgr.block k hk2 (fun e=>by injection e with e;omega),by omega,by omega⟩⟩
theorem Rd.nv_lt' {B k:Nat} (_:Rd bs A cap w0 rb nest st nv w) (hnv:∀ k,B≤k→nv.ownBlock≠some k) (hk:B≤k):nv.ownBlock≠some k:=hnv k hk
section
variable {bs:List UInt8} {A:Option Addr} {cap:Nat} {w0:World} {rb nest:Nat} {st:St} {nv:Value} {X wx:World} {g:Nat}
theorem RB.set5 (hx:RB bs A cap w0 rb nest st nv X X) (h:RB bs A cap w0 rb nest st nv X wx) (hg:X.heap.size≤g) (a b c d e:Value):RB bs A cap w0 rb nest st nv X (((((wx.setCell ⟨g,0,none⟩ a).setCell ⟨g,1,none⟩ b).setCell ⟨g,2,none⟩ c).setCell ⟨g,3,none⟩ d).setCell ⟨g,4,none⟩ e):=
 have hb:=((((h.2.setCell (p:=⟨g,0,none⟩) hg a).setCell (p:=⟨g,1,none⟩) hg b).setCell (p:=⟨g,2,none⟩) hg c).setCell (p:=⟨g,3,none⟩) hg d).setCell (p:=⟨g,4,none⟩) hg e
 ⟨hx.1.below hb,hb⟩
end
theorem esc_walk (h:Rd bs A cap w0 rb nest st nv w) (x:It) (hx:escz bs false (st.pos:Int)=x) (R:Res (Pt×Bool))
  (QE:x.eno≠0→R=Except.error (x.eno,st.pos))
  (QL:x.eno=0→x.kind=1→R=Except.ok ((⟨{ nd0 with kind:=2,set:=casedP st.fl [((x.num:Int),(x.num:Int))],from_:=(st.pos:Int),to_:=(x.to:Int) },.nil⟩,true),{ st with pos:=x.to })∧Rs.Least [((x.num:Int),(x.num:Int))]∧x.to≤bs.length)
  (QC:x.eno=0→x.kind=2→R=Except.ok ((⟨{ nd0 with kind:=2,set:=casedP st.fl x.set,from_:=(st.pos:Int),to_:=(x.to:Int) },.nil⟩,true),{ st with pos:=x.to })∧x.to≤bs.length)
  (QH:x.eno=0→x.kind=3→R=Except.ok ((⟨{ nd0 with kind:=3,num:=(x.num:Int),from_:=(st.pos:Int),to_:=(x.to:Int) },.nil⟩,false),{ st with pos:=x.to })∧x.to≤bs.length)
  (QB:x.eno=0→4≤x.kind→R=Except.ok ((⟨{ nd0 with kind:=4,num:=(x.num:Int),name:=x.name,mode:=if st.fl.i then 1 else 0,from_:=(st.pos:Int),to_:=(x.to:Int) },.nil⟩,true),{ st with pos:=x.to })∧x.to≤bs.length)
  (QK:x.eno=0→1≤x.kind) :
  Calls Tryz.prog 54 #[Value.pointer (some ⟨rb,0,none⟩)] w (GiveA bs A cap w0 rb nest nv w R):=by
 obtain ⟨hbb,HS,HKP,HKF,HB,HW,hlt,habv⟩:=pro h
 have CN:=hide (fun W (hr:RB bs A cap w0 rb nest st nv ((w.alloc (.cells pz 78)).alloc (.cells fz 80)) W)=>Sc.escape_any bs A cap (st.pos:Int) W hr.1.pvW hr.1.glW)
 rw [hx] at CN
 unfold Sc.GivesI itV at CN
 have QE:=hide QE
 have QL:=hide QL
 have QC:=hide QC
 have QH:=hide QH
 have QB:=hide QB
 have QK:=hide QK
 clear h hbb hx
 go_enter Tryz.func54,Tryz.ntmps54
 go_wp2_with fail
 generalize ((w.alloc (.cells pz 78)).alloc (.cells fz 80))=X at *
 have hXs:w.heap.size+2≤X.heap.size:=HKF.1.lt
 have HX:=HS
 go_cut [5,6] from 7 to 18 (fun q er wx=>∃ g5 L5 lc5,q=.pointer (some ⟨g5,0,none⟩)∧er=.int .i64 (x.eno:Int)∧RB bs A cap w0 rb nest st nv X wx∧EscB X wx g5 x L5 lc5)
 case first=>
  refine wp_region_noPanic ?_
  refine wp_region_held_drew (S:=(fun wx=>Hd (RB bs A cap w0 rb nest st nv X wx)∧wx.cell? ⟨rb,0,none⟩=some (.slice A bs.length cap)∧wx.cell? ⟨rb,1,none⟩=some (.int .i64 (st.pos:Int)))) (by kernel_rfl) (RB.held' (HX.1.below (Below.refl _ _).drew)) (fun hHeld=>?_)
  refine tkH 0 (some 8) ?vu1 rfl ?yu1 hHeld ?ru1
  case yu1=>(intro w hSw;(try dsimp only at hSw);go_simp;try with_reducible rfl)
  try simp only [aP]
  refine tkH 1 (some 9) ?vu2 rfl ?yu2 hHeld ?ru2
  case yu2=>(intro w hSw;(try dsimp only at hSw);go_simp;try with_reducible rfl)
  try simp only [aP]
  refine tkH 2 (some 10) ?vu3 rfl ?yu3 hHeld ?ru3
  case yu3=>(intro w hSw;(try dsimp only at hSw);go_simp;try with_reducible rfl)
  try simp only [aP]
  refine tkH 3 (some 11) ?vu4 rfl ?yu4 hHeld ?ru4
  case yu4=>(intro w hSw;(try dsimp only at hSw);go_simp;try with_reducible rfl)
  try simp only [aP]
  refine tkH 4 (some 12) ?vu5 rfl ?yu5 hHeld ?ru5
  case yu5=>(intro w hSw;(try dsimp only at hSw);go_simp;try with_reducible rfl)
  try simp only [aP]
  refine tkH 5 (some 13) ?vu6 rfl ?yu6 hHeld ?ru6
  case yu6=>(intro w hSw;(try dsimp only at hSw);go_simp;try with_reducible rfl)
  try simp only [aP]
  refine tkH 6 (some 14) ?vu7 rfl ?yu7 hHeld ?ru7
  case yu7=>(intro w hSw;(try dsimp only at hSw);go_simp;try with_reducible rfl)
  try simp only [aP]
  refine tkH 7 (some 15) ?vu8 rfl ?yu8 hHeld ?ru8
  case yu8=>(intro w hSw;(try dsimp only at hSw);go_simp;try with_reducible rfl)
  try simp only [aP]
  refine wpAnyH_ready (rs:=[8,12]) (by kernel_rfl) (by simp) ?_
  refine AllReadyH.cons (o:=⟨some 16,_,_,_,_,_⟩) rfl (fun K hK=>?_) (AllReadyH.cons (o:=⟨some 5,_,_,_,_,_⟩) rfl (fun K hK=>?_) AllReadyH.nil)
  ·go_simp
   have HC0:=hHeld.1
   refine (CN.1 _ HC0.1).mono ?_
   rintro e w5 ⟨v5,rfl,hL,hb⟩
   have HC:=hide (HC0.1.below hb)
   obtain ⟨L5,lc5,rfl,hset⟩:=SetV.of_lies hL
   have HSV:=hide (hset.keep (Q:=fun k=>X.heap.size≤k) (Nat.le_refl _) fun k _ hk=>⟨rfl,Nat.le_trans HC0.1.2.size hk⟩)
   clear hb HC0 hset hL
   go_wp2_with fail
   refine hK.out _ _ (RB.held' HC.1) (fun hHeld2=>?_)
   clear hK K
   try simp only [aP]
   refine tkH 9 (some 7) ?vu9 rfl ?yu9 hHeld2 ?ru9
   case yu9=>(intro w hSw;(try dsimp only at hSw);go_simp;try with_reducible rfl)
   try simp only [aP]
   refine tkH 10 (some 17) ?vu10 rfl ?yu10 hHeld2 ?ru10
   case yu10=>(intro w hSw;(try dsimp only at hSw);go_simp;try with_reducible rfl)
   try simp only [aP]
   refine tkH 11 (some 18) ?vu11 rfl ?yu11 hHeld2 ?ru11
   case yu11=>(intro w hSw;(try dsimp only at hSw);go_simp;try with_reducible rfl)
   try simp only [aP]
   refine wpAnyH_ready (rs:=[12]) (by kernel_rfl) (by simp) ?_
   refine AllReadyH.cons (o:=⟨some 5,_,_,_,_,_⟩) rfl (fun K hK=>?_) AllReadyH.nil
   go_simp
   refine hK.out _ _ (RB.held' (HC.1.below ((Below.refl _ _).alloc (Nat.le_refl _) _))) (fun hHeld3=>?_)
   clear hK K
   try simp only [aP]
   refine wpAnyH_ready (rs:=[13]) (by kernel_rfl) (by simp) ?_
   refine AllReadyH.cons (o:=⟨none,_,_,_,_,_⟩) rfl (fun K hK=>?_) AllReadyH.nil
   go_simp
   refine hK.out _ _ (RB.held' (HC.1.below ((Below.refl _ _).alloc (Nat.le_refl _) _))) (fun hHeld4=>?_)
   clear hK K
   try simp only [aP]
   refine wpAnyH_ready (rs:=[14]) (by kernel_rfl) (by simp) ?_
   refine AllReadyH.cons (o:=⟨some 6,_,_,_,_,_⟩) rfl (fun K hK=>?_) AllReadyH.nil
   go_simp
   refine hK.out _ _ (RB.held' (HC.1.below ((Below.refl _ _).alloc (Nat.le_refl _) _))) (fun hHeld5=>?_)
   clear hK K
   try simp only [aP]
   refine wpAnyH_done (by kernel_rfl) ?_ _
   refine NoPanic.normal ?_
   (try clear hHeld hHeld2 hHeld3 hHeld4 hHeld5)
   (try clear CN)
   have HE:=hide (EscB.after HC.1.2 HSV.1)
   have HV:=hide (HC.1.below ((Below.refl w5.heap.size w5).alloc (Nat.le_refl _) (.cells #[.int .i64 (x.kind:Int),.int .i64 (x.to:Int),.int .i64 (x.num:Int),.string ⟨x.name.toArray⟩,.slice L5 x.set.length lc5] 116)))
   clear HC HSV
   generalize (w5.alloc (.cells #[.int .i64 (x.kind:Int),.int .i64 (x.to:Int),.int .i64 (x.num:Int),.string ⟨x.name.toArray⟩,.slice L5 x.set.length lc5] 116))=V at *
   generalize w5.heap.size=g5 at *
   (try go_wp2_with fail)
   go_meet
   exact ⟨g5,L5,lc5,rfl,rfl,HV.1,HE.1⟩
  ·go_simp
   refine hK.out _ _ (by first|exact RB.held' (HX.1.below ((Below.refl _ _).alloc (Nat.le_refl _) _).drew)|exact RB.held' (HX.1.below ((Below.refl _ _).drew.alloc (Nat.le_refl _) _))) (fun hHeld2=>?_)
   clear hK K
   try simp only [aP]
   have HG0:=hide (show Blk _ X.heap.size 116 #[.int .i64 0,.int .i64 0,.int .i64 0,.string ⟨#[]⟩,.slice none 0 0] from (by first|exact (Blk.new X _ _).drew|exact Blk.new X.drew _ _))
   refine wpAnyH_ready (rs:=[8]) (by kernel_rfl) (by simp) ?_
   refine AllReadyH.cons (o:=⟨some 16,_,_,_,_,_⟩) rfl (fun K hK=>?_) AllReadyH.nil
   go_simp
   have HC0:=hHeld2.1
   refine (CN.1 _ HC0.1).mono ?_
   rintro e w5 ⟨v5,rfl,hL,hb⟩
   have HC:=hide (HC0.1.below hb)
   have HQ0:=hide (HG0.1.below hb HG0.1.lt)
   obtain ⟨L5,lc5,rfl,hset⟩:=SetV.of_lies hL
   have HSV:=hide (hset.keep (Q:=fun k=>X.heap.size<k) (Nat.le_refl _) fun k _ hk=>⟨rfl,by have:=HG0.1.lt;omega⟩)
   clear hb HC0 hset hL
   go_wp2_with fail
   refine hK.out _ _ (RB.held' HC.1) (fun hHeld3=>?_)
   clear hK K
   try simp only [aP]
   refine tkH 9 (some 7) ?vu12 rfl ?yu12 hHeld3 ?ru12
   case yu12=>(intro w hSw;(try dsimp only at hSw);go_simp;try with_reducible rfl)
   try simp only [aP]
   refine tkH 10 (some 17) ?vu13 rfl ?yu13 hHeld3 ?ru13
   case yu13=>(intro w hSw;(try dsimp only at hSw);go_simp;try with_reducible rfl)
   try simp only [aP]
   refine tkH 11 (some 18) ?vu14 rfl ?yu14 hHeld3 ?ru14
   case yu14=>(intro w hSw;(try dsimp only at hSw);go_simp;try with_reducible rfl)
   try simp only [aP]
   obtain ⟨⟨d0,d1,d2,d3,d4⟩,f0,f1,f2,f3,f4⟩:=cells5 HQ0.1
   refine wpAnyH_ready (rs:=[13]) (by kernel_rfl) (by simp) ?_
   refine AllReadyH.cons (o:=⟨none,_,_,_,_,_⟩) rfl (fun K hK=>?_) AllReadyH.nil
   go_simp
   refine hK.out _ _ (RB.held' (RB.set5 HX.1 HC.1 (Nat.le_refl _) _ _ _ _ _)) (fun hHeld4=>?_)
   clear hK K
   try simp only [aP]
   refine wpAnyH_ready (rs:=[14]) (by kernel_rfl) (by simp) ?_
   refine AllReadyH.cons (o:=⟨some 6,_,_,_,_,_⟩) rfl (fun K hK=>?_) AllReadyH.nil
   go_simp
   refine hK.out _ _ (RB.held' (RB.set5 HX.1 HC.1 (Nat.le_refl _) _ _ _ _ _)) (fun hHeld5=>?_)
   clear hK K
   try simp only [aP]
   refine wpAnyH_done (by kernel_rfl) ?_ _
   refine NoPanic.normal ?_
   (try clear hHeld hHeld2 hHeld3 hHeld4 hHeld5)
   (try clear CN)
   have HE:=hide (EscB.ahead HC.1.2 HQ0.1 (Nat.le_refl X.heap.size) HSV.1)
   have HV:=hide (RB.set5 HX.1 HC.1 (Nat.le_refl X.heap.size) (.int .i64 (x.kind:Int)) (.int .i64 (x.to:Int)) (.int .i64 (x.num:Int)) (.string ⟨x.name.toArray⟩) (.slice L5 x.set.length lc5))
   clear HC HQ0 d0 d1 d2 d3 d4 f0 f1 f2 f3 f4 HG0 HSV
   generalize (((((w5.setCell ⟨X.heap.size,0,none⟩ (.int .i64 (x.kind:Int))).setCell ⟨X.heap.size,1,none⟩ (.int .i64 (x.to:Int))).setCell ⟨X.heap.size,2,none⟩ (.int .i64 (x.num:Int))).setCell ⟨X.heap.size,3,none⟩ (.string ⟨x.name.toArray⟩)).setCell ⟨X.heap.size,4,none⟩ (.slice L5 x.set.length lc5))=V at *
   (try go_wp2_with fail)
   go_meet
   exact ⟨X.heap.size,L5,lc5,rfl,rfl,HV.1,HE.1⟩
 case rest=>
  obtain ⟨g5,L5,lc5,rfl,rfl,hv,he⟩:=hcut
  have HV:=hide hv
  have HE:=hide he
  clear hv he CN
  generalize wc=V at *
  by_cases hE:x.eno≠0
  ·have hR:=QE.1 hE
   subst hR
   have e0:(((x.eno:Nat):Int) != 0)=true:=by rw [bne_iff_ne];omega
   have HN:=hide hE
   clear hE
   clear QE QL QC QH QB QK
   have hVs:=HV.1.2.size
   have hgX:=HE.1.ge
   have HLV:=hide ((Left.of_below HW.1 (HB.1.trans (HV.1.2.mono HB.1.size))))
   have HKP:=hide (HKP.1.below HV.1.2 HKP.1.lt)
   have HKF:=hide (HKF.1.below HV.1.2 HKF.1.lt)
   have HQ:=hide HE.1.blk
   have hgV:g5<V.heap.size:=HQ.1.lt
   obtain ⟨⟨d0,d1,d2,d3,d4⟩,-⟩:=cells5 HQ.1
   go_wp2_with fail
   have m1:V.cell? ⟨rb,1,none⟩=some (.int .i64 (st.pos:Int)):=(HV.1.1).blk.cell 1
   have n1:=((far11 (HV.1.1).blk (show rb≠w.heap.size by omega) (.int .i64 0) (.int .i64 0) (.int .i64 0) (.int .i64 0) (.int .i64 0) (.int .i64 0) (.int .i64 0) (.string ⟨#[]⟩) (.slice none 0 0) (.slice none 0 0) (.slice none 0 0)).cell 1).trans (show _=some (Value.int .i64 (st.pos:Int)) from rfl)
   obtain ⟨⟨y0,y1,y2,y3,y4,y5,y6,y7,y8,y9,y10⟩,z0,z1,z2,z3,z4,z5,z6,z7,z8,z9,z10⟩:=cells11 HKP.1
   obtain ⟨⟨u20,u21⟩,v20,v21⟩:=cells2 HKF.1
   obtain ⟨⟨p20,p21⟩,q20,q21⟩:=cells2 (far11 HKF.1 (show w.heap.size+1≠w.heap.size by omega) (.int .i64 0) (.int .i64 0) (.int .i64 0) (.int .i64 0) (.int .i64 0) (.int .i64 0) (.int .i64 0) (.string ⟨#[]⟩) (.slice none 0 0) (.slice none 0 0) (.slice none 0 0))
   go_region
   all_goals
    go_wp2_with fail
    (try simp only [Exit.inBlock,Exit.then])
    have hq:=blk13 HKP.1 HKF.1 (by omega) rfl rfl
    exact bodyPost_ret (rctc rfl w.heap.size (w.heap.size+1) _ rfl rfl rfl ⟨(hq _ _ _ _ _ _ _ _ _ _ _ _ _).1.drew,(hq _ _ _ _ _ _ _ _ _ _ _ _ _).2.drew⟩) rfl ⟨HN.1,rfl,st,nv,((HLV.1.set13 HKP.1 HKF.1 hlt (Nat.le_refl _) (by omega) (by omega) _ _ _ _ _ _ _ _ _ _ _ _ _).below (Below.refl _ _).drew)⟩
  ·have hE:x.eno=0:=by simpa using hE
   by_cases hK:x.kind=1
   ·obtain ⟨hR,hNM,hTO⟩:=QL.1 hE hK
    subst hR
    have e0:(((x.eno:Nat):Int) != 0)=false:=by rw [hE];rfl
    clear hE
    have k1:((x.kind:Int)==1)=true:=by rw [hK];rfl
    have k2:((x.kind:Int)==2)=false:=by rw [hK];rfl
    have k3:((x.kind:Int)==3)=false:=by rw [hK];rfl
    have HOF:=hide (show Rs.ofL (x.num:Int)=[((x.num:Int),(x.num:Int))] from Rs.mk_of_least hNM)
    have HTO:=hide hTO
    clear hK hNM hTO
    clear QE QL QC QH QB QK
    have hVs:=HV.1.2.size
    have hgX:=HE.1.ge
    have HLV:=hide ((Left.of_below HW.1 (HB.1.trans (HV.1.2.mono HB.1.size))))
    have HKP:=hide (HKP.1.below HV.1.2 HKP.1.lt)
    have HKF:=hide (HKF.1.below HV.1.2 HKF.1.lt)
    have HQ:=hide HE.1.blk
    have hgV:g5<V.heap.size:=HQ.1.lt
    obtain ⟨⟨d0,d1,d2,d3,d4⟩,-⟩:=cells5 HQ.1
    have hnv:∀ k,V.heap.size≤k→nv.ownBlock≠some k:=fun k hk=>HV.1.1.nv_lt hk
    go_wp2_with fail
    refine wp_region_noPanic ?_
    refine wp_region_held_drew (S:=(fun wx=>Hd (Blk wx g5 116 #[.int .i64 (x.kind:Int),.int .i64 (x.to:Int),.int .i64 (x.num:Int),.string ⟨x.name.toArray⟩,.slice L5 x.set.length lc5])∧wx.cell? ⟨g5,1,none⟩=some (.int .i64 (x.to:Int))∧wx.cell? ⟨g5,2,none⟩=some (.int .i64 (x.num:Int)))) (by kernel_rfl) (⟨hide (HQ.1.drew),(HQ.1.drew).cell 1,(HQ.1.drew).cell 2⟩) (fun hHeld=>?_)
    refine tkH 0 (some 32) ?vu15 rfl ?yu15 hHeld ?ru15
    case yu15=>(intro w hSw;(try dsimp only at hSw);go_simp;try with_reducible rfl)
    try simp only [aP]
    refine tkH 1 (some 33) ?vu16 rfl ?yu16 hHeld ?ru16
    case yu16=>(intro w hSw;(try dsimp only at hSw);go_simp;try with_reducible rfl)
    try simp only [aP]
    refine tkH 2 (some 34) ?vu17 rfl ?yu17 hHeld ?ru17
    case yu17=>(intro w hSw;(try dsimp only at hSw);go_simp;try with_reducible rfl)
    try simp only [aP]
    refine tkH 3 (some 35) ?vu18 rfl ?yu18 hHeld ?ru18
    case yu18=>(intro w hSw;(try dsimp only at hSw);go_simp;try with_reducible rfl)
    try simp only [aP]
    refine tkH 6 (some 38) ?vu19 rfl ?yu19 hHeld ?ru19
    case yu19=>(intro w hSw;(try dsimp only at hSw);go_simp;try with_reducible rfl)
    try simp only [aP]
    refine tkH 7 (some 39) ?vu20 rfl ?yu20 hHeld ?ru20
    case yu20=>(intro w hSw;(try dsimp only at hSw);go_simp;try with_reducible rfl)
    try simp only [aP]
    refine tkH 9 (some 41) ?vu21 rfl ?yu21 hHeld ?ru21
    case yu21=>(intro w hSw;(try dsimp only at hSw);go_simp;try with_reducible rfl)
    try simp only [aP]
    refine wpAnyH_ready (rs:=[4]) (by kernel_rfl) (by simp) ?_
    refine AllReadyH.cons (o:=⟨some 36,_,_,_,_,_⟩) rfl (fun K hK=>?_) AllReadyH.nil
    go_simp
    refine (Rs.of_any (x.num:Int) _).mono ?_
    rintro e w6 ⟨v6,rfl,hcut⟩
    obtain ⟨hl6,hb6⟩:=Lies.of (Cl.cut_gives' hcut)
    rw [HOF.1] at hl6
    have hr6:=(HV.1.1.below (Below.refl _ _).drew).below hb6
    have hq6:=(HQ.1.drew).below hb6 HQ.1.drew.lt
    go_wp2_with fail
    refine hK.out _ _ (⟨hide (hq6),(hq6).cell 1,(hq6).cell 2⟩) (fun hHeld2=>?_)
    clear hK K
    try simp only [aP]
    refine wpAnyH_ready (rs:=[5]) (by kernel_rfl) (by simp) ?_
    refine AllReadyH.cons (o:=⟨some 37,_,_,_,_,_⟩) rfl (fun K hK=>?_) AllReadyH.nil
    go_simp
    refine (cased_any hr6 _ V.heap.size v6 (hl6.mono (Nat.le_refl _)) hb6.size (by simp)).mono ?_
    rintro e w7 ⟨v7,rfl,hL7,hb7⟩
    obtain ⟨L7,lc7,rfl,hs7⟩:=SetV.of_lies hL7
    have hr7:=hr6.below hb7
    have hq7:=hq6.below hb7 hq6.lt
    have hkp7:=(HKP.1.drew.below hb6 HKP.1.drew.lt).below hb7 ((HKP.1.drew.below hb6 HKP.1.drew.lt).lt)
    have hkf7:=(HKF.1.drew.below hb6 HKF.1.drew.lt).below hb7 ((HKF.1.drew.below hb6 HKF.1.drew.lt).lt)
    have hl7:=((HLV.1.below (Below.refl _ _).drew).below hb6).below hb7
    have hVw7:V.heap.size≤w7.heap.size:=Nat.le_trans hb6.size hb7.size
    go_wp2_with fail
    refine hK.out _ _ (⟨hide (hq7),(hq7).cell 1,(hq7).cell 2⟩) (fun hHeld3=>?_)
    clear hK K
    try simp only [aP]
    refine wpAnyH_ready (rs:=[8]) (by kernel_rfl) (by simp) ?_
    refine AllReadyH.cons (o:=⟨some 40,_,_,_,_,_⟩) rfl (fun K hK=>?_) AllReadyH.nil
    go_simp
    refine (set_any hr7 none L7 _ lc7 x.to HTO.1).mono ?_
    rintro e w8 ⟨rfl,hr8,ht8⟩
    have HK8:=hide (Turn.blk ht8 hkp7 (by omega))
    have HF8:=hide (Turn.blk ht8 hkf7 (by omega))
    have HQ8:=hide (Turn.blk ht8 hq7 (by omega))
    obtain ⟨⟨y0,y1,y2,y3,y4,y5,y6,y7,y8,y9,y10⟩,z0,z1,z2,z3,z4,z5,z6,z7,z8,z9,z10⟩:=cells11 HK8.1
    obtain ⟨⟨u20,u21⟩,v20,v21⟩:=cells2 HF8.1
    have HL8:=hide (Left.then hl7 (Left.of_turn hr8 ht8))
    have hw7s:=hb7.size
    have HP8:=hide (show PtV (Ok (w.heap.size+2) nv) w8 ⟨{ nd0 with kind:=2,set:=casedP st.fl [((x.num:Int),(x.num:Int))],from_:=(st.pos:Int),to_:=(x.to:Int) },.nil⟩ _ from ⟨L7,lc7,none,0,rfl,hs7.keep ht8.size fun k hk hP=>⟨ht8.block k hk (by omega) (by simp),by omega,hl7.rd.nv_lt' hnv hP⟩,KV.nil _ _⟩)
    clear hr8 ht8 hkp7 hkf7 hq7 hl7 hs7
    go_wp2_with fail
    refine hK.out _ _ (⟨hide HQ8.1,HQ8.1.cell 1,HQ8.1.cell 2⟩) (fun hHeld4=>?_)
    clear hK K
    try simp only [aP]
    refine wpAnyH_ready (rs:=[10]) (by kernel_rfl) (by simp) ?_
    refine AllReadyH.cons (o:=⟨none,_,_,_,_,_⟩) rfl (fun K hK=>?_) AllReadyH.nil
    go_simp
    refine hK.out _ _ (⟨hide (far11 HQ8.1 (show g5≠w.heap.size by omega) _ _ _ _ _ _ _ _ _ _ _),(far11 HQ8.1 (show g5≠w.heap.size by omega) _ _ _ _ _ _ _ _ _ _ _).cell 1,(far11 HQ8.1 (show g5≠w.heap.size by omega) _ _ _ _ _ _ _ _ _ _ _).cell 2⟩) (fun hHeld5=>?_)
    clear hK K
    try simp only [aP]
    refine wpAnyH_ready (rs:=[11]) (by kernel_rfl) (by simp) ?_
    refine AllReadyH.cons (o:=⟨some 3,_,_,_,_,_⟩) rfl (fun K hK=>?_) AllReadyH.nil
    go_simp
    refine hK.out _ _ (⟨hide (far11 HQ8.1 (show g5≠w.heap.size by omega) _ _ _ _ _ _ _ _ _ _ _),(far11 HQ8.1 (show g5≠w.heap.size by omega) _ _ _ _ _ _ _ _ _ _ _).cell 1,(far11 HQ8.1 (show g5≠w.heap.size by omega) _ _ _ _ _ _ _ _ _ _ _).cell 2⟩) (fun hHeld6=>?_)
    clear hK K
    try simp only [aP]
    refine wpAnyH_ready (rs:=[12]) (by kernel_rfl) (by simp) ?_
    refine AllReadyH.cons (o:=⟨none,_,_,_,_,_⟩) rfl (fun K hK=>?_) AllReadyH.nil
    go_simp
    refine hK.out _ _ (⟨hide (far2 (far11 HQ8.1 (show g5≠w.heap.size by omega) _ _ _ _ _ _ _ _ _ _ _) (show g5≠w.heap.size+1 by omega) _ _),(far2 (far11 HQ8.1 (show g5≠w.heap.size by omega) _ _ _ _ _ _ _ _ _ _ _) (show g5≠w.heap.size+1 by omega) _ _).cell 1,(far2 (far11 HQ8.1 (show g5≠w.heap.size by omega) _ _ _ _ _ _ _ _ _ _ _) (show g5≠w.heap.size+1 by omega) _ _).cell 2⟩) (fun hHeld7=>?_)
    clear hK K
    try simp only [aP]
    refine wpAnyH_done (by kernel_rfl) ?_ _
    refine NoPanic.normal ?_
    (try clear hHeld hHeld2 hHeld3 hHeld4 hHeld5 hHeld6 hHeld7)
    go_wp2_with fail
    (try simp only [Exit.inBlock,Exit.then])
    have hq:=blk13 HK8.1 HF8.1 (by omega) rfl rfl
    exact bodyPost_ret (rctc rfl w.heap.size (w.heap.size+1) _ rfl rfl rfl (hq _ _ _ _ _ _ _ _ _ _ _ _ _)) rfl ⟨_,nv,rfl,(HP8.1.set13 (by omega) (by omega) _ _ _ _ _ _ _ _ _ _ _ _ _).lower (by omega),HL8.1.set13 HK8.1 HF8.1 hlt (Nat.le_refl _) (by omega) (by omega) _ _ _ _ _ _ _ _ _ _ _ _ _⟩
   ·have hk1n:x.kind≠1:=hK
    clear hK
    by_cases hK:x.kind=2
    ·obtain ⟨hR,hTO⟩:=QC.1 hE hK
     subst hR
     have e0:(((x.eno:Nat):Int) != 0)=false:=by rw [hE];rfl
     clear hE
     have k1:((x.kind:Int)==1)=false:=by rw [hK];rfl
     have k2:((x.kind:Int)==2)=true:=by rw [hK];rfl
     have k3:((x.kind:Int)==3)=false:=by rw [hK];rfl
     have HTO:=hide hTO
     have HLEN:=hide (show x.set.length≤40000 from Nat.le_trans (Sc.set_len x) (by omega))
     clear hK hTO
     clear QE QL QC QH QB QK
     have hVs:=HV.1.2.size
     have hgX:=HE.1.ge
     have HLV:=hide ((Left.of_below HW.1 (HB.1.trans (HV.1.2.mono HB.1.size))))
     have HKP:=hide (HKP.1.below HV.1.2 HKP.1.lt)
     have HKF:=hide (HKF.1.below HV.1.2 HKF.1.lt)
     have HQ:=hide HE.1.blk
     have hgV:g5<V.heap.size:=HQ.1.lt
     obtain ⟨⟨d0,d1,d2,d3,d4⟩,-⟩:=cells5 HQ.1
     have hnw:∀ k,w.heap.size≤k→nv.ownBlock≠some k:=fun k hk=>HW.1.nv_lt hk
     go_wp2_with fail
     refine wp_region_noPanic ?_
     refine wp_region_held_drew (S:=(fun wx=>Hd (Blk wx g5 116 #[.int .i64 (x.kind:Int),.int .i64 (x.to:Int),.int .i64 (x.num:Int),.string ⟨x.name.toArray⟩,.slice L5 x.set.length lc5])∧wx.cell? ⟨g5,1,none⟩=some (.int .i64 (x.to:Int))∧wx.cell? ⟨g5,4,none⟩=some (.slice L5 x.set.length lc5))) (by kernel_rfl) (⟨hide (HQ.1.drew),(HQ.1.drew).cell 1,(HQ.1.drew).cell 4⟩) (fun hHeld=>?_)
     refine tkH 0 (some 44) ?vu22 rfl ?yu22 hHeld ?ru22
     case yu22=>(intro w hSw;(try dsimp only at hSw);go_simp;try with_reducible rfl)
     try simp only [aP]
     refine tkH 1 (some 45) ?vu23 rfl ?yu23 hHeld ?ru23
     case yu23=>(intro w hSw;(try dsimp only at hSw);go_simp;try with_reducible rfl)
     try simp only [aP]
     refine tkH 2 (some 46) ?vu24 rfl ?yu24 hHeld ?ru24
     case yu24=>(intro w hSw;(try dsimp only at hSw);go_simp;try with_reducible rfl)
     try simp only [aP]
     refine tkH 3 (some 47) ?vu25 rfl ?yu25 hHeld ?ru25
     case yu25=>(intro w hSw;(try dsimp only at hSw);go_simp;try with_reducible rfl)
     try simp only [aP]
     refine tkH 5 (some 49) ?vu26 rfl ?yu26 hHeld ?ru26
     case yu26=>(intro w hSw;(try dsimp only at hSw);go_simp;try with_reducible rfl)
     try simp only [aP]
     refine tkH 6 (some 50) ?vu27 rfl ?yu27 hHeld ?ru27
     case yu27=>(intro w hSw;(try dsimp only at hSw);go_simp;try with_reducible rfl)
     try simp only [aP]
     refine tkH 8 (some 52) ?vu28 rfl ?yu28 hHeld ?ru28
     case yu28=>(intro w hSw;(try dsimp only at hSw);go_simp;try with_reducible rfl)
     try simp only [aP]
     refine wpAnyH_ready (rs:=[4]) (by kernel_rfl) (by simp) ?_
     refine AllReadyH.cons (o:=⟨some 48,_,_,_,_,_⟩) rfl (fun K hK=>?_) AllReadyH.nil
     go_simp
     have hr6:=(HV.1.1.below (Below.refl _ _).drew)
     have hl6:Lies X.heap.size x.set (.slice L5 x.set.length lc5) V.drew:=by obtain ⟨a1,a2,a3,a4⟩:=HE.1.set.keep (Q:=fun k=>X.heap.size≤k) (w':=V.drew) (Nat.le_refl _) (fun k hk hP=>⟨rfl,hP.1⟩);exact ⟨L5,lc5,rfl,a1,a2,a3,a4⟩
     refine (cased_any hr6 _ X.heap.size _ hl6 (by exact hVs) HLEN.1).mono ?_
     rintro e w7 ⟨v7,rfl,hL7,hb7⟩
     obtain ⟨L7,lc7,rfl,hs7⟩:=SetV.of_lies hL7
     have hr7:=hr6.below hb7
     have hq7:=HQ.1.drew.below hb7 HQ.1.drew.lt
     have hkp7:=HKP.1.drew.below hb7 HKP.1.drew.lt
     have hkf7:=HKF.1.drew.below hb7 HKF.1.drew.lt
     have hl7:=(HLV.1.below (Below.refl _ _).drew).below hb7
     have hVw7:V.heap.size≤w7.heap.size:=hb7.size
     go_wp2_with fail
     refine hK.out _ _ (⟨hide (hq7),(hq7).cell 1,(hq7).cell 4⟩) (fun hHeld3=>?_)
     clear hK K
     try simp only [aP]
     refine wpAnyH_ready (rs:=[7]) (by kernel_rfl) (by simp) ?_
     refine AllReadyH.cons (o:=⟨some 51,_,_,_,_,_⟩) rfl (fun K hK=>?_) AllReadyH.nil
     go_simp
     refine (set_any hr7 none L7 _ lc7 x.to HTO.1).mono ?_
     rintro e w8 ⟨rfl,hr8,ht8⟩
     have HK8:=hide (Turn.blk ht8 hkp7 (by omega))
     have HF8:=hide (Turn.blk ht8 hkf7 (by omega))
     have HQ8:=hide (Turn.blk ht8 hq7 (by omega))
     obtain ⟨⟨y0,y1,y2,y3,y4,y5,y6,y7,y8,y9,y10⟩,z0,z1,z2,z3,z4,z5,z6,z7,z8,z9,z10⟩:=cells11 HK8.1
     obtain ⟨⟨u20,u21⟩,v20,v21⟩:=cells2 HF8.1
     have HL8:=hide (Left.then hl7 (Left.of_turn hr8 ht8))
     have hw7s:=hb7.size
     have HP8:=hide (show PtV (Ok (w.heap.size+2) nv) w8 ⟨{ nd0 with kind:=2,set:=casedP st.fl x.set,from_:=(st.pos:Int),to_:=(x.to:Int) },.nil⟩ _ from ⟨L7,lc7,none,0,rfl,hs7.keep ht8.size fun k hk hP=>⟨ht8.block k hk (by omega) (by simp),by omega,hl7.rd.nv_lt' (B:=w.heap.size) hnw (by omega)⟩,KV.nil _ _⟩)
     clear hr8 ht8 hkp7 hkf7 hq7 hl7 hs7
     go_wp2_with fail
     refine hK.out _ _ (⟨hide HQ8.1,HQ8.1.cell 1,HQ8.1.cell 4⟩) (fun hHeld4=>?_)
     clear hK K
     try simp only [aP]
     refine wpAnyH_ready (rs:=[9]) (by kernel_rfl) (by simp) ?_
     refine AllReadyH.cons (o:=⟨none,_,_,_,_,_⟩) rfl (fun K hK=>?_) AllReadyH.nil
     go_simp
     refine hK.out _ _ (⟨hide (far11 HQ8.1 (show g5≠w.heap.size by omega) _ _ _ _ _ _ _ _ _ _ _),(far11 HQ8.1 (show g5≠w.heap.size by omega) _ _ _ _ _ _ _ _ _ _ _).cell 1,(far11 HQ8.1 (show g5≠w.heap.size by omega) _ _ _ _ _ _ _ _ _ _ _).cell 4⟩) (fun hHeld5=>?_)
     clear hK K
     try simp only [aP]
     refine wpAnyH_ready (rs:=[10]) (by kernel_rfl) (by simp) ?_
     refine AllReadyH.cons (o:=⟨some 3,_,_,_,_,_⟩) rfl (fun K hK=>?_) AllReadyH.nil
     go_simp
     refine hK.out _ _ (⟨hide (far11 HQ8.1 (show g5≠w.heap.size by omega) _ _ _ _ _ _ _ _ _ _ _),(far11 HQ8.1 (show g5≠w.heap.size by omega) _ _ _ _ _ _ _ _ _ _ _).cell 1,(far11 HQ8.1 (show g5≠w.heap.size by omega) _ _ _ _ _ _ _ _ _ _ _).cell 4⟩) (fun hHeld6=>?_)
     clear hK K
     try simp only [aP]
     refine wpAnyH_ready (rs:=[11]) (by kernel_rfl) (by simp) ?_
     refine AllReadyH.cons (o:=⟨none,_,_,_,_,_⟩) rfl (fun K hK=>?_) AllReadyH.nil
     go_simp
     refine hK.out _ _ (⟨hide (far2 (far11 HQ8.1 (show g5≠w.heap.size by omega) _ _ _ _ _ _ _ _ _ _ _) (show g5≠w.heap.size+1 by omega) _ _),(far2 (far11 HQ8.1 (show g5≠w.heap.size by omega) _ _ _ _ _ _ _ _ _ _ _) (show g5≠w.heap.size+1 by omega) _ _).cell 1,(far2 (far11 HQ8.1 (show g5≠w.heap.size by omega) _ _ _ _ _ _ _ _ _ _ _) (show g5≠w.heap.size+1 by omega) _ _).cell 4⟩) (fun hHeld7=>?_)
     clear hK K
     try simp only [aP]
     refine wpAnyH_done (by kernel_rfl) ?_ _
     refine NoPanic.normal ?_
     (try clear hHeld hHeld3 hHeld4 hHeld5 hHeld6 hHeld7)
     go_wp2_with fail
     (try simp only [Exit.inBlock,Exit.then])
     have hq:=blk13 HK8.1 HF8.1 (by omega) rfl rfl
     exact bodyPost_ret (rctc rfl w.heap.size (w.heap.size+1) _ rfl rfl rfl (hq _ _ _ _ _ _ _ _ _ _ _ _ _)) rfl ⟨_,nv,rfl,(HP8.1.set13 (by omega) (by omega) _ _ _ _ _ _ _ _ _ _ _ _ _).lower (by omega),HL8.1.set13 HK8.1 HF8.1 hlt (Nat.le_refl _) (by omega) (by omega) _ _ _ _ _ _ _ _ _ _ _ _ _⟩
    ·have hk2n:x.kind≠2:=hK
     clear hK
     by_cases hK:x.kind=3
     ·obtain ⟨hR,hTO⟩:=QH.1 hE hK
      subst hR
      have e0:(((x.eno:Nat):Int) != 0)=false:=by rw [hE];rfl
      clear hE
      have k1:((x.kind:Int)==1)=false:=by rw [hK];rfl
      have k2:((x.kind:Int)==2)=false:=by rw [hK];rfl
      have k3:((x.kind:Int)==3)=true:=by rw [hK];rfl
      have HTO:=hide hTO
      clear hK hTO
      clear QE QL QC QH QB QK
      have hVs:=HV.1.2.size
      have hgX:=HE.1.ge
      have HLV:=hide ((Left.of_below HW.1 (HB.1.trans (HV.1.2.mono HB.1.size))))
      have HKP:=hide (HKP.1.below HV.1.2 HKP.1.lt)
      have HKF:=hide (HKF.1.below HV.1.2 HKF.1.lt)
      have HQ:=hide HE.1.blk
      have hgV:g5<V.heap.size:=HQ.1.lt
      obtain ⟨⟨d0,d1,d2,d3,d4⟩,-⟩:=cells5 HQ.1
      go_wp2_with fail
      refine (leaf_any HV.1.1 none 3 0 0 (x.num:Int) 0 0 0 [] none 0 0 x.to HTO.1).mono ?_
      rintro e w8 ⟨rfl,hr8,ht8⟩
      have HK8:=hide (Turn.blk ht8 HKP.1 (by omega))
      have HF8:=hide (Turn.blk ht8 HKF.1 (by omega))
      obtain ⟨⟨y0,y1,y2,y3,y4,y5,y6,y7,y8,y9,y10⟩,z0,z1,z2,z3,z4,z5,z6,z7,z8,z9,z10⟩:=cells11 HK8.1
      obtain ⟨⟨u20,u21⟩,v20,v21⟩:=cells2 HF8.1
      have HL8:=hide (Left.then HLV.1 (Left.of_turn hr8 ht8))
      have HP8:=hide (show PtV (Ok (w.heap.size+2) nv) w8 ⟨{ nd0 with kind:=3,num:=(x.num:Int),from_:=(st.pos:Int),to_:=(x.to:Int) },.nil⟩ _ from ⟨none,0,none,0,rfl,SetV.nil _ _,KV.nil _ _⟩)
      clear hr8 ht8
      go_wp2_with fail
      (try simp only [Exit.inBlock,Exit.then])
      have hq:=blk13 HK8.1 HF8.1 (by omega) rfl rfl
      exact bodyPost_ret (rctc rfl w.heap.size (w.heap.size+1) _ rfl rfl rfl (hq _ _ _ _ _ _ _ _ _ _ _ _ _)) rfl ⟨_,nv,rfl,(HP8.1.set13 (by omega) (by omega) _ _ _ _ _ _ _ _ _ _ _ _ _).lower (by omega),HL8.1.set13 HK8.1 HF8.1 hlt (Nat.le_refl _) (by omega) (by omega) _ _ _ _ _ _ _ _ _ _ _ _ _⟩
     ·have hk3n:x.kind≠3:=hK
      clear hK
      have hK:4≤x.kind:=by have:=QK.1 hE;omega
      clear hk1n hk2n hk3n
      obtain ⟨hR,hTO⟩:=QB.1 hE hK
      have e0:(((x.eno:Nat):Int) != 0)=false:=by rw [hE];rfl
      clear hE
      have k1:((x.kind:Int)==1)=false:=by rw [beq_eq_false_iff_ne];omega
      have k2:((x.kind:Int)==2)=false:=by rw [beq_eq_false_iff_ne];omega
      have k3:((x.kind:Int)==3)=false:=by rw [beq_eq_false_iff_ne];omega
      have HTO:=hide hTO
      obtain ⟨md,hmd⟩:∃ md,(if st.fl.i=true then (1:Int) else 0)=md:=⟨_,rfl⟩
      rw [hmd] at hR
      subst hR
      have CB:=hide (fun W (hr:Rd bs A cap w0 rb nest st nv W) L5 lc5=>by have:=back_any hr none (x.kind:Int) (x.num:Int) x.name L5 x.set.length lc5 x.to hTO;rw [hmd] at this;exact this)
      clear hK hTO hmd
      clear QE QL QC QH QB QK
      have hVs:=HV.1.2.size
      have hgX:=HE.1.ge
      have HLV:=hide ((Left.of_below HW.1 (HB.1.trans (HV.1.2.mono HB.1.size))))
      have HKP:=hide (HKP.1.below HV.1.2 HKP.1.lt)
      have HKF:=hide (HKF.1.below HV.1.2 HKF.1.lt)
      have HQ:=hide HE.1.blk
      have hgV:g5<V.heap.size:=HQ.1.lt
      obtain ⟨⟨d0,d1,d2,d3,d4⟩,-⟩:=cells5 HQ.1
      go_wp2_with fail
      refine (CB.1 _ HV.1.1 L5 lc5).mono ?_
      rintro e w8 ⟨rfl,hr8,ht8⟩
      have HK8:=hide (Turn.blk ht8 HKP.1 (by omega))
      have HF8:=hide (Turn.blk ht8 HKF.1 (by omega))
      obtain ⟨⟨y0,y1,y2,y3,y4,y5,y6,y7,y8,y9,y10⟩,z0,z1,z2,z3,z4,z5,z6,z7,z8,z9,z10⟩:=cells11 HK8.1
      obtain ⟨⟨u20,u21⟩,v20,v21⟩:=cells2 HF8.1
      have HL8:=hide (Left.then HLV.1 (Left.of_turn hr8 ht8))
      have HP8:=hide (show PtV (Ok (w.heap.size+2) nv) w8 ⟨{ nd0 with kind:=4,num:=(x.num:Int),name:=x.name,mode:=md,from_:=(st.pos:Int),to_:=(x.to:Int) },.nil⟩ _ from ⟨none,0,none,0,rfl,SetV.nil _ _,KV.nil _ _⟩)
      clear hr8 ht8
      go_wp2_with fail
      (try simp only [Exit.inBlock,Exit.then])
      have hq:=blk13 HK8.1 HF8.1 (by omega) rfl rfl
      exact bodyPost_ret (rctc rfl w.heap.size (w.heap.size+1) _ rfl rfl rfl (hq _ _ _ _ _ _ _ _ _ _ _ _ _)) rfl ⟨_,nv,rfl,(HP8.1.set13 (by omega) (by omega) _ _ _ _ _ _ _ _ _ _ _ _ _).lower (by omega),HL8.1.set13 HK8.1 HF8.1 hlt (Nat.le_refl _) (by omega) (by omega) _ _ _ _ _ _ _ _ _ _ _ _ _⟩
theorem esc_any (h:Rd bs A cap w0 rb nest st nv w) (h92:g bs st.pos=92) :
  Calls Tryz.prog 54 #[Value.pointer (some ⟨rb,0,none⟩)] w (GiveA bs A cap w0 rb nest nv w (escPt bs st)):=by
 have hin:=escz_in h92
 cases hx:escz bs false (st.pos:Int) with
 | err e=>
  rw [show escPt bs st=.error (e,st.pos) by unfold escPt;rw [hx]]
  rw [hx] at hin
  exact esc_walk h (.err e) hx _ (fun _=>rfl) (fun e _=>absurd e hin) (fun e _=>absurd e hin) (fun e _=>absurd e hin) (fun e _=>absurd e hin) (fun e=>absurd e hin)
 | lit n q=>
  rw [hx] at hin
  have hin:st.pos+1<q∧q≤bs.length∧n≤1114367:=hin
  rw [show escPt bs st=mayP true (setP (casedP st.fl [((n:Int),(n:Int))]) st q) by unfold escPt;rw [hx]]
  have hle:Rs.Least [((n:Int),(n:Int))]:=by
   unfold Rs.Least Rs.LeastF Rs.LeastF
   exact ⟨by show (-2:Int)<(n:Int)-1;omega,Int.le_refl _,by show (n:Int)≤1114367;omega,trivial⟩
  exact esc_walk h (.lit n q) hx _ (fun e=>absurd rfl e) (fun _ _=>⟨rfl,hle,hin.2.1⟩) (fun _ e=>absurd e (show ¬ (1:Nat)=2 by decide)) (fun _ e=>absurd e (show ¬ (1:Nat)=3 by decide)) (fun _ e=>absurd e (show ¬ 4≤(1:Nat) by decide)) (fun _=>(show 1≤(1:Nat) by decide))
 | cls c q=>
  rw [hx] at hin
  have hin:st.pos+1<q∧q≤bs.length:=hin
  rw [show escPt bs st=mayP true (setP (casedP st.fl (It.cls c q).set) st q) by unfold escPt;rw [hx]]
  exact esc_walk h (.cls c q) hx _ (fun e=>absurd rfl e) (fun _ e=>absurd e (show ¬ (2:Nat)=1 by decide)) (fun _ _=>⟨rfl,hin.2⟩) (fun _ e=>absurd e (show ¬ (2:Nat)=3 by decide)) (fun _ e=>absurd e (show ¬ 4≤(2:Nat) by decide)) (fun _=>(show 1≤(2:Nat) by decide))
 | nam s t q=>
  rw [hx] at hin
  have hin:st.pos+1<q∧q≤bs.length:=hin
  rw [show escPt bs st=mayP true (setP (casedP st.fl (It.nam s t q).set) st q) by unfold escPt;rw [hx]]
  exact esc_walk h (.nam s t q) hx _ (fun e=>absurd rfl e) (fun _ e=>absurd e (show ¬ (2:Nat)=1 by decide)) (fun _ _=>⟨rfl,hin.2⟩) (fun _ e=>absurd e (show ¬ (2:Nat)=3 by decide)) (fun _ e=>absurd e (show ¬ 4≤(2:Nat) by decide)) (fun _=>(show 1≤(2:Nat) by decide))
 | hld n q=>
  rw [hx] at hin
  have hin:st.pos+1<q∧q≤bs.length:=hin
  rw [show escPt bs st=mayP false (leafP { nd0 with kind:=3,num:=(n:Int) } st q) by unfold escPt;rw [hx]]
  exact esc_walk h (.hld n q) hx _ (fun e=>absurd rfl e) (fun _ e=>absurd e (show ¬ (3:Nat)=1 by decide)) (fun _ e=>absurd e (show ¬ (3:Nat)=2 by decide)) (fun _ _=>⟨rfl,hin.2⟩) (fun _ e=>absurd e (show ¬ 4≤(3:Nat) by decide)) (fun _=>(show 1≤(3:Nat) by decide))
 | ref n q=>
  rw [hx] at hin
  have hin:st.pos+1<q∧q≤bs.length:=hin
  rw [show escPt bs st=backP (.ref n q) st by unfold escPt;rw [hx]]
  exact esc_walk h (.ref n q) hx _ (fun e=>absurd rfl e) (fun _ e=>absurd e (show ¬ (4:Nat)=1 by decide)) (fun _ e=>absurd e (show ¬ (4:Nat)=2 by decide)) (fun _ e=>absurd e (show ¬ (4:Nat)=3 by decide)) (fun _ _=>⟨rfl,hin.2⟩) (fun _=>(show 1≤(4:Nat) by decide))
 | key s q=>
  rw [hx] at hin
  have hin:st.pos+1<q∧q≤bs.length:=hin
  rw [show escPt bs st=backP (.key s q) st by unfold escPt;rw [hx]]
  exact esc_walk h (.key s q) hx _ (fun e=>absurd rfl e) (fun _ e=>absurd e (show ¬ (5:Nat)=1 by decide)) (fun _ e=>absurd e (show ¬ (5:Nat)=2 by decide)) (fun _ e=>absurd e (show ¬ (5:Nat)=3 by decide)) (fun _ _=>⟨rfl,hin.2⟩) (fun _=>(show 1≤(5:Nat) by decide))
end Go.Proofs.YtmlbklcmblofkaaGreatDoor.Pa
