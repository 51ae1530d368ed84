/-
  slices.Index and slices.Contains over names, walked.
-/
import Derived.Test.YtmlbklcmblofkaaGreatDoorMPaWithin
set_option linter.unusedSimpArgs false
set_option linter.unusedVariables false
set_option maxHeartbeats 8000000
set_option maxRecDepth 100000
namespace Go.Proofs.YtmlbklcmblofkaaGreatDoor.Pa
section
open Go.RowKit Mem
open Sy (g)
open Rs (R)
attribute [local go_sem] build_pz build_fl build_f0
attribute [local go_sem] build_nd3
open As (str)
theorem info_s:(Tryz.prog.info? 9).map (fun i=>(i.zero,i.size,i.bytes))=some (some (.string ⟨#[]⟩),1,16):=by kernel_rfl
theorem one_s (l:List UInt8):∀ u∈(#[str l]:Array Value).toList,u.oneCell'=true:=by simp [Value.oneCell']
section
variable {bs:List UInt8} {A:Option Addr} {cap:Nat} {w0:World} {rb nest:Nat} {st:St} {nv v':Value} {X w':World} {name:List UInt8}
theorem Rd.append (h:Rd bs A cap w0 rb nest st nv X) (hl:st.names.length<100) (ho:w'.ownsRow w0.heap.size 9 1 v' (st.names.length+1) (st.names.map str++[str name])) (hg:(X.alloc (.cells #[str name] 9)).grownBy w' nv.ownBlock)
  (hv:v'.ownBlock=nv.ownBlock∨v'.ownBlock=some (X.alloc (.cells #[str name] 9)).heap.size) :
  Left bs A cap w0 rb nest nv X { st with names:=st.names++[name] } v' (w'.setCell ⟨rb,7,none⟩ v')∧(w'.cell? ⟨rb,7,none⟩=some nv∧w'.frozen? ⟨rb,7,none⟩=false)∧∀ g t cs,Blk X g t cs→9≠t→g≠rb→Blk (w'.setCell ⟨rb,7,none⟩ v') g t cs:=by
 have hrl:=h.blk.lt
 have hne:=own_blk_ne h.own h.blk (by decide)
 have hsz:X.heap.size+1≤w'.heap.size:=by have:=hg.size;rwa [World.size_alloc] at this
 have hblk:∀ k,k<X.heap.size→nv.ownBlock≠some k→w'.heap[k]?=X.heap[k]?:=fun k hk hn=>(hg.block k (by rw [World.size_alloc];omega) (fun e=>hn e.symm)).trans (((Below.refl X.heap.size X).alloc (Nat.le_refl _) _).block k hk)
 have hbk:Blk w' rb 75 (RdC A bs.length cap st nest nv):=(hblk rb hrl hne).trans h.blk
 have hset:=hbk.set_ 7 v'
 have hnb:∀ k,nv.ownBlock=some k→w0.heap.size≤k:=fun k hq=>(own_lt h.own hq).1
 have hsc:∀ k,k≠rb→(w'.setCell ⟨rb,7,none⟩ v').heap[k]?=w'.heap[k]?:=fun k hk=>Below.heap_setCell w' ⟨rb,7,none⟩ v' k hk
 refine ⟨⟨{ h with blk:=?_,base:=?_,pos:=h.pos,many:=?_,own:=?_ },?_,?_⟩,⟨hbk.cell 7,hbk.frozen 7⟩,fun g t cs hk ht hgr=>?_⟩
 ·exact hset
 ·refine h.base.trans ⟨?_,?_,?_,by simp [World.setCell];have:=h.base.size;omega,fun k hk=>?_⟩
  ·exact hg.os
  ·exact hg.tape
  ·exact hg.output
  ·have hk':k<X.heap.size:=Nat.lt_of_lt_of_le hk h.base.size
   have:=h.above
   exact (hsc k (by omega)).trans (hblk k hk' (fun e=>by have:=hnb k e;omega))
 ·show 1≤(st.names++[name]).length∧(st.names++[name]).length≤100
  rw [List.length_append,List.length_singleton];omega
 ·have e1:(st.names++[name]).length=st.names.length+1:=by rw [List.length_append,List.length_singleton]
  have e2:(st.names++[name]).map str=st.names.map str++[str name]:=by rw [List.map_append];rfl
  show World.ownsRow _ _ _ _ _ (st.names++[name]).length ((st.names++[name]).map str)
  rw [e1,e2]
  refine ⟨ho.1,?_⟩
  rcases ho.2 with h2|⟨b,c,cur,e,h1,h2,h3⟩
  ·exact .inl h2
  ·have hb:b≠rb:=fun e9=>by
    have e8:v'.ownBlock=some b:=by rw [e];rfl
    rcases hv with e7|e7
    ·exact hne (by rw [← e7,e8,e9])
    ·rw [e7] at e8;injection e8 with e8;rw [World.size_alloc] at e8;omega
   exact .inr ⟨b,c,cur,e,h1,(hsc b hb).trans h2,h3⟩
 ·exact ⟨hg.os,hg.tape,hg.output,by simp [World.setCell];omega,fun k hk h1 h2=>(hsc k h1).trans (hblk k hk (fun e=>h2 e.symm))⟩
 ·rcases hv with e|e
  ·exact .inl e
  ·exact .inr ⟨_,e,by rw [World.size_alloc];omega⟩
 ·have hn2:=own_blk_ne h.own hk ht
  exact ((hsc g hgr).trans (hblk g hk.lt hn2)).trans hk
theorem Rd.names (h:Rd bs A cap w0 rb nest st nv X):∃ gn cn,nv=.slice (some ⟨gn,0,none⟩) st.names.length cn:=by
 rcases h.own.2 with ⟨-,h2⟩|⟨b,c,cur,e,-⟩
 ·have:=h.many.1;omega
 ·exact ⟨b,c,e⟩
end
section
variable {bs:List UInt8} {A:Option Addr} {cap:Nat} {w0:World} {rb nest:Nat} {nv nv1:Value} {w W X:World} {st1:St} {g g2:Nat} {cs cs2:Array Value}
theorem GiveA.onL {r:Res (Pt×Bool)} {e:Ending} (hX:Left bs A cap w0 rb nest nv w st1 nv1 X) (h:GiveA bs A cap w0 rb nest nv1 X r e W) (hk:Blk W g 78 cs) (hk2:Blk W g2 80 cs2) (hw:rb<w.heap.size) (hl:w.heap.size≤g) (hl2:w.heap.size≤g2) (hg:g<X.heap.size) (hg2:g2<X.heap.size) (hne:g2≠g) (u0 u1 u2 u3 u4 u5 u6 u7 u8 u9 u10 a b:Value) :
  GiveA bs A cap w0 rb nest nv w r e (((((((((((((W.setCell ⟨g,0,none⟩ u0).setCell ⟨g,1,none⟩ u1).setCell ⟨g,2,none⟩ u2).setCell ⟨g,3,none⟩ u3).setCell ⟨g,4,none⟩ u4).setCell ⟨g,5,none⟩ u5).setCell ⟨g,6,none⟩ u6).setCell ⟨g,7,none⟩ u7).setCell ⟨g,8,none⟩ u8).setCell ⟨g,9,none⟩ u9).setCell ⟨g,10,none⟩ u10).setCell ⟨g2,0,none⟩ a).setCell ⟨g2,1,none⟩ b):=by
 cases r with
 | error e=>
  obtain ⟨c,pl⟩:=e
  obtain ⟨h1,h2,st',nv',h3⟩:=h
  exact ⟨h1,h2,st',nv',(hX.then h3).set13 hk hk2 hw hl hl2 hne u0 u1 u2 u3 u4 u5 u6 u7 u8 u9 u10 a b⟩
 | ok t=>
  obtain ⟨⟨x,may⟩,st'⟩:=t
  obtain ⟨v,nv',h1,h2,h3⟩:=h
  exact ⟨v,nv',h1,(h2.set13 hg hg2 u0 u1 u2 u3 u4 u5 u6 u7 u8 u9 u10 a b).lower hX.turn.size,(hX.then h3).set13 hk hk2 hw hl hl2 hne u0 u1 u2 u3 u4 u5 u6 u7 u8 u9 u10 a b⟩
end
theorem group_many {bs:List UInt8} {A:Option Addr} {cap:Nat} {w0:World} {rb nest:Nat} {st:St} {nv:Value} {w:World} (h:Rd bs A cap w0 rb nest st nv w) (name:List UInt8) (fr:Int) (hm:99<st.names.length) :
  Calls Tryz.prog 65 #[Value.pointer (some ⟨rb,0,none⟩),.string ⟨name.toArray⟩,.int .i64 fr] w (GiveA bs A cap w0 rb nest nv w (.error (40,st.pos))):=by
 obtain ⟨gn,cn,hnv⟩:=h.names
 obtain ⟨hbb,HS,HKP,HKF,HB,HW,hlt,habv⟩:=pro h
 have hm1:decide ((99:Int)<(st.names.length:Int))=true:=decide_eq_true (by omega)
 have hm2:(99:Int)<(st.names.length:Int):=by omega
 have q7:=(h.below hbb).c7
 rw [hnv] at q7
 clear h hbb
 go_enter Tryz.func65,Tryz.ntmps65
 go_wp2_with fail
 generalize ((w.alloc (.cells pz 78)).alloc (.cells fz 80))=X at *
 have hXs:w.heap.size+2≤X.heap.size:=HKF.1.lt
 have HLX:=hide (Left.of_below HW.1 HB.1)
 have m1:X.cell? ⟨rb,1,none⟩=some (.int .i64 (st.pos:Int)):=(HS.1.1).blk.cell 1
 have n1:=((far11 (HS.1.1).blk (show rb≠w.heap.size by omega) (.int .i64 0) (.int .i64 0) (.int .i64 0) (.int .i64 0) (.int .i64 0) (.int .i64 0) (.int .i64 0) (.string ⟨#[]⟩) (.slice none 0 0) (.slice none 0 0) (.slice none 0 0)).cell 1).trans (show _=some (Value.int .i64 (st.pos:Int)) from rfl)
 obtain ⟨⟨y0,y1,y2,y3,y4,y5,y6,y7,y8,y9,y10⟩,z0,z1,z2,z3,z4,z5,z6,z7,z8,z9,z10⟩:=cells11 HKP.1
 obtain ⟨⟨u20,u21⟩,v20,v21⟩:=cells2 HKF.1
 obtain ⟨⟨p20,p21⟩,q20,q21⟩:=cells2 (far11 HKF.1 (show w.heap.size+1≠w.heap.size by omega) (.int .i64 0) (.int .i64 0) (.int .i64 0) (.int .i64 0) (.int .i64 0) (.int .i64 0) (.int .i64 0) (.string ⟨#[]⟩) (.slice none 0 0) (.slice none 0 0) (.slice none 0 0))
 go_region
 all_goals
  go_wp2_with fail
  (try simp only [Exit.inBlock,Exit.then])
  have hq:=blk13 HKP.1 HKF.1 (by omega) rfl rfl
  exact bodyPost_ret (rctc rfl w.heap.size (w.heap.size+1) (.bool false) rfl rfl rfl ⟨(hq _ _ _ _ _ _ _ _ _ _ _ _ _).1.drew,(hq _ _ _ _ _ _ _ _ _ _ _ _ _).2.drew⟩) rfl ⟨by decide,rfl,st,nv,((HLX.1.set13 HKP.1 HKF.1 hlt (Nat.le_refl _) (by omega) (by omega) _ _ _ _ _ _ _ _ _ _ _ _ _).below (Below.refl _ _).drew)⟩
theorem group_ok {bs:List UInt8} {A:Option Addr} {cap:Nat} {w0:World} {rb nest:Nat} {st:St} {nv:Value} {w:World} (h:Rd bs A cap w0 rb nest st nv w) (name:List UInt8) (fr:Int) (hm:st.names.length≤99) (R:Res (Pt×Bool)) (CC:∀ W nv1,Rd bs A cap w0 rb nest { st with names:=st.names++[name] } nv1 W→Calls Tryz.prog 67 #[Value.pointer (some ⟨rb,0,none⟩),ndV 7 (st.names.length:Int) name,.int .i64 fr,flV st.fl] W (GiveA bs A cap w0 rb nest nv1 W R)) :
  Calls Tryz.prog 65 #[Value.pointer (some ⟨rb,0,none⟩),.string ⟨name.toArray⟩,.int .i64 fr] w (GiveA bs A cap w0 rb nest nv w (R)):=by
 obtain ⟨gn,cn,hnv⟩:=h.names
 obtain ⟨hbb,HS,HKP,HKF,HB,HW,hlt,habv⟩:=pro h
 have hm1:decide ((99:Int)<(st.names.length:Int))=false:=decide_eq_false (by omega)
 have hm2:¬ (99:Int)<(st.names.length:Int):=by omega
 have CC:=hide CC
 have q7:=(h.below hbb).c7
 rw [hnv] at q7
 clear h hbb
 go_enter Tryz.func65,Tryz.ntmps65
 obtain ⟨i0,hi0,hz0,hz1,hz2⟩:=info_parts info_s
 have HM:=hide hm
 generalize hXX:((w.alloc (.cells pz 78)).alloc (.cells fz 80))=X at *
 have hXs:w.heap.size+2≤X.heap.size:=HKF.1.lt
 have hrX:=HS.1.1.blk.lt
 have HO:=hide HS.1.1.own
 go_wp2_with (at_builtin;refine wpList_append_any _ rfl (.tmp 27) (.tmp 29) 23 rfl w0.heap.size 9 i0 (.string ⟨#[]⟩) 1 16 Tryz.underlying23 hi0 hz0 hz1 hz2 rfl (by decide) nv st.names.length _ hnv.symm (HO.1.alloc _) _ _ 1 1 _ rfl (Rs.reads_at rfl #[str name] 9 1 1 rfl) (one_s name) (by unfold maxLen;omega) (by omega) (by rw [World.size_alloc];omega) ?_;intro v5 w5 ho5 hg5 hn5;obtain ⟨g5,c5,rfl⟩:∃ g5 c5,v5=.slice (some ⟨g5,0,none⟩) (st.names.length+1) c5:=(by rcases ho5.2 with ⟨-,h2⟩|⟨b,c,cur,e,-⟩;(· omega);(· exact ⟨b,c,e⟩));have HAP:=hide (HS.1.1.append (by have:=HM.1;omega) ho5 hg5 hn5);obtain ⟨s7,s7f⟩:=HAP.1.2.1;rw [hnv] at s7;obtain ⟨⟨-,-,x2,x3,x4,x5,-⟩,-⟩:=rdcells HAP.1.1.rd;clear ho5 hg5 hn5)
 refine (CC.1 _ _ HAP.1.1.rd).mono ?_
 rintro e w6 hG
 obtain ⟨u0,u1,u2,u3,u4,u5,u6,s,L,ln,lc,K,kn,kc,b,c,p,st',nv',rfl,hL⟩:=hG.form
 have hk5:=Left.blk HAP.1.1.rd hL (HAP.1.2.2 _ _ _ HKP.1 (by decide) (by omega)) (by decide) (by omega)
 have hf5:=Left.blk HAP.1.1.rd hL (HAP.1.2.2 _ _ _ HKF.1 (by decide) (by omega)) (by decide) (by omega)
 obtain ⟨⟨y0,y1,y2,y3,y4,y5,y6,y7,y8,y9,y10⟩,z0,z1,z2,z3,z4,z5,z6,z7,z8,z9,z10⟩:=cells11 hk5
 obtain ⟨⟨u20,u21⟩,v20,v21⟩:=cells2 hf5
 have HLX:=hide (Left.then (Left.of_below HW.1 HB.1) HAP.1.1)
 have hAs:=HAP.1.1.turn.size
 have HK5:=hide hk5
 have HF5:=hide hf5
 have HG:=hide hG
 clear hk5 hf5 hL hG CC
 go_wp2_with fail
 (try simp only [Exit.inBlock,Exit.then])
 have hq:=blk13 HK5.1 HF5.1 (by omega) rfl rfl
 exact bodyPost_ret (rctc rfl w.heap.size (w.heap.size+1) (.bool b) rfl rfl rfl (hq _ _ _ _ _ _ _ _ _ _ _ _ _)) rfl (GiveA.onL HLX.1 HG.1 HK5.1 HF5.1 hlt (Nat.le_refl _) (by omega) (by omega) (by omega) (by omega) _ _ _ _ _ _ _ _ _ _ _ _ _)
end
section
open Go.RowKit Mem
attribute [local go_sem] build_pz build_fl build_f0
open As (str)
def ixF (s:List UInt8):List (List UInt8)→Nat→Int
 | [],_=>-1
 | t :: l,k=>if t=s then (k:Int) else ixF s l (k+1)
theorem ixF_max (s:List UInt8):∀ (l:List (List UInt8)) (k:Nat),max 0 (ixF s l k)=(idxOf s l k:Int)
 | [],k=>by show max (0:Int) (-1)=0;omega
 | t :: l,k=>by
  unfold ixF idxOf
  split
  ·omega
  ·exact ixF_max s l (k+1)
theorem ixF_drop {s:List UInt8} {l:List (List UInt8)} {k:Nat} {t:List UInt8} (h:l[k]?=some t) (j:Nat):ixF s (l.drop k) j=if t=s then (j:Int) else ixF s (l.drop (k+1)) (j+1):=by
 obtain ⟨hk,rfl⟩:=List.getElem?_eq_some_iff.1 h
 rw [List.drop_eq_getElem_cons hk,ixF]
def XRel (s:List UInt8) (l:List (List UInt8)) (w:World) (i:Value) (wr:World):Prop:=∃ k:Nat,i=.int .i64 (k:Int)∧k≤l.length∧ixF s l 0=ixF s (l.drop k) k∧wr=w
theorem index_any (l:List (List UInt8)) (s:List UInt8) (b cap:Nat) (w:World) (hl:l.length≤100) (hc:∀ k t,l[k]?=some t→w.cell? ⟨b,k,none⟩=some (str t)) :
  Calls Tryz.prog 36 #[.slice (some ⟨b,0,none⟩) l.length cap,.string ⟨s.toArray⟩] w fun e w'=>e=.returned (.int .i64 (ixF s l 0))∧w'=w:=by
 have HC:=hide hc
 clear hc
 go_enter Tryz.func36,Tryz.ntmps36
 go_wp2_with fail
 go_loopw [8] (fun i wr=>XRel s l w i wr) (fun i _=>l.length-(intOf i).toNat)
 case atStart=>exact ⟨0,rfl,Nat.zero_le _,rfl,rfl⟩
 case round=>
  obtain ⟨k,rfl,hk,hF,rfl⟩:=hrel
  go_hideQ
  have HF:=hide hF
  clear hF
  by_cases hin:k<l.length
  ·have hin':(k:Int)<(l.length:Int):=by omega
   have hg:=List.getElem?_eq_getElem hin
   have hs:=ixF_drop (s:=s) hg k
   have c1:=HC.1 k _ hg
   generalize l[k]=t at *
   have hw1:IntKind.i64.wrap ((k:Int)+1)=(k:Int)+1:=Rs.wrap_id _ (by omega) (by omega)
   have h0k:(0:Nat)+k=k:=Nat.zero_add k
   by_cases ht:t=s
   ·rw [if_pos ht] at hs
    have HR:=hide (HF.1.trans hs)
    have e1:(s==t)=true:=by rw [ht];exact beq_self_eq_true s
    clear hs hg ht
    go_wp2_with fail
    go_ret
    exact ⟨(congrArg (fun z:Int=>Ending.returned (Value.int .i64 z)) HR.1).symm,rfl⟩
   ·rw [if_neg ht] at hs
    have HR:=hide (HF.1.trans hs)
    have e1:(s==t)=false:=by rw [beq_eq_false_iff_ne];exact fun e=>ht e.symm
    clear hs hg ht
    go_wp2_with fail
    have hR:XRel s l wr (.int .i64 ((k:Int)+1)) wr:=⟨k+1,by push_cast;rfl,by omega,HR.1,rfl⟩
    first|exact ⟨hR,by simp [intOf];omega⟩|go_roundw
    all_goals first|exact hR|(simp [intOf];omega)
  ·have hin':(l.length:Int)≤(k:Int):=by omega
   have hnot:¬ ((k:Int)<(l.length:Int)):=by omega
   have HR:=hide (show ixF s l 0=-1 by rw [HF.1,List.drop_of_length_le (by omega)];rfl)
   go_wp2_with fail
   go_ret
   exact ⟨(congrArg (fun z:Int=>Ending.returned (Value.int .i64 z)) HR.1).symm,rfl⟩
theorem Rd.cells {bs:List UInt8} {A:Option Addr} {cap:Nat} {w0:World} {rb nest:Nat} {st:St} {nv:Value} {w:World} (h:Rd bs A cap w0 rb nest st nv w):∃ gn cn,nv=.slice (some ⟨gn,0,none⟩) st.names.length cn∧∀ k t,st.names[k]?=some t→w.cell? ⟨gn,k,none⟩=some (str t):=by
 rcases h.own.2 with ⟨-,h2⟩|⟨b,c,cur,e,-,h2,h3,-,h4,h5⟩
 ·have:=h.many.1;omega
 ·refine ⟨b,c,e,fun k t hk=>?_⟩
  have hb:Blk w b 9 cur:=h2
  have hkl:=(List.getElem?_eq_some_iff.1 hk).1
  rw [hb.cell k]
  have h6:(cur.toList.take (st.names.length*1))[k]?=some (str t):=by rw [h5,List.getElem?_map,hk];rfl
  rw [List.getElem?_take_of_lt (by omega)] at h6
  simpa using h6
end
end Go.Proofs.YtmlbklcmblofkaaGreatDoor.Pa
