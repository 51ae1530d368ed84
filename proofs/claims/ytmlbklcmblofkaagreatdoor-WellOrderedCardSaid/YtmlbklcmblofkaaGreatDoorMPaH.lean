/-
  The reader's remark, walked.
-/
import Derived.Test.YtmlbklcmblofkaaGreatDoorMPaQu
set_option linter.unusedSimpArgs false
set_option linter.unusedVariables false
set_option maxHeartbeats 8000000
set_option maxRecDepth 100000
namespace Go.Proofs.YtmlbklcmblofkaaGreatDoor.Pa
section
open Go.RowKit Mem
open Sy (g)
attribute [local go_sem] build_pz build_fl build_f0
variable {bs:List UInt8} {b:Bool} {f:Fl} {k cap rb nest:Nat} {A:Option Addr} {w0 w:World} {st:St} {nv:Value}
section
variable {P:Program}
theorem results_ct {fn:Func} {p u:Tmp} {ty:TypeId} (h:fn.results=#[.cell p ty,.tmp u]) (tmps:Array Value) (w:World) (g:Nat) (cs:Array Value) (d:TypeDesc) (v:Value)
  (hp:tmps.getD p undef=.pointer (some ⟨g,0,none⟩)) (hv:tmps.getD u undef=v) (hg:Blk w g ty cs)
  (hu:P.underlying ty=some d) (hd:(match d with | .struct _ | .array _ _=>true | _=>false)=true) (hi:(P.info? ty).map (·.size)=some cs.size) :
  (results fn tmps).run P w=.ok (.tuple #[.agg cs,v]) w:=by
 have hp':tmps[p]?.getD undef=.pointer (some ⟨g,0,none⟩):=by simpa using hp
 have hv':tmps[u]?.getD undef=v:=by simpa using hv
 simp [results,h,hp',hv',asAddr,run_loadVar_row w g ty ty cs (0,0) d hg hu hd hi]
end
theorem let_i (hk:k<bs.length) (h:g bs k=105):letP bs b f k=letP bs b { f with i:=b } (k+1):=by rw [letP,dif_pos hk,if_pos h]
theorem let_m (hk:k<bs.length) (h:g bs k=109):letP bs b f k=letP bs b { f with m:=b } (k+1):=by rw [letP,dif_pos hk,if_neg (by omega),if_pos h]
theorem let_s (hk:k<bs.length) (h:g bs k=115):letP bs b f k=letP bs b { f with s:=b } (k+1):=by rw [letP,dif_pos hk,if_neg (by omega),if_neg (by omega),if_pos h]
theorem let_x (hk:k<bs.length) (h:g bs k=120):letP bs b f k=letP bs b { f with x:=b } (k+1):=by rw [letP,dif_pos hk,if_neg (by omega),if_neg (by omega),if_neg (by omega),if_pos h]
theorem let_end (h:¬ k<bs.length∨(g bs k≠105∧g bs k≠109∧g bs k≠115∧g bs k≠120)):letP bs b f k=(f,k):=by
 rw [letP]
 split
 ·rcases h with h|h
  ·contradiction
  ·rw [if_neg h.1,if_neg h.2.1,if_neg h.2.2.1,if_neg h.2.2.2]
 ·rfl
def LRel (bs:List UInt8) (A:Option Addr) (cap:Nat) (w0:World) (rb nest:Nat) (st:St) (nv:Value) (w:World) (b:Bool) (f:Fl) (k:Nat) (i:Value) (wr:World):Prop:=∃ (m:Nat) (f':Fl),i=.int .i64 (m:Int)∧m≤bs.length∧letP bs b f k=letP bs b f' m∧Blk wr w.heap.size 73 (bf f')∧Blk wr (w.heap.size+1) 73 #[.bool false,.bool false,.bool false,.bool false]∧RB bs A cap w0 rb nest st nv w wr
theorem RB.own {wr:World} {g j:Nat} (h0:Rd bs A cap w0 rb nest st nv w) (h:RB bs A cap w0 rb nest st nv w wr) (hg:w.heap.size≤g) (u:Value):RB bs A cap w0 rb nest st nv w (wr.setCell ⟨g,j,none⟩ u):=
 ⟨h0.below (h.2.setCell (p:=⟨g,j,none⟩) hg u),h.2.setCell (p:=⟨g,j,none⟩) hg u⟩
theorem letters_in (h:Rd bs A cap w0 rb nest st nv w) (f:Fl) (k:Nat) (hk:k≤bs.length) (bb:Bool) :
  Calls Tryz.prog 83 #[Value.pointer (some ⟨rb,0,none⟩),.agg #[.bool f.i,.bool f.m,.bool f.s,.bool f.x],.int .i64 (k:Int),.bool bb] w fun e w'=>e=.returned (.tuple #[.agg #[.bool (letP bs bb f k).1.i,.bool (letP bs bb f k).1.m,.bool (letP bs bb f k).1.s,.bool (letP bs bb f k).1.x],.int .i64 ((letP bs bb f k).2:Int)])∧Below w.heap.size w w':=by
 have hbb:Below w.heap.size w ((w.alloc (.cells (bf f) 73)).alloc (.cells #[.bool false,.bool false,.bool false,.bool false] 73)):=((Below.refl _ w).alloc (Nat.le_refl _) _).alloc (by simp) _
 have HR0:=hide (show LRel bs A cap w0 rb nest st nv w bb f k (.int .i64 (k:Int)) ((w.alloc (.cells (bf f) 73)).alloc (.cells #[.bool false,.bool false,.bool false,.bool false] 73)) from ⟨k,f,rfl,hk,rfl,(Blk.new w _ _).alloc _,blk_at (by simp),h.below hbb,hbb⟩)
 have HW:=hide h
 have hlt:=h.blk.lt
 have htop:=h.top
 clear h hbb hk
 go_enter Tryz.func83,Tryz.ntmps83
 go_wp2_with fail
 go_loopw [2] (fun i wr=>LRel bs A cap w0 rb nest st nv w bb f k i wr) (fun i _=>bs.length-(intOf i).toNat)
 case atStart=>exact HR0.1
 case round=>
  obtain ⟨m,f',rfl,hm,hF,hk1,hk2,hr⟩:=hrel
  go_hideQ
  clear HR0
  have c0:wr.cell? ⟨rb,0,none⟩=some (.slice A bs.length cap):=hr.1.blk.cell 0
  obtain ⟨⟨a0,a1,a2,a3⟩,b0,b1,b2,b3⟩:=cells4 hk1
  obtain ⟨⟨d0,d1,d2,d3⟩,e0,e1,e2,e3⟩:=cells4 hk2
  have HF:=hide hF
  have HK1:=hide hk1
  have HK2:=hide hk2
  have HR:=hide hr
  by_cases hin:m<bs.length
  ·have hin':(m:Int)<(bs.length:Int):=by omega
   obtain ⟨b,off,rfl,hb,hc⟩:=hr.1.pvW.cell hin
   have c1:=hc m hin
   have hw1:IntKind.i64.wrap ((m:Int)+1)=(m:Int)+1:=Rs.wrap_id _ (by omega) (by omega)
   clear hc hF hk1 hk2 hr
   by_cases h0:g bs m=105
   ·have k0:((g bs m:Int)==105)=true:=by rw [h0];rfl
    have k1:((g bs m:Int)==109)=false:=by rw [h0];rfl
    have k2:((g bs m:Int)==115)=false:=by rw [h0];rfl
    have k3:((g bs m:Int)==120)=false:=by rw [h0];rfl
    have HN:=hide (HF.1.trans (let_i hin h0))
    clear HF  h0
    go_wp2_with fail
    have hR:LRel bs (some ⟨b,off,none⟩) cap w0 rb nest st nv w bb f k (.int .i64 ((m:Int)+1)) (wr.setCell ⟨w.heap.size,0,none⟩ (.bool bb)):=⟨m+1,{ f' with i:=bb },by push_cast;rfl,by omega,HN.1,HK1.1.set_ 0 (.bool bb),HK2.1.far (p:=⟨w.heap.size,0,none⟩) (by show w.heap.size+1≠w.heap.size;omega) (.bool bb),RB.own HW.1 HR.1 (Nat.le_refl _) _⟩
    first|exact ⟨hR,by simp [intOf];omega⟩|go_roundw
    all_goals first|exact hR|(simp [intOf];omega)
   ·by_cases h1:g bs m=109
    ·have k0:((g bs m:Int)==105)=false:=by rw [h1];rfl
     have k1:((g bs m:Int)==109)=true:=by rw [h1];rfl
     have k2:((g bs m:Int)==115)=false:=by rw [h1];rfl
     have k3:((g bs m:Int)==120)=false:=by rw [h1];rfl
     have HN:=hide (HF.1.trans (let_m hin h1))
     clear HF h0 h1
     go_wp2_with fail
     have hR:LRel bs (some ⟨b,off,none⟩) cap w0 rb nest st nv w bb f k (.int .i64 ((m:Int)+1)) (wr.setCell ⟨w.heap.size,1,none⟩ (.bool bb)):=⟨m+1,{ f' with m:=bb },by push_cast;rfl,by omega,HN.1,HK1.1.set_ 1 (.bool bb),HK2.1.far (p:=⟨w.heap.size,1,none⟩) (by show w.heap.size+1≠w.heap.size;omega) (.bool bb),RB.own HW.1 HR.1 (Nat.le_refl _) _⟩
     first|exact ⟨hR,by simp [intOf];omega⟩|go_roundw
     all_goals first|exact hR|(simp [intOf];omega)
    ·by_cases h2:g bs m=115
     ·have k0:((g bs m:Int)==105)=false:=by rw [h2];rfl
      have k1:((g bs m:Int)==109)=false:=by rw [h2];rfl
      have k2:((g bs m:Int)==115)=true:=by rw [h2];rfl
      have k3:((g bs m:Int)==120)=false:=by rw [h2];rfl
      have HN:=hide (HF.1.trans (let_s hin h2))
      clear HF h0 h1 h2
      go_wp2_with fail
      have hR:LRel bs (some ⟨b,off,none⟩) cap w0 rb nest st nv w bb f k (.int .i64 ((m:Int)+1)) (wr.setCell ⟨w.heap.size,2,none⟩ (.bool bb)):=⟨m+1,{ f' with s:=bb },by push_cast;rfl,by omega,HN.1,HK1.1.set_ 2 (.bool bb),HK2.1.far (p:=⟨w.heap.size,2,none⟩) (by show w.heap.size+1≠w.heap.size;omega) (.bool bb),RB.own HW.1 HR.1 (Nat.le_refl _) _⟩
      first|exact ⟨hR,by simp [intOf];omega⟩|go_roundw
      all_goals first|exact hR|(simp [intOf];omega)
     ·by_cases h3:g bs m=120
      ·have k0:((g bs m:Int)==105)=false:=by rw [h3];rfl
       have k1:((g bs m:Int)==109)=false:=by rw [h3];rfl
       have k2:((g bs m:Int)==115)=false:=by rw [h3];rfl
       have k3:((g bs m:Int)==120)=true:=by rw [h3];rfl
       have HN:=hide (HF.1.trans (let_x hin h3))
       clear HF h0 h1 h2 h3
       go_wp2_with fail
       have hR:LRel bs (some ⟨b,off,none⟩) cap w0 rb nest st nv w bb f k (.int .i64 ((m:Int)+1)) (wr.setCell ⟨w.heap.size,3,none⟩ (.bool bb)):=⟨m+1,{ f' with x:=bb },by push_cast;rfl,by omega,HN.1,HK1.1.set_ 3 (.bool bb),HK2.1.far (p:=⟨w.heap.size,3,none⟩) (by show w.heap.size+1≠w.heap.size;omega) (.bool bb),RB.own HW.1 HR.1 (Nat.le_refl _) _⟩
       first|exact ⟨hR,by simp [intOf];omega⟩|go_roundw
       all_goals first|exact hR|(simp [intOf];omega)
      ·have k0:((g bs m:Int)==105)=false:=by rw [beq_eq_false_iff_ne];omega
       have k1:((g bs m:Int)==109)=false:=by rw [beq_eq_false_iff_ne];omega
       have k2:((g bs m:Int)==115)=false:=by rw [beq_eq_false_iff_ne];omega
       have k3:((g bs m:Int)==120)=false:=by rw [beq_eq_false_iff_ne];omega
       have HN:=hide (HF.1.trans (let_end (.inr ⟨h0,h1,h2,h3⟩)))
       clear HF h0 h1 h2 h3
       go_wp2_with fail
       (try simp only [Exit.inBlock,Exit.then])
       exact bodyPost_ret (results_ct rfl _ _ (w.heap.size+1) _ _ (.int .i64 (m:Int)) rfl rfl (set4 HK2.1 _ _ _ _) Tryz.underlying73 rfl (by kernel_rfl)) rfl ⟨by have e:=HN.1;simp only [e],bel4 HR.1.2 (by omega) _ _ _ _⟩
  ·have hin':(bs.length:Int)≤(m:Int):=by omega
   have HN:=hide (HF.1.trans (let_end (.inl hin)))
   have hnot:¬ ((m:Int)<(bs.length:Int)):=by omega
   clear HF hF hk1 hk2 hr
   go_wp2_with fail
   (try simp only [Exit.inBlock,Exit.then])
   exact bodyPost_ret (results_ct rfl _ _ (w.heap.size+1) _ _ (.int .i64 (m:Int)) rfl rfl (set4 HK2.1 _ _ _ _) Tryz.underlying73 rfl (by kernel_rfl)) rfl ⟨by have e:=HN.1;simp only [e],bel4 HR.1.2 (by omega) _ _ _ _⟩
theorem letters_any (h:Rd bs A cap w0 rb nest st nv w) (f:Fl) (k:Nat) (hk:k≤bs.length) (b:Bool) :
  Calls Tryz.prog 83 #[Value.pointer (some ⟨rb,0,none⟩),flV f,.int .i64 (k:Int),.bool b] w fun e w'=>e=.returned (.tuple #[flV (letP bs b f k).1,.int .i64 ((letP bs b f k).2:Int)])∧Below w.heap.size w w':=letters_in h f k hk b
end
section
open Go.RowKit Mem
open Sy (g)
attribute [local go_sem] build_pz build_fl build_f0
variable {bs:List UInt8} {cap rb nest:Nat} {w0 w:World} {st:St} {nv:Value}
theorem idx41_any (bs:List UInt8) (b off k c' n:Nat) (w:World) (hn:n=bs.length-k) (h:∀ i,i<n→w.cell? ⟨b,off+i,none⟩=some (.int .u8 (g bs (k+i):Int))) :
  Calls Tryz.prog 62 #[.slice (some ⟨b,off,none⟩) n c',.int .u8 41] w fun e w'=>e=.returned (.int .i64 (Sc.idxP bs k 41))∧w'=w:=by
 have hcon:=Any.bytes_IndexByte_at Tryz.idxByte ⟨b,off,none⟩ n c' ((bs.drop k).map fun c=>(c.toNat:Int)) 41 w (by rw [List.length_map,List.length_drop,hn]) (fun i hi=>by
  rw [Go.WideShapes.add_plain,Sc.drop_num (by omega)];exact h i hi)
 rw [Sc.bytesOf_nums] at hcon
 exact hcon
theorem remark_bad {b off:Nat} (h:Rd bs (some ⟨b,off,none⟩) cap w0 rb nest st nv w) (hk:st.pos<bs.length) (hx:Sc.idxP bs st.pos 41=-1) :
  Calls Tryz.prog 66 #[Value.pointer (some ⟨rb,0,none⟩)] w (GiveA bs (some ⟨b,off,none⟩) cap w0 rb nest nv w (.error (30,st.pos))):=by
 obtain ⟨hbb,HS,HKP,HKF,HB,HW,hlt,habv⟩:=pro h
 have hroom:=h.pvW.room
 have htop:=h.pvW.top
 have hcell:∀ W,RB bs (some ⟨b,off,none⟩) cap w0 rb nest st nv ((w.alloc (.cells pz 78)).alloc (.cells fz 80)) W→∀ j,j<bs.length→W.cell? ⟨b,off+j,none⟩=some (.int .u8 (g bs j:Int)):=fun W hr j hj=>by
  obtain ⟨b',off',e,_,hc⟩:=hr.1.pvW.cell hk
  injection e with e
  injection e with e1 e2
  subst e1;subst e2
  exact hc j hj
 have CI:=hide (fun W (hr:RB bs (some ⟨b,off,none⟩) cap w0 rb nest st nv ((w.alloc (.cells pz 78)).alloc (.cells fz 80)) W) c'=>idx41_any bs b (off+st.pos) st.pos c' (bs.length-st.pos) W rfl (fun i hi=>by rw [Nat.add_assoc];exact hcell W hr (st.pos+i) (by omega)))
 have hki:(st.pos:Int)≤(bs.length:Int):=by omega
 have hkc:(st.pos:Int)≤(cap:Int):=by omega
 have hki0:(0:Int)≤(st.pos:Int):=by omega
 have hne:¬ cap=st.pos:=by omega
 rw [hx] at CI
 clear hx
 clear h hbb hcell
 go_enter Tryz.func66,Tryz.ntmps66
 go_wp2_with fail
 generalize ((w.alloc (.cells pz 78)).alloc (.cells fz 80))=X at *
 have hXs:w.heap.size+2≤X.heap.size:=HKF.1.lt
 have c0:X.cell? ⟨rb,0,none⟩=some (.slice (some ⟨b,off,none⟩) bs.length cap):=HS.1.1.blk.cell 0
 have c1:X.cell? ⟨rb,1,none⟩=some (.int .i64 (st.pos:Int)):=HS.1.1.blk.cell 1
 go_still_tail 9,(by kernel_rfl)
 change wpList _ _ _ _ _ X.drew
 have HS:=hide (HS.1.below (Below.refl _ _).drew)
 go_wp2_with fail
 refine (CI.1 _ HS.1 _).mono ?_
 rintro e w5 ⟨rfl,hw5⟩
 obtain rfl:_=w5:=hw5.symm
 clear c0 c1 CI
 have HKP:=hide HKP.1.drew
 have HKF:=hide HKF.1.drew
 have hVs:w.heap.size+2≤X.drew.heap.size:=hXs
 have HBV:=hide (HB.1.trans (HS.1.2.mono HB.1.size))
 generalize X.drew=V at *
 have m1:V.cell? ⟨rb,1,none⟩=some (.int .i64 (st.pos:Int)):=(HS.1.1).blk.cell 1
 have n1:=((far11 (HS.1.1).blk (show rb≠w.heap.size by omega) (.int .i64 0) (.int .i64 0) (.int .i64 0) (.int .i64 0) (.int .i64 0) (.int .i64 0) (.int .i64 0) (.string ⟨#[]⟩) (.slice none 0 0) (.slice none 0 0) (.slice none 0 0)).cell 1).trans (show _=some (Value.int .i64 (st.pos:Int)) from rfl)
 obtain ⟨⟨y0,y1,y2,y3,y4,y5,y6,y7,y8,y9,y10⟩,z0,z1,z2,z3,z4,z5,z6,z7,z8,z9,z10⟩:=cells11 HKP.1
 obtain ⟨⟨u20,u21⟩,v20,v21⟩:=cells2 HKF.1
 obtain ⟨⟨p20,p21⟩,q20,q21⟩:=cells2 (far11 HKF.1 (show w.heap.size+1≠w.heap.size by omega) (.int .i64 0) (.int .i64 0) (.int .i64 0) (.int .i64 0) (.int .i64 0) (.int .i64 0) (.int .i64 0) (.string ⟨#[]⟩) (.slice none 0 0) (.slice none 0 0) (.slice none 0 0))
 go_wp2_with fail
 go_region
 all_goals
  go_wp2_with fail
  (try simp only [Exit.inBlock,Exit.then])
  have hq:=blk13 HKP.1 HKF.1 (by omega) rfl rfl
  exact bodyPost_ret (rctc rfl w.heap.size (w.heap.size+1) (.bool false) rfl rfl rfl ⟨(hq _ _ _ _ _ _ _ _ _ _ _ _ _).1.drew,(hq _ _ _ _ _ _ _ _ _ _ _ _ _).2.drew⟩) rfl ⟨by decide,rfl,st,nv,(((Left.of_below HW.1 HBV.1).set13 HKP.1 HKF.1 hlt (Nat.le_refl _) (by omega) (by omega) _ _ _ _ _ _ _ _ _ _ _ _ _).below (Below.refl _ _).drew)⟩
theorem remark_ok {b off:Nat} (h:Rd bs (some ⟨b,off,none⟩) cap w0 rb nest st nv w) (hk:st.pos<bs.length) (n:Nat) (hx:Sc.idxP bs st.pos 41=(n:Int)) (hn:st.pos+n<bs.length) :
  Calls Tryz.prog 66 #[Value.pointer (some ⟨rb,0,none⟩)] w (GiveA bs (some ⟨b,off,none⟩) cap w0 rb nest nv w (.ok ((⟨nd0,.nil⟩,false),{ st with pos:=st.pos+n+1 }))):=by
 obtain ⟨hbb,HS,HKP,HKF,HB,HW,hlt,habv⟩:=pro h
 have hroom:=h.pvW.room
 have htop:=h.pvW.top
 have hcell:∀ W,RB bs (some ⟨b,off,none⟩) cap w0 rb nest st nv ((w.alloc (.cells pz 78)).alloc (.cells fz 80)) W→∀ j,j<bs.length→W.cell? ⟨b,off+j,none⟩=some (.int .u8 (g bs j:Int)):=fun W hr j hj=>by
  obtain ⟨b',off',e,_,hc⟩:=hr.1.pvW.cell hk
  injection e with e
  injection e with e1 e2
  subst e1;subst e2
  exact hc j hj
 have CI:=hide (fun W (hr:RB bs (some ⟨b,off,none⟩) cap w0 rb nest st nv ((w.alloc (.cells pz 78)).alloc (.cells fz 80)) W) c'=>idx41_any bs b (off+st.pos) st.pos c' (bs.length-st.pos) W rfl (fun i hi=>by rw [Nat.add_assoc];exact hcell W hr (st.pos+i) (by omega)))
 have hki:(st.pos:Int)≤(bs.length:Int):=by omega
 have hkc:(st.pos:Int)≤(cap:Int):=by omega
 have hki0:(0:Int)≤(st.pos:Int):=by omega
 have hne:¬ cap=st.pos:=by omega
 rw [hx] at CI
 have hw1:IntKind.i64.wrap ((n:Int)+1)=(n:Int)+1:=Rs.wrap_id _ (by have:=h.top;omega) (by have:=h.top;omega)
 have hw2:IntKind.i64.wrap ((st.pos:Int)+((n:Int)+1))=(st.pos:Int)+((n:Int)+1):=Rs.wrap_id _ (by have:=h.top;omega) (by have:=h.top;omega)
 have hneg:¬ ((n:Int)<0):=by omega
 have HN:=hide hn
 clear hx hn
 clear h hbb hcell
 go_enter Tryz.func66,Tryz.ntmps66
 go_wp2_with fail
 generalize ((w.alloc (.cells pz 78)).alloc (.cells fz 80))=X at *
 have hXs:w.heap.size+2≤X.heap.size:=HKF.1.lt
 have c0:X.cell? ⟨rb,0,none⟩=some (.slice (some ⟨b,off,none⟩) bs.length cap):=HS.1.1.blk.cell 0
 have c1:X.cell? ⟨rb,1,none⟩=some (.int .i64 (st.pos:Int)):=HS.1.1.blk.cell 1
 go_still_tail 9,(by kernel_rfl)
 change wpList _ _ _ _ _ X.drew
 have HS:=hide (HS.1.below (Below.refl _ _).drew)
 go_wp2_with fail
 refine (CI.1 _ HS.1 _).mono ?_
 rintro e w5 ⟨rfl,hw5⟩
 obtain rfl:_=w5:=hw5.symm
 clear c0 c1 CI
 have HKP:=hide HKP.1.drew
 have HKF:=hide HKF.1.drew
 have hVs:w.heap.size+2≤X.drew.heap.size:=hXs
 have HBV:=hide (HB.1.trans (HS.1.2.mono HB.1.size))
 generalize X.drew=V at *
 have m1:V.cell? ⟨rb,1,none⟩=some (.int .i64 (st.pos:Int)):=HS.1.1.blk.cell 1
 have m1f:=HS.1.1.blk.frozen 1
 have hr8:=HS.1.1.store 1 (.int .i64 ((st.pos:Int)+((n:Int)+1))) (st':={ st with pos:=st.pos+n+1 }) (nest':=nest) (by show _=RdC _ _ _ _ _ _;unfold RdC;simp;omega) (by have:=HN.1;show st.pos+n+1≤bs.length;omega) HS.1.1.deep rfl
 have HL8:=hide (show Left bs (some ⟨b,off,none⟩) cap w0 rb nest nv w { st with pos:=st.pos+n+1 } nv (V.setCell ⟨rb,1,none⟩ (.int .i64 ((st.pos:Int)+((n:Int)+1)))) from ⟨hr8,turn_set (Left.of_below HW.1 HBV.1).turn _,Nw.refl _ _⟩)
 have HKP:=hide (HKP.1.far (p:=⟨rb,1,none⟩) (by show w.heap.size≠rb;omega) (.int .i64 ((st.pos:Int)+((n:Int)+1))))
 have HKF:=hide (HKF.1.far (p:=⟨rb,1,none⟩) (by show w.heap.size+1≠rb;omega) (.int .i64 ((st.pos:Int)+((n:Int)+1))))
 obtain ⟨⟨y0,y1,y2,y3,y4,y5,y6,y7,y8,y9,y10⟩,z0,z1,z2,z3,z4,z5,z6,z7,z8,z9,z10⟩:=cells11 HKP.1
 obtain ⟨⟨u20,u21⟩,v20,v21⟩:=cells2 HKF.1
 clear hr8
 go_wp2_with fail
 (try simp only [Exit.inBlock,Exit.then])
 have hq:=blk13 HKP.1 HKF.1 (by omega) rfl rfl
 exact bodyPost_ret (rctc rfl w.heap.size (w.heap.size+1) (.bool false) rfl rfl rfl (hq _ _ _ _ _ _ _ _ _ _ _ _ _)) rfl ⟨ptZ,nv,rfl,⟨none,0,none,0,rfl,SetV.nil _ _,KV.nil _ _⟩,HL8.1.set13 HKP.1 HKF.1 hlt (Nat.le_refl _) (by omega) (by omega) _ _ _ _ _ _ _ _ _ _ _ _ _⟩
theorem fnd1_at {bs:List UInt8}:∀ (n k:Nat),(∀ j,k≤j→j<k+n→g bs j≠41)→k+n<bs.length→g bs (k+n)=41→fnd1 bs k=some (k+n)
 | 0,k,_,h,h2=>by rw [fnd1,dif_pos (by omega),if_pos (by simpa using h2)];rfl
 | n+1,k,hn,h,h2=>by
  rw [fnd1,dif_pos (by omega),if_neg (hn k (Nat.le_refl _) (by omega)),fnd1_at n (k+1) (fun j h1 h3=>hn j (by omega) (by omega)) (by omega) (by rw [show k+1+n=k+(n+1) by omega];exact h2)]
  congr 1;omega
theorem fnd1_no {bs:List UInt8}:∀ (n k:Nat),bs.length-k≤n→(∀ j,k≤j→j<bs.length→g bs j≠41)→fnd1 bs k=none
 | n,k,hn,h=>by
  rw [fnd1]
  split
  ·rename_i hk
   rw [if_neg (h k (Nat.le_refl _) hk)]
   match n,hn with
   | 0,hn=>omega
   | n+1,hn=>exact fnd1_no n (k+1) (by omega) fun j h1 h2=>h j (by omega) h2
  ·rfl
theorem remark_any {A:Option Addr} (h:Rd bs A cap w0 rb nest st nv w) (hk:st.pos<bs.length) :
  Calls Tryz.prog 66 #[Value.pointer (some ⟨rb,0,none⟩)] w (GiveA bs A cap w0 rb nest nv w (remarkP bs st)):=by
 obtain ⟨b,off,rfl,-,-⟩:=h.pvW.cell hk
 unfold remarkP
 rcases Sc.idxP_cases bs st.pos 41 with h1|⟨n,h1⟩
 ·have hn:=Sc.idxP_none h1
  rw [fnd1_no _ _ (Nat.le_refl _) hn]
  exact remark_bad h hk h1
 ·obtain ⟨h2,h3,h4⟩:=Sc.idxP_some h1
  rw [fnd1_at n st.pos h4 (by omega) h3]
  exact remark_ok h hk n h1 (by omega)
end
end Go.Proofs.YtmlbklcmblofkaaGreatDoor.Pa
