/-
  The reader's piece, walked.
-/
import Derived.Test.YtmlbklcmblofkaaGreatDoorMPaD
set_option linter.unusedSimpArgs false
set_option linter.unusedVariables false
set_option maxHeartbeats 8000000
set_option maxRecDepth 100000
namespace Go.Proofs.YtmlbklcmblofkaaGreatDoor.Pa
open Go.RowKit Mem
open Sy (g)
open Sc (GivesC cntP cntz)
attribute [local go_sem] build_pz build_fl build_f0
attribute [local go_sem] Rs.run_not_true Rs.run_not_false
variable {bs:List UInt8} {A:Option Addr} {cap rb nest:Nat} {w0 w:World} {nv:Value} {st:St} {r:Res Pt} {e:Ending}
section
variable {P:Program}
theorem results_cc {fn:Func} {p x:Tmp} {ty ty2:TypeId} (h:fn.results=#[.cell p ty,.cell x ty2]) (tmps:Array Value) (w:World) (g g2:Nat) (cs cs2:Array Value) (d d2:TypeDesc)
  (hp:tmps.getD p undef=.pointer (some ⟨g,0,none⟩)) (hx:tmps.getD x undef=.pointer (some ⟨g2,0,none⟩)) (hg:Blk w g ty cs) (hg2:Blk w g2 ty2 cs2)
  (hu:P.underlying ty=some d) (hd:(match d with | .struct _ | .array _ _=>true | _=>false)=true) (hi:(P.info? ty).map (·.size)=some cs.size)
  (hu2:P.underlying ty2=some d2) (hd2:(match d2 with | .struct _ | .array _ _=>true | _=>false)=true) (hi2:(P.info? ty2).map (·.size)=some cs2.size) :
  (results fn tmps).run P w=.ok (.tuple #[.agg cs,.agg cs2]) w:=by
 have hp':tmps[p]?.getD undef=.pointer (some ⟨g,0,none⟩):=by simpa using hp
 have hx':tmps[x]?.getD undef=.pointer (some ⟨g2,0,none⟩):=by simpa using hx
 simp [results,h,hp',hx',asAddr,run_loadVar_row w g ty ty cs (0,0) d hg hu hd hi,run_loadVar_row w g2 ty2 ty2 cs2 (0,0) d2 hg2 hu2 hd2 hi2]
theorem rcc {fn:Func} {p x:Tmp} (h:fn.results=#[.cell p 78,.cell x 80]) {tmps:Array Value} {w:World} (g g2:Nat) {u0 u1 u2 u3 u4 u5 u6 u7 u8 u9 u10 a b:Value} (hp:tmps.getD p undef=.pointer (some ⟨g,0,none⟩)) (hx:tmps.getD x undef=.pointer (some ⟨g2,0,none⟩)) (hg:Blk w g 78 #[u0,u1,u2,u3,u4,u5,u6,u7,u8,u9,u10]∧Blk w g2 80 #[a,b]):(results fn tmps).run Tryz.prog w=.ok (.tuple #[.agg #[u0,u1,u2,u3,u4,u5,u6,u7,u8,u9,u10],.agg #[a,b]]) w:=
 results_cc h _ _ g g2 _ _ _ _ hp hx hg.1 hg.2 Tryz.underlying78 rfl (by kernel_rfl) Tryz.underlying80 rfl (by kernel_rfl)
end
theorem cntz_nat (bs:List UInt8) (k:Nat):cntz bs (k:Int)=cntP bs k:=by unfold Sc.cntz;rw [if_pos (by omega),Int.toNat_natCast]
def GiveQ (lo:Nat) (bs:List UInt8) (A:Option Addr) (cap:Nat) (w0:World) (rb nest:Nat) (nv:Value) (w:World) (r:Res Pt) (e:Ending) (w':World):Prop:=match r with
 | .error (c,pl)=>c≠0∧e=.returned (.tuple #[ptZ,.agg #[.int .i64 (c:Int),.int .i64 (pl:Int)]])∧∃ st' nv',Left bs A cap w0 rb nest nv w st' nv' w'
 | .ok (x,st')=>∃ v nv',e=.returned (.tuple #[v,.agg #[.int .i64 0,.int .i64 0]])∧PtV (Ok lo nv') w' x v∧Left bs A cap w0 rb nest nv w st' nv' w'
theorem GiveQ.formQ {lo:Nat} {W:World} (h:GiveQ lo bs A cap w0 rb nest nv w r e W):∃ (u0 u1 u2 u3 u4 u5 u6:Int) (s:List UInt8) (L:Option Addr) (ln lc:Nat) (K:Option Addr) (kn kc:Nat) (c p:Int) (st':St) (nv':Value),
  e=.returned (.tuple #[.agg #[.int .i64 u0,.int .i64 u1,.int .i64 u2,.int .i64 u3,.int .i64 u4,.int .i64 u5,.int .i64 u6,.string ⟨s.toArray⟩,.slice L ln lc,.slice none 0 0,.slice K kn kc],.agg #[.int .i64 c,.int .i64 p]])∧Left bs A cap w0 rb nest nv w st' nv' W:=by
 cases r with
 | error e=>
  obtain ⟨c,pl⟩:=e
  obtain ⟨-,h2,st',nv',h3⟩:=h
  exact ⟨0,0,0,0,0,0,0,[],none,0,0,none,0,0,c,pl,st',nv',h2,h3⟩
 | ok t=>
  obtain ⟨x,st'⟩:=t
  obtain ⟨v,nv',h1,h2,h3⟩:=h
  obtain ⟨u0,u1,u2,u3,u4,u5,u6,s,L,ln,lc,K,kn,kc,rfl,-⟩:=h2.form
  exact ⟨u0,u1,u2,u3,u4,u5,u6,s,L,ln,lc,K,kn,kc,0,0,st',nv',h1,h3⟩
section
variable {bs:List UInt8} {A:Option Addr} {cap:Nat} {w0:World} {rb nest:Nat} {nv nv1:Value} {w W X:World} {st1:St} {g g2:Nat} {cs cs2:Array Value}
theorem GiveP.onL (hX:Left bs A cap w0 rb nest nv w st1 nv1 X) (h:GiveP bs A cap w0 rb nest nv1 X r e W) (hk:Blk W g 78 cs) (hk2:Blk W g2 80 cs2) (hw:rb<w.heap.size) (hl:w.heap.size≤g) (hl2:w.heap.size≤g2) (hg:g<X.heap.size) (hg2:g2<X.heap.size) (hne:g2≠g) (u0 u1 u2 u3 u4 u5 u6 u7 u8 u9 u10 a b:Value) :
  GiveP bs A cap w0 rb nest nv w r e (((((((((((((W.setCell ⟨g,0,none⟩ u0).setCell ⟨g,1,none⟩ u1).setCell ⟨g,2,none⟩ u2).setCell ⟨g,3,none⟩ u3).setCell ⟨g,4,none⟩ u4).setCell ⟨g,5,none⟩ u5).setCell ⟨g,6,none⟩ u6).setCell ⟨g,7,none⟩ u7).setCell ⟨g,8,none⟩ u8).setCell ⟨g,9,none⟩ u9).setCell ⟨g,10,none⟩ u10).setCell ⟨g2,0,none⟩ a).setCell ⟨g2,1,none⟩ b):=by
 cases r with
 | error e=>
  obtain ⟨c,pl⟩:=e
  obtain ⟨h1,h2,st',nv',h3⟩:=h
  exact ⟨h1,h2,st',nv',(hX.then h3).set13 hk hk2 hw hl hl2 hne u0 u1 u2 u3 u4 u5 u6 u7 u8 u9 u10 a b⟩
 | ok t=>
  obtain ⟨x,st'⟩:=t
  obtain ⟨v,nv',h1,h2,h3⟩:=h
  exact ⟨v,nv',h1,(h2.set13 hg hg2 u0 u1 u2 u3 u4 u5 u6 u7 u8 u9 u10 a b).lower hX.turn.size,(hX.then h3).set13 hk hk2 hw hl hl2 hne u0 u1 u2 u3 u4 u5 u6 u7 u8 u9 u10 a b⟩
theorem GiveQ.onL (hX:Left bs A cap w0 rb nest nv w st1 nv1 X) {lo:Nat} (h:GiveQ lo bs A cap w0 rb nest nv1 X r e W) (hk:Blk W g 78 cs) (hk2:Blk W g2 80 cs2) (hw:rb<w.heap.size) (hl:w.heap.size≤g) (hl2:w.heap.size≤g2) (hg:g<lo) (hg2:g2<lo) (hlo:w.heap.size≤lo) (hne:g2≠g) (u0 u1 u2 u3 u4 u5 u6 u7 u8 u9 u10 a b:Value) :
  GiveP bs A cap w0 rb nest nv w r e (((((((((((((W.setCell ⟨g,0,none⟩ u0).setCell ⟨g,1,none⟩ u1).setCell ⟨g,2,none⟩ u2).setCell ⟨g,3,none⟩ u3).setCell ⟨g,4,none⟩ u4).setCell ⟨g,5,none⟩ u5).setCell ⟨g,6,none⟩ u6).setCell ⟨g,7,none⟩ u7).setCell ⟨g,8,none⟩ u8).setCell ⟨g,9,none⟩ u9).setCell ⟨g,10,none⟩ u10).setCell ⟨g2,0,none⟩ a).setCell ⟨g2,1,none⟩ b):=by
 cases r with
 | error e=>
  obtain ⟨c,pl⟩:=e
  obtain ⟨h1,h2,st',nv',h3⟩:=h
  exact ⟨h1,h2,st',nv',(hX.then h3).set13 hk hk2 hw hl hl2 hne u0 u1 u2 u3 u4 u5 u6 u7 u8 u9 u10 a b⟩
 | ok t=>
  obtain ⟨x,st'⟩:=t
  obtain ⟨v,nv',h1,h2,h3⟩:=h
  exact ⟨v,nv',h1,(h2.set13 hg hg2 u0 u1 u2 u3 u4 u5 u6 u7 u8 u9 u10 a b).lower hlo,(hX.then h3).set13 hk hk2 hw hl hl2 hne u0 u1 u2 u3 u4 u5 u6 u7 u8 u9 u10 a b⟩
end
theorem err_facts {W:World} {g g2 g3:Nat} {a b:Value} (hk:Blk W g 78 pz) (hf:Blk W g2 80 fz) (hs:Blk W g3 80 #[a,b]) (h1:g2≠g) (h3:g3≠g) (u0 u1 u2 u3 u4 u5 u6 u7 u8 u9 u10:Value) :
  ((W.cell? ⟨g3,0,none⟩=some a∧W.cell? ⟨g3,1,none⟩=some b) ∧
  ((((((((((((W.setCell ⟨g,0,none⟩ u0).setCell ⟨g,1,none⟩ u1).setCell ⟨g,2,none⟩ u2).setCell ⟨g,3,none⟩ u3).setCell ⟨g,4,none⟩ u4).setCell ⟨g,5,none⟩ u5).setCell ⟨g,6,none⟩ u6).setCell ⟨g,7,none⟩ u7).setCell ⟨g,8,none⟩ u8).setCell ⟨g,9,none⟩ u9).setCell ⟨g,10,none⟩ u10).cell? ⟨g3,0,none⟩=some a∧(((((((((((W.setCell ⟨g,0,none⟩ u0).setCell ⟨g,1,none⟩ u1).setCell ⟨g,2,none⟩ u2).setCell ⟨g,3,none⟩ u3).setCell ⟨g,4,none⟩ u4).setCell ⟨g,5,none⟩ u5).setCell ⟨g,6,none⟩ u6).setCell ⟨g,7,none⟩ u7).setCell ⟨g,8,none⟩ u8).setCell ⟨g,9,none⟩ u9).setCell ⟨g,10,none⟩ u10).cell? ⟨g3,1,none⟩=some b)):=
 ⟨⟨hs.cell 0,hs.cell 1⟩,⟨(far11 hs h3 u0 u1 u2 u3 u4 u5 u6 u7 u8 u9 u10).cell 0,(far11 hs h3 u0 u1 u2 u3 u4 u5 u6 u7 u8 u9 u10).cell 1⟩⟩
theorem piece_err (h:Rd bs A cap w0 rb nest st nv w) (hE:(cntP bs st.pos).e≠0) :
  Calls Tryz.prog 39 #[Value.pointer (some ⟨rb,0,none⟩)] w (GiveP bs A cap w0 rb nest nv w (.error ((cntP bs st.pos).e,st.pos))):=by
 obtain ⟨hbb,HS,HKP,HKF,HB,HW,hlt,habv⟩:=pro h
 have e0:(((cntP bs st.pos).e:Int) != 0)=true:=by rw [bne_iff_ne];omega
 have HE:=hide hE
 clear hE
 have CN:=hide (fun W (hr:RB bs A cap w0 rb nest st nv ((w.alloc (.cells pz 78)).alloc (.cells fz 80)) W)=>Sc.pcount_any bs A cap (st.pos:Int) W hr.1.pvW hr.1.glW.tabs)
 rw [cntz_nat] at CN
 unfold GivesC at CN
 generalize cntP bs st.pos=c at *
 have q0:=(h.below hbb).c0
 have q1:=(h.below hbb).c1
 clear h hbb
 go_enter Tryz.func39,Tryz.ntmps39
 go_wp2_with fail
 generalize ((w.alloc (.cells pz 78)).alloc (.cells fz 80))=X at *
 have hXs:w.heap.size+2≤X.heap.size:=HKF.1.lt
 refine (CN.1 _ HS.1).mono ?_
 rintro e w5 ⟨rfl,hb⟩
 have HS:=hide (HS.1.below (hb.alloc hb.size (.cells #[.int .i64 (c.lo:Int),.int .i64 c.hi,.int .i64 (c.mode:Int),.int .i64 (c.to:Int)] 91)))
 clear hb CN
 have hk5:=HKP.1.below HS.1.2 HKP.1.lt
 have hf5:=HKF.1.below HS.1.2 HKF.1.lt
 obtain ⟨⟨y0,y1,y2,y3,y4,y5,y6,y7,y8,y9,y10⟩,z0,z1,z2,z3,z4,z5,z6,z7,z8,z9,z10⟩:=cells11 hk5
 obtain ⟨⟨u20,u21⟩,v20,v21⟩:=cells2 hf5
 have HK5:=hide hk5
 have HF5:=hide hf5
 clear hk5 hf5
 go_wp2_with fail
 (try simp only [Exit.inBlock,Exit.then])
 have hq:=blk13 HK5.1 HF5.1 (by omega) rfl rfl
 exact bodyPost_ret (rcc rfl w.heap.size (w.heap.size+1) rfl rfl (hq _ _ _ _ _ _ _ _ _ _ _ _ _)) rfl ⟨HE.1,rfl,st,nv,(Left.of_below HW.1 (HB.1.trans (HS.1.2.mono HB.1.size))).set13 HK5.1 HF5.1 hlt (Nat.le_refl _) (by omega) (by omega) _ _ _ _ _ _ _ _ _ _ _ _ _⟩
theorem piece_rep (h:Rd bs A cap w0 rb nest st nv w) (hE:(cntP bs st.pos).e=0) (hI:(cntP bs st.pos).is=true) :
  Calls Tryz.prog 39 #[Value.pointer (some ⟨rb,0,none⟩)] w (GiveP bs A cap w0 rb nest nv w (.error (31,st.pos))):=by
 obtain ⟨hbb,HS,HKP,HKF,HB,HW,hlt,habv⟩:=pro h
 have e0:(((cntP bs st.pos).e:Int) != 0)=false:=by rw [hE];rfl
 have e0':(((cntP bs st.pos).e:Int)=0):=by rw [hE];rfl
 have i0:(cntP bs st.pos).is=true:=hI
 have HE:=hide hE
 clear hE
 have CN:=hide (fun W (hr:RB bs A cap w0 rb nest st nv ((w.alloc (.cells pz 78)).alloc (.cells fz 80)) W)=>Sc.pcount_any bs A cap (st.pos:Int) W hr.1.pvW hr.1.glW.tabs)
 rw [cntz_nat] at CN
 unfold GivesC at CN
 rw [hI] at CN
 clear hI i0
 generalize cntP bs st.pos=c at *
 have q0:=(h.below hbb).c0
 have q1:=(h.below hbb).c1
 clear h hbb
 go_enter Tryz.func39,Tryz.ntmps39
 go_wp2_with fail
 generalize ((w.alloc (.cells pz 78)).alloc (.cells fz 80))=X at *
 have hXs:w.heap.size+2≤X.heap.size:=HKF.1.lt
 refine (CN.1 _ HS.1).mono ?_
 rintro e w5 ⟨rfl,hb⟩
 have HS:=hide (HS.1.below (hb.alloc hb.size (.cells #[.int .i64 (c.lo:Int),.int .i64 c.hi,.int .i64 (c.mode:Int),.int .i64 (c.to:Int)] 91)))
 clear hb CN
 have hk5:=HKP.1.below HS.1.2 HKP.1.lt
 have hf5:=HKF.1.below HS.1.2 HKF.1.lt
 obtain ⟨⟨y0,y1,y2,y3,y4,y5,y6,y7,y8,y9,y10⟩,z0,z1,z2,z3,z4,z5,z6,z7,z8,z9,z10⟩:=cells11 hk5
 obtain ⟨⟨u20,u21⟩,v20,v21⟩:=cells2 hf5
 have HK5:=hide hk5
 have HF5:=hide hf5
 clear hk5 hf5
 go_wp2_with fail
 (try simp only [Exit.inBlock,Exit.then])
 have hq:=blk13 HK5.1 HF5.1 (by omega) rfl rfl
 exact bodyPost_ret (rcc rfl w.heap.size (w.heap.size+1) rfl rfl (hq _ _ _ _ _ _ _ _ _ _ _ _ _)) rfl ⟨(by decide),rfl,st,nv,(Left.of_below HW.1 (HB.1.trans (HS.1.2.mono HB.1.size))).set13 HK5.1 HF5.1 hlt (Nat.le_refl _) (by omega) (by omega) _ _ _ _ _ _ _ _ _ _ _ _ _⟩
theorem piece_bad (h:Rd bs A cap w0 rb nest st nv w) (hE:(cntP bs st.pos).e=0) (hI:(cntP bs st.pos).is=false) (r:Res (Pt×Bool)) (k pl:Nat) (hr:r=.error (k,pl)) (CA:∀ W,Rd bs A cap w0 rb nest st nv W→Calls Tryz.prog 44 #[Value.pointer (some ⟨rb,0,none⟩)] W (GiveA bs A cap w0 rb nest nv W r)) :
  Calls Tryz.prog 39 #[Value.pointer (some ⟨rb,0,none⟩)] w (GiveP bs A cap w0 rb nest nv w (.error (k,pl))):=by
 obtain ⟨hbb,HS,HKP,HKF,HB,HW,hlt,habv⟩:=pro h
 have e0:(((cntP bs st.pos).e:Int) != 0)=false:=by rw [hE];rfl
 have HE:=hide hE
 clear hE
 have CA:=hide CA
 have hr:=hide hr
 have CN:=hide (fun W (hr:RB bs A cap w0 rb nest st nv ((w.alloc (.cells pz 78)).alloc (.cells fz 80)) W)=>Sc.pcount_any bs A cap (st.pos:Int) W hr.1.pvW hr.1.glW.tabs)
 rw [cntz_nat] at CN
 unfold GivesC at CN
 rw [hI] at CN
 clear hI
 generalize cntP bs st.pos=c at *
 have q0:=(h.below hbb).c0
 have q1:=(h.below hbb).c1
 clear h hbb
 go_enter Tryz.func39,Tryz.ntmps39
 go_wp2_with fail
 generalize ((w.alloc (.cells pz 78)).alloc (.cells fz 80))=X at *
 have hXs:w.heap.size+2≤X.heap.size:=HKF.1.lt
 refine (CN.1 _ HS.1).mono ?_
 rintro e w5 ⟨rfl,hb⟩
 have HS:=hide (HS.1.below (hb.alloc hb.size (.cells #[.int .i64 (c.lo:Int),.int .i64 c.hi,.int .i64 (c.mode:Int),.int .i64 (c.to:Int)] 91)))
 clear hb CN
 have hk5:=HKP.1.below HS.1.2 HKP.1.lt
 have hf5:=HKF.1.below HS.1.2 HKF.1.lt
 have HK5:=hide hk5
 have HF5:=hide hf5
 clear hk5 hf5
 go_wp2_with fail
 generalize (w5.alloc (.cells #[.int .i64 (c.lo:Int),.int .i64 c.hi,.int .i64 (c.mode:Int),.int .i64 (c.to:Int)] 91))=Y at *
 refine (CA.1 _ HS.1.1).mono ?_
 rintro e w6 hG
 rw [hr.1] at hG
 obtain ⟨hk0,rfl,st',nv',hL⟩:=hG
 have hk6:=((Left.blk HS.1.1 hL HK5.1 (by decide) (by omega)).alloc (.cells pz 78)).alloc (.cells #[.int .i64 (k:Int),.int .i64 (pl:Int)] 80)
 have hf6:=((Left.blk HS.1.1 hL HF5.1 (by decide) (by omega)).alloc (.cells pz 78)).alloc (.cells #[.int .i64 (k:Int),.int .i64 (pl:Int)] 80)
 have hl6:=((Left.of_below HW.1 (HB.1.trans (HS.1.2.mono HB.1.size))).then hL).below (((Below.refl _ w6).alloc (Nat.le_refl _) (.cells pz 78)).alloc (by simp) (.cells #[.int .i64 (k:Int),.int .i64 (pl:Int)] 80))
 have hs6:=blk_at (W:=w6.alloc (.cells pz 78)) (g:=w6.heap.size+1) (t:=80) (cs:=#[.int .i64 (k:Int),.int .i64 (pl:Int)]) (by simp)
 have hp6:=(Blk.new w6 78 pz).alloc (.cells #[.int .i64 (k:Int),.int .i64 (pl:Int)] 80)
 have hszY:=HS.1.2.size
 have hsz6:=hL.turn.size
 have e1:((k:Int) != 0)=true:=by rw [bne_iff_ne];omega
 have HK6:=hide hk6
 have HF6:=hide hf6
 have HL6:=hide hl6
 have HS6:=hide hs6
 have HP6:=hide hp6
 have hk0:=hide hk0
 clear hk6 hf6 hl6 hs6 hp6 hL CA
 go_wp2_with fail
 have hWs:w6.heap.size+2≤((w6.alloc (.cells pz 78)).alloc (.cells #[.int .i64 (k:Int),.int .i64 (pl:Int)] 80)).heap.size:=by simp
 generalize ((w6.alloc (.cells pz 78)).alloc (.cells #[.int .i64 (k:Int),.int .i64 (pl:Int)] 80))=V at *
 have hgs:w.heap.size≠w6.heap.size+1:=by omega
 have hff:=err_facts HK6.1 HF6.1 HS6.1 (by omega) (by omega)
 obtain ⟨⟨a0,a1⟩,-⟩:=hff (.int .i64 0) (.int .i64 0) (.int .i64 0) (.int .i64 0) (.int .i64 0) (.int .i64 0) (.int .i64 0) (.string ⟨#[]⟩) (.slice none 0 0) (.slice none 0 0) (.slice none 0 0)
 obtain ⟨-,⟨b0,b1⟩⟩:=hff (.int .i64 0) (.int .i64 0) (.int .i64 0) (.int .i64 0) (.int .i64 0) (.int .i64 0) (.int .i64 0) (.string ⟨#[]⟩) (.slice none 0 0) (.slice none 0 0) (.slice none 0 0)
 obtain ⟨⟨y0,y1,y2,y3,y4,y5,y6,y7,y8,y9,y10⟩,z0,z1,z2,z3,z4,z5,z6,z7,z8,z9,z10⟩:=cells11 HK6.1
 obtain ⟨⟨u20,u21⟩,v20,v21⟩:=cells2 HF6.1
 obtain ⟨⟨p20,p21⟩,q20,q21⟩:=cells2 (far11 HF6.1 (show w.heap.size+1≠w.heap.size by omega) (.int .i64 0) (.int .i64 0) (.int .i64 0) (.int .i64 0) (.int .i64 0) (.int .i64 0) (.int .i64 0) (.string ⟨#[]⟩) (.slice none 0 0) (.slice none 0 0) (.slice none 0 0))
 clear hff
 go_region
 all_goals
  go_wp2_with fail
  (try simp only [Exit.inBlock,Exit.then])
  have hq:=blk13 HK6.1 HF6.1 (by omega) rfl rfl
  exact bodyPost_ret (rcc rfl w.heap.size (w.heap.size+1) rfl rfl ⟨(hq _ _ _ _ _ _ _ _ _ _ _ _ _).1.drew,(hq _ _ _ _ _ _ _ _ _ _ _ _ _).2.drew⟩) rfl ⟨hk0.1,rfl,st',nv',((HL6.1.set13 HK6.1 HF6.1 hlt (Nat.le_refl _) (by omega) (by omega) _ _ _ _ _ _ _ _ _ _ _ _ _).below (Below.refl _ _).drew)⟩
theorem piece_leaf (h:Rd bs A cap w0 rb nest st nv w) (hE:(cntP bs st.pos).e=0) (hI:(cntP bs st.pos).is=false) (r:Res (Pt×Bool)) (x:Pt) (st2:St) (hr:r=.ok ((x,false),st2)) (CA:∀ W,Rd bs A cap w0 rb nest st nv W→Calls Tryz.prog 44 #[Value.pointer (some ⟨rb,0,none⟩)] W (GiveA bs A cap w0 rb nest nv W r)) :
  Calls Tryz.prog 39 #[Value.pointer (some ⟨rb,0,none⟩)] w (GiveP bs A cap w0 rb nest nv w (.ok (x,st2))):=by
 obtain ⟨hbb,HS,HKP,HKF,HB,HW,hlt,habv⟩:=pro h
 have e0:(((cntP bs st.pos).e:Int) != 0)=false:=by rw [hE];rfl
 have HE:=hide hE
 clear hE
 have CA:=hide CA
 have hr:=hide hr
 have CN:=hide (fun W (hr:RB bs A cap w0 rb nest st nv ((w.alloc (.cells pz 78)).alloc (.cells fz 80)) W)=>Sc.pcount_any bs A cap (st.pos:Int) W hr.1.pvW hr.1.glW.tabs)
 rw [cntz_nat] at CN
 unfold GivesC at CN
 rw [hI] at CN
 clear hI
 generalize cntP bs st.pos=c at *
 have q0:=(h.below hbb).c0
 have q1:=(h.below hbb).c1
 clear h hbb
 go_enter Tryz.func39,Tryz.ntmps39
 go_wp2_with fail
 generalize ((w.alloc (.cells pz 78)).alloc (.cells fz 80))=X at *
 have hXs:w.heap.size+2≤X.heap.size:=HKF.1.lt
 refine (CN.1 _ HS.1).mono ?_
 rintro e w5 ⟨rfl,hb⟩
 have HS:=hide (HS.1.below (hb.alloc hb.size (.cells #[.int .i64 (c.lo:Int),.int .i64 c.hi,.int .i64 (c.mode:Int),.int .i64 (c.to:Int)] 91)))
 clear hb CN
 have hk5:=HKP.1.below HS.1.2 HKP.1.lt
 have hf5:=HKF.1.below HS.1.2 HKF.1.lt
 have HK5:=hide hk5
 have HF5:=hide hf5
 clear hk5 hf5
 go_wp2_with fail
 generalize (w5.alloc (.cells #[.int .i64 (c.lo:Int),.int .i64 c.hi,.int .i64 (c.mode:Int),.int .i64 (c.to:Int)] 91))=Y at *
 refine (CA.1 _ HS.1.1).mono ?_
 rintro e w6 hG
 rw [hr.1] at hG
 obtain ⟨v,nv',he,hp,hL⟩:=hG
 obtain ⟨u0,u1,u2,u3,u4,u5,u6,s,L,ln,lc,K,kn,kc,rfl,-⟩:=hp.form
 subst he
 have hk6:=((Left.blk HS.1.1 hL HK5.1 (by decide) (by omega)).alloc (.cells (pu u0 u1 u2 u3 u4 u5 u6 s L ln lc K kn kc) 78)).alloc (.cells fz 80)
 have hf6:=((Left.blk HS.1.1 hL HF5.1 (by decide) (by omega)).alloc (.cells (pu u0 u1 u2 u3 u4 u5 u6 s L ln lc K kn kc) 78)).alloc (.cells fz 80)
 have hl6:=((Left.of_below HW.1 (HB.1.trans (HS.1.2.mono HB.1.size))).then hL).below (((Below.refl _ w6).alloc (Nat.le_refl _) (.cells (pu u0 u1 u2 u3 u4 u5 u6 s L ln lc K kn kc) 78)).alloc (by simp) (.cells fz 80))
 have hs6:=blk_at (W:=w6.alloc (.cells (pu u0 u1 u2 u3 u4 u5 u6 s L ln lc K kn kc) 78)) (g:=w6.heap.size+1) (t:=80) (cs:=fz) (by simp)
 have hp6:=(Blk.new w6 78 (pu u0 u1 u2 u3 u4 u5 u6 s L ln lc K kn kc)).alloc (.cells fz 80)
 have hszY:=HS.1.2.size
 have hsz6:=hL.turn.size
 have hpv:=hp.below (((Below.refl _ w6).alloc (Nat.le_refl _) (.cells (pu u0 u1 u2 u3 u4 u5 u6 s L ln lc K kn kc) 78)).alloc (by simp) (.cells fz 80))
 have hWs:w6.heap.size+2≤((w6.alloc (.cells (pu u0 u1 u2 u3 u4 u5 u6 s L ln lc K kn kc) 78)).alloc (.cells fz 80)).heap.size:=by simp
 obtain ⟨⟨p0,p1,p2,p3,p4,p5,p6,p7,p8,p9,p10⟩,-⟩:=cells11 hp6
 obtain ⟨⟨a0,a1⟩,-⟩:=cells2 hs6
 obtain ⟨⟨y0,y1,y2,y3,y4,y5,y6,y7,y8,y9,y10⟩,z0,z1,z2,z3,z4,z5,z6,z7,z8,z9,z10⟩:=cells11 hk6
 obtain ⟨⟨u20,u21⟩,v20,v21⟩:=cells2 hf6
 have HK6:=hide hk6
 have HF6:=hide hf6
 have HL6:=hide hl6
 have HP6:=hide hpv
 clear hk6 hf6 hl6 hs6 hp6 hpv hp hL CA
 go_wp2_with fail
 (try simp only [Exit.inBlock,Exit.then])
 have hq:=blk13 HK6.1 HF6.1 (by omega) rfl rfl
 exact bodyPost_ret (rcc rfl w.heap.size (w.heap.size+1) rfl rfl (hq _ _ _ _ _ _ _ _ _ _ _ _ _)) rfl ⟨_,nv',rfl,(HP6.1.set13 (by omega) (by omega) _ _ _ _ _ _ _ _ _ _ _ _ _).lower (by omega),HL6.1.set13 HK6.1 HF6.1 hlt (Nat.le_refl _) (by omega) (by omega) _ _ _ _ _ _ _ _ _ _ _ _ _⟩
theorem piece_quant (h:Rd bs A cap w0 rb nest st nv w) (hE:(cntP bs st.pos).e=0) (hI:(cntP bs st.pos).is=false) (r:Res (Pt×Bool)) (x:Pt) (st2:St) (hr:r=.ok ((x,true),st2)) (q:Res Pt) (CQ:∀ W nv1 v,Rd bs A cap w0 rb nest st2 nv1 W→PtV (Ok (w.heap.size+2) nv1) W x v→w.heap.size+2≤W.heap.size→Calls Tryz.prog 45 #[Value.pointer (some ⟨rb,0,none⟩),v,.int .i64 (st.pos:Int)] W (GiveQ (w.heap.size+2) bs A cap w0 rb nest nv1 W q)) (CA:∀ W,Rd bs A cap w0 rb nest st nv W→Calls Tryz.prog 44 #[Value.pointer (some ⟨rb,0,none⟩)] W (GiveA bs A cap w0 rb nest nv W r)) :
  Calls Tryz.prog 39 #[Value.pointer (some ⟨rb,0,none⟩)] w (GiveP bs A cap w0 rb nest nv w q):=by
 obtain ⟨hbb,HS,HKP,HKF,HB,HW,hlt,habv⟩:=pro h
 have e0:(((cntP bs st.pos).e:Int) != 0)=false:=by rw [hE];rfl
 have HE:=hide hE
 clear hE
 have CA:=hide CA
 have CQ:=hide CQ
 have hr:=hide hr
 have CN:=hide (fun W (hr:RB bs A cap w0 rb nest st nv ((w.alloc (.cells pz 78)).alloc (.cells fz 80)) W)=>Sc.pcount_any bs A cap (st.pos:Int) W hr.1.pvW hr.1.glW.tabs)
 rw [cntz_nat] at CN
 unfold GivesC at CN
 rw [hI] at CN
 clear hI
 generalize cntP bs st.pos=c at *
 have q0:=(h.below hbb).c0
 have q1:=(h.below hbb).c1
 clear h hbb
 go_enter Tryz.func39,Tryz.ntmps39
 go_wp2_with fail
 generalize ((w.alloc (.cells pz 78)).alloc (.cells fz 80))=X at *
 have hXs:w.heap.size+2≤X.heap.size:=HKF.1.lt
 refine (CN.1 _ HS.1).mono ?_
 rintro e w5 ⟨rfl,hb⟩
 have HS:=hide (HS.1.below (hb.alloc hb.size (.cells #[.int .i64 (c.lo:Int),.int .i64 c.hi,.int .i64 (c.mode:Int),.int .i64 (c.to:Int)] 91)))
 clear hb CN
 have hk5:=HKP.1.below HS.1.2 HKP.1.lt
 have hf5:=HKF.1.below HS.1.2 HKF.1.lt
 have HK5:=hide hk5
 have HF5:=hide hf5
 clear hk5 hf5
 go_wp2_with fail
 generalize (w5.alloc (.cells #[.int .i64 (c.lo:Int),.int .i64 c.hi,.int .i64 (c.mode:Int),.int .i64 (c.to:Int)] 91))=Y at *
 refine (CA.1 _ HS.1.1).mono ?_
 rintro e w6 hG
 rw [hr.1] at hG
 obtain ⟨v,nv',he,hp,hL⟩:=hG
 obtain ⟨u0,u1,u2,u3,u4,u5,u6,s,L,ln,lc,K,kn,kc,rfl,-⟩:=hp.form
 subst he
 have hk6:=((Left.blk HS.1.1 hL HK5.1 (by decide) (by omega)).alloc (.cells (pu u0 u1 u2 u3 u4 u5 u6 s L ln lc K kn kc) 78)).alloc (.cells fz 80)
 have hf6:=((Left.blk HS.1.1 hL HF5.1 (by decide) (by omega)).alloc (.cells (pu u0 u1 u2 u3 u4 u5 u6 s L ln lc K kn kc) 78)).alloc (.cells fz 80)
 have hl6:=((Left.of_below HW.1 (HB.1.trans (HS.1.2.mono HB.1.size))).then hL).below (((Below.refl _ w6).alloc (Nat.le_refl _) (.cells (pu u0 u1 u2 u3 u4 u5 u6 s L ln lc K kn kc) 78)).alloc (by simp) (.cells fz 80))
 have hs6:=blk_at (W:=w6.alloc (.cells (pu u0 u1 u2 u3 u4 u5 u6 s L ln lc K kn kc) 78)) (g:=w6.heap.size+1) (t:=80) (cs:=fz) (by simp)
 have hp6:=(Blk.new w6 78 (pu u0 u1 u2 u3 u4 u5 u6 s L ln lc K kn kc)).alloc (.cells fz 80)
 have hszY:=HS.1.2.size
 have hsz6:=hL.turn.size
 have hpv:=hp.below (((Below.refl _ w6).alloc (Nat.le_refl _) (.cells (pu u0 u1 u2 u3 u4 u5 u6 s L ln lc K kn kc) 78)).alloc (by simp) (.cells fz 80))
 have hWs:w6.heap.size+2≤((w6.alloc (.cells (pu u0 u1 u2 u3 u4 u5 u6 s L ln lc K kn kc) 78)).alloc (.cells fz 80)).heap.size:=by simp
 obtain ⟨⟨p0,p1,p2,p3,p4,p5,p6,p7,p8,p9,p10⟩,-⟩:=cells11 hp6
 obtain ⟨⟨a0,a1⟩,-⟩:=cells2 hs6
 obtain ⟨⟨y0,y1,y2,y3,y4,y5,y6,y7,y8,y9,y10⟩,z0,z1,z2,z3,z4,z5,z6,z7,z8,z9,z10⟩:=cells11 hk6
 obtain ⟨⟨u20,u21⟩,v20,v21⟩:=cells2 hf6
 have HK6:=hide hk6
 have HF6:=hide hf6
 have HL6:=hide hl6
 have HP6:=hide hpv
 clear hk6 hf6 hl6 hs6 hp6 hpv hp hL CA
 go_wp2_with fail
 have HBV:=hide (show w.heap.size+2≤w6.heap.size by omega)
 generalize ((w6.alloc (.cells (pu u0 u1 u2 u3 u4 u5 u6 s L ln lc K kn kc) 78)).alloc (.cells fz 80))=V at *
 refine (CQ.1 _ nv' _ HL6.1.rd (HP6.1.lower (by omega)) (by omega)).mono ?_
 rintro e w7 hG
 obtain ⟨u0',u1',u2',u3',u4',u5',u6',s',L',ln',lc',K',kn',kc',c',p',st3,nv3,rfl,hL7⟩:=hG.formQ
 have hk7:=Left.blk HL6.1.rd hL7 HK6.1 (by decide) (by omega)
 have hf7:=Left.blk HL6.1.rd hL7 HF6.1 (by decide) (by omega)
 obtain ⟨⟨y0,y1,y2,y3,y4,y5,y6,y7,y8,y9,y10⟩,z0,z1,z2,z3,z4,z5,z6,z7,z8,z9,z10⟩:=cells11 hk7
 obtain ⟨⟨u20,u21⟩,v20,v21⟩:=cells2 hf7
 have HK7:=hide hk7
 have HF7:=hide hf7
 have HG:=hide hG
 clear hk7 hf7 hL7 hG CQ
 go_wp2_with fail
 (try simp only [Exit.inBlock,Exit.then])
 have hq:=blk13 HK7.1 HF7.1 (by omega) rfl rfl
 exact bodyPost_ret (rcc rfl w.heap.size (w.heap.size+1) rfl rfl (hq _ _ _ _ _ _ _ _ _ _ _ _ _)) rfl (GiveQ.onL HL6.1 HG.1 HK7.1 HF7.1 hlt (Nat.le_refl _) (by omega) (by omega) (by omega) (by omega) (by omega) _ _ _ _ _ _ _ _ _ _ _ _ _)
end Go.Proofs.YtmlbklcmblofkaaGreatDoor.Pa
