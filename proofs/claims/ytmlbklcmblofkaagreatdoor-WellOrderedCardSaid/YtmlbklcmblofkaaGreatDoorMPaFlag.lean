/-
  The reader's flagged, walked.
-/
import Derived.Test.YtmlbklcmblofkaaGreatDoorMPaWithin
set_option linter.unusedSimpArgs false
set_option linter.unusedVariables false
set_option maxHeartbeats 8000000
set_option maxRecDepth 100000
namespace Go.Proofs.YtmlbklcmblofkaaGreatDoor.Pa
open Go.RowKit Mem
open Sy (g)
open Sc (g_in)
open Rs (R)
attribute [local go_sem] build_pz build_fl build_f0
attribute [local go_sem] build_nd0
variable {bs:List UInt8} {cap rb nest b off:Nat} {w0 w:World} {st:St} {nv:Value}
theorem RB.fset {A:Option Addr} {X wx:World} {g:Nat} (hx:RB bs A cap w0 rb nest st nv X X) (h:RB bs A cap w0 rb nest st nv X wx) (hg:X.heap.size≤g) (u0 u1 u2 u3:Value):RB bs A cap w0 rb nest st nv X ((((wx.setCell ⟨g,0,none⟩ u0).setCell ⟨g,1,none⟩ u1).setCell ⟨g,2,none⟩ u2).setCell ⟨g,3,none⟩ u3):=
 ⟨hx.1.below (bel4 h.2 hg u0 u1 u2 u3),bel4 h.2 hg u0 u1 u2 u3⟩
theorem flag_minus_bada (h:Rd bs (some ⟨b,off,none⟩) cap w0 rb nest st nv w) (hb0:0<bs.length) (k:Nat) (hk:k≤bs.length) (f1:Fl) (q1:Nat) (h1:letP bs true st.fl k=(f1,q1)) (hm:g bs q1=45) (f:Fl) (q:Nat) (h2:letP bs false f1 (q1+1)=(f,q)) (hbad:q=q1+1) :
  Calls Tryz.prog 70 #[Value.pointer (some ⟨rb,0,none⟩),.int .i64 (k:Int)] w (GiveA bs (some ⟨b,off,none⟩) cap w0 rb nest nv w (.error (35,q))):=by
 obtain ⟨hbb,HS,HKP,HKF,HB,HW,hlt,habv⟩:=pro h
 have hcell:∀ W,RB bs (some ⟨b,off,none⟩) cap w0 rb nest st nv ((w.alloc (.cells pz 78)).alloc (.cells fz 80)) W→∀ j,j<bs.length→W.cell? ⟨b,off+j,none⟩=some (.int .u8 (g bs j:Int)):=fun W hr j hj=>by
  obtain ⟨b',off',e,_,hc⟩:=hr.1.pvW.cell hb0
  injection e with e
  injection e with e1 e2
  subst e1;subst e2
  exact hc j hj
 have HCELL:=hide hcell
 have hq1:q1≤bs.length:=by have:=let_on (bs:=bs) (b:=true) _ st.fl k (Nat.le_refl _);rw [h1] at this;simp only [] at this;omega
 have htop:=h.top
 have CL1:=hide (fun W (hr:RB bs (some ⟨b,off,none⟩) cap w0 rb nest st nv ((w.alloc (.cells pz 78)).alloc (.cells fz 80)) W)=>by have:=letters_any hr.1 st.fl k hk true;rw [h1] at this;exact this)
 have hq1l:q1<bs.length:=g_in (by omega)
 have hq:q≤bs.length:=by have:=let_on (bs:=bs) (b:=false) _ f1 (q1+1) (Nat.le_refl _);rw [h2] at this;simp only [] at this;omega
 have CL2:=hide (fun W (hr:RB bs (some ⟨b,off,none⟩) cap w0 rb nest st nv ((w.alloc (.cells pz 78)).alloc (.cells fz 80)) W)=>by have:=letters_any hr.1 f1 (q1+1) hq1l false;rw [h2,Int.natCast_add] at this;exact this)
 have hm1:((g bs q1:Int)==45)=true:=by rw [hm];rfl
 have hl1:(q1:Int)<(bs.length:Int):=by omega
 have hw1:IntKind.i64.wrap ((q1:Int)+1)=(q1:Int)+1:=Rs.wrap_id _ (by omega) (by omega)
 have c5:((q:Int)==(q1:Int)+1)=true:=by rw [hbad];exact beq_iff_eq.2 (by push_cast;rfl)
 have q0:=(h.below hbb).c0
 have q2:=(h.below hbb).c2
 have q3:=(h.below hbb).c3
 have q4:=(h.below hbb).c4
 have q5:=(h.below hbb).c5
 clear h hbb hcell h1 hk hm h2 hbad
 go_enter Tryz.func70,Tryz.ntmps70
 go_wp2_with fail
 generalize ((w.alloc (.cells pz 78)).alloc (.cells fz 80))=X at *
 have hXs:w.heap.size+2≤X.heap.size:=HKF.1.lt
 have HSX:=HS
 refine (CL1.1 _ HS.1).mono ?_
 rintro e w5 ⟨rfl,hb5⟩
 have HS:=hide (HS.1.below (hb5.alloc hb5.size (.cells (bf f1) 73)))
 have hgw:w5.heap.size<(w5.alloc (.cells (bf f1) 73)).heap.size:=by simp
 have HQ:=hide (Blk.new w5 73 (bf f1))
 have hX5:X.heap.size≤w5.heap.size:=hb5.size
 clear hb5 CL1 q0 q2 q3 q4 q5
 have y0:(w5.alloc (.cells (bf f1) 73)).cell? ⟨rb,0,none⟩=some (.slice (some ⟨b,off,none⟩) bs.length cap):=HS.1.1.blk.cell 0
 have hby:=HCELL.1 _ HS.1
 have hby1:=hby q1 hq1l
 clear hby
 go_wp2_with fail
 generalize (w5.alloc (.cells (bf f1) 73))=V0 at *
 generalize w5.heap.size=g5 at *
 have HQ0:=HQ
 refine (CL2.1 _ HS.1).mono ?_
 rintro e w7 ⟨rfl,hb7⟩
 have HQ:=hide (set4 (HQ.1.below hb7 HQ.1.lt) (.bool f.i) (.bool f.m) (.bool f.s) (.bool f.x))
 obtain ⟨-,z0,z1,z2,z3⟩:=cells4 (HQ.1)
 have hq0:=HQ.1
 obtain ⟨⟨d0,d1,d2,d3⟩,e0,e1,e2,e3⟩:=cells4 (show Blk w7 g5 73 (bf f1) from HQ0.1.below hb7 HQ0.1.lt)
 have HS:=hide (RB.fset HSX.1 (HS.1.below hb7) (show X.heap.size≤g5 by omega) (.bool f.i) (.bool f.m) (.bool f.s) (.bool f.x))
 clear hb7 CL2 hby1 y0 z0 z1 z2 z3 hq0
 have y0:((((w7.setCell ⟨g5,0,none⟩ (.bool f.i)).setCell ⟨g5,1,none⟩ (.bool f.m)).setCell ⟨g5,2,none⟩ (.bool f.s)).setCell ⟨g5,3,none⟩ (.bool f.x)).cell? ⟨rb,0,none⟩=some (.slice (some ⟨b,off,none⟩) bs.length cap):=HS.1.1.blk.cell 0
 have hby:=HCELL.1 _ HS.1
 have HK5:=hide (HKP.1.below HS.1.2 HKP.1.lt)
 have HF5:=hide (HKF.1.below HS.1.2 HKF.1.lt)
 have hWs:w.heap.size+2≤((((w7.setCell ⟨g5,0,none⟩ (.bool f.i)).setCell ⟨g5,1,none⟩ (.bool f.m)).setCell ⟨g5,2,none⟩ (.bool f.s)).setCell ⟨g5,3,none⟩ (.bool f.x)).heap.size:=Nat.le_trans hXs HS.1.2.size
 obtain ⟨⟨y1,y2,y3,y4,y5,y6,y7,y8,y9,y10,y11⟩,z0,z1,z2,z3,z4,z5,z6,z7,z8,z9,z10⟩:=cells11 HK5.1
 obtain ⟨⟨u20,u21⟩,v20,v21⟩:=cells2 HF5.1
 clear hby
 go_wp2_with fail
 (try simp only [Exit.inBlock,Exit.then])
 have hq:=blk13 HK5.1 HF5.1 (by omega) rfl rfl
 exact bodyPost_ret (rctc rfl w.heap.size (w.heap.size+1) (.bool false) rfl rfl rfl (hq _ _ _ _ _ _ _ _ _ _ _ _ _)) rfl ⟨by decide,rfl,st,nv,(Left.of_below HW.1 (HB.1.trans (HS.1.2.mono HB.1.size))).set13 HK5.1 HF5.1 hlt (Nat.le_refl _) (by omega) (by omega) _ _ _ _ _ _ _ _ _ _ _ _ _⟩
theorem flag_minus_badb (h:Rd bs (some ⟨b,off,none⟩) cap w0 rb nest st nv w) (hb0:0<bs.length) (k:Nat) (hk:k≤bs.length) (f1:Fl) (q1:Nat) (h1:letP bs true st.fl k=(f1,q1)) (hm:g bs q1=45) (f:Fl) (q:Nat) (h2:letP bs false f1 (q1+1)=(f,q)) (hbad:q≠q1+1) (hbd:bs.length≤q) :
  Calls Tryz.prog 70 #[Value.pointer (some ⟨rb,0,none⟩),.int .i64 (k:Int)] w (GiveA bs (some ⟨b,off,none⟩) cap w0 rb nest nv w (.error (35,q))):=by
 obtain ⟨hbb,HS,HKP,HKF,HB,HW,hlt,habv⟩:=pro h
 have hcell:∀ W,RB bs (some ⟨b,off,none⟩) cap w0 rb nest st nv ((w.alloc (.cells pz 78)).alloc (.cells fz 80)) W→∀ j,j<bs.length→W.cell? ⟨b,off+j,none⟩=some (.int .u8 (g bs j:Int)):=fun W hr j hj=>by
  obtain ⟨b',off',e,_,hc⟩:=hr.1.pvW.cell hb0
  injection e with e
  injection e with e1 e2
  subst e1;subst e2
  exact hc j hj
 have HCELL:=hide hcell
 have hq1:q1≤bs.length:=by have:=let_on (bs:=bs) (b:=true) _ st.fl k (Nat.le_refl _);rw [h1] at this;simp only [] at this;omega
 have htop:=h.top
 have CL1:=hide (fun W (hr:RB bs (some ⟨b,off,none⟩) cap w0 rb nest st nv ((w.alloc (.cells pz 78)).alloc (.cells fz 80)) W)=>by have:=letters_any hr.1 st.fl k hk true;rw [h1] at this;exact this)
 have hq1l:q1<bs.length:=g_in (by omega)
 have hq:q≤bs.length:=by have:=let_on (bs:=bs) (b:=false) _ f1 (q1+1) (Nat.le_refl _);rw [h2] at this;simp only [] at this;omega
 have CL2:=hide (fun W (hr:RB bs (some ⟨b,off,none⟩) cap w0 rb nest st nv ((w.alloc (.cells pz 78)).alloc (.cells fz 80)) W)=>by have:=letters_any hr.1 f1 (q1+1) hq1l false;rw [h2,Int.natCast_add] at this;exact this)
 have hm1:((g bs q1:Int)==45)=true:=by rw [hm];rfl
 have hl1:(q1:Int)<(bs.length:Int):=by omega
 have hw1:IntKind.i64.wrap ((q1:Int)+1)=(q1:Int)+1:=Rs.wrap_id _ (by omega) (by omega)
 have c5:((q:Int)==(q1:Int)+1)=false:=by rw [beq_eq_false_iff_ne];omega
 have c7:((q:Int)==(bs.length:Int))=true:=by rw [beq_iff_eq];omega
 have q0:=(h.below hbb).c0
 have q2:=(h.below hbb).c2
 have q3:=(h.below hbb).c3
 have q4:=(h.below hbb).c4
 have q5:=(h.below hbb).c5
 clear h hbb hcell h1 hk hm h2 hbad
 go_enter Tryz.func70,Tryz.ntmps70
 go_wp2_with fail
 generalize ((w.alloc (.cells pz 78)).alloc (.cells fz 80))=X at *
 have hXs:w.heap.size+2≤X.heap.size:=HKF.1.lt
 have HSX:=HS
 refine (CL1.1 _ HS.1).mono ?_
 rintro e w5 ⟨rfl,hb5⟩
 have HS:=hide (HS.1.below (hb5.alloc hb5.size (.cells (bf f1) 73)))
 have hgw:w5.heap.size<(w5.alloc (.cells (bf f1) 73)).heap.size:=by simp
 have HQ:=hide (Blk.new w5 73 (bf f1))
 have hX5:X.heap.size≤w5.heap.size:=hb5.size
 clear hb5 CL1 q0 q2 q3 q4 q5
 have y0:(w5.alloc (.cells (bf f1) 73)).cell? ⟨rb,0,none⟩=some (.slice (some ⟨b,off,none⟩) bs.length cap):=HS.1.1.blk.cell 0
 have hby:=HCELL.1 _ HS.1
 have hby1:=hby q1 hq1l
 clear hby
 go_wp2_with fail
 generalize (w5.alloc (.cells (bf f1) 73))=V0 at *
 generalize w5.heap.size=g5 at *
 have HQ0:=HQ
 refine (CL2.1 _ HS.1).mono ?_
 rintro e w7 ⟨rfl,hb7⟩
 have HQ:=hide (set4 (HQ.1.below hb7 HQ.1.lt) (.bool f.i) (.bool f.m) (.bool f.s) (.bool f.x))
 obtain ⟨-,z0,z1,z2,z3⟩:=cells4 (HQ.1)
 have hq0:=HQ.1
 obtain ⟨⟨d0,d1,d2,d3⟩,e0,e1,e2,e3⟩:=cells4 (show Blk w7 g5 73 (bf f1) from HQ0.1.below hb7 HQ0.1.lt)
 have HS:=hide (RB.fset HSX.1 (HS.1.below hb7) (show X.heap.size≤g5 by omega) (.bool f.i) (.bool f.m) (.bool f.s) (.bool f.x))
 clear hb7 CL2 hby1 y0 z0 z1 z2 z3 hq0
 have y0:((((w7.setCell ⟨g5,0,none⟩ (.bool f.i)).setCell ⟨g5,1,none⟩ (.bool f.m)).setCell ⟨g5,2,none⟩ (.bool f.s)).setCell ⟨g5,3,none⟩ (.bool f.x)).cell? ⟨rb,0,none⟩=some (.slice (some ⟨b,off,none⟩) bs.length cap):=HS.1.1.blk.cell 0
 have hby:=HCELL.1 _ HS.1
 have HK5:=hide (HKP.1.below HS.1.2 HKP.1.lt)
 have HF5:=hide (HKF.1.below HS.1.2 HKF.1.lt)
 have hWs:w.heap.size+2≤((((w7.setCell ⟨g5,0,none⟩ (.bool f.i)).setCell ⟨g5,1,none⟩ (.bool f.m)).setCell ⟨g5,2,none⟩ (.bool f.s)).setCell ⟨g5,3,none⟩ (.bool f.x)).heap.size:=Nat.le_trans hXs HS.1.2.size
 obtain ⟨⟨y1,y2,y3,y4,y5,y6,y7,y8,y9,y10,y11⟩,z0,z1,z2,z3,z4,z5,z6,z7,z8,z9,z10⟩:=cells11 HK5.1
 obtain ⟨⟨u20,u21⟩,v20,v21⟩:=cells2 HF5.1
 clear hby
 go_wp2_with fail
 (try simp only [Exit.inBlock,Exit.then])
 have hq:=blk13 HK5.1 HF5.1 (by omega) rfl rfl
 exact bodyPost_ret (rctc rfl w.heap.size (w.heap.size+1) (.bool false) rfl rfl rfl (hq _ _ _ _ _ _ _ _ _ _ _ _ _)) rfl ⟨by decide,rfl,st,nv,(Left.of_below HW.1 (HB.1.trans (HS.1.2.mono HB.1.size))).set13 HK5.1 HF5.1 hlt (Nat.le_refl _) (by omega) (by omega) _ _ _ _ _ _ _ _ _ _ _ _ _⟩
theorem flag_in_bad (h:Rd bs (some ⟨b,off,none⟩) cap w0 rb nest st nv w) (hb0:0<bs.length) (k:Nat) (hk:k≤bs.length) (f1:Fl) (q1:Nat) (h1:letP bs true st.fl k=(f1,q1)) (hin1:q1<bs.length) (hm:g bs q1≠45) (hbad:q1=k) :
  Calls Tryz.prog 70 #[Value.pointer (some ⟨rb,0,none⟩),.int .i64 (k:Int)] w (GiveA bs (some ⟨b,off,none⟩) cap w0 rb nest nv w (.error (35,q1))):=by
 obtain ⟨hbb,HS,HKP,HKF,HB,HW,hlt,habv⟩:=pro h
 have hcell:∀ W,RB bs (some ⟨b,off,none⟩) cap w0 rb nest st nv ((w.alloc (.cells pz 78)).alloc (.cells fz 80)) W→∀ j,j<bs.length→W.cell? ⟨b,off+j,none⟩=some (.int .u8 (g bs j:Int)):=fun W hr j hj=>by
  obtain ⟨b',off',e,_,hc⟩:=hr.1.pvW.cell hb0
  injection e with e
  injection e with e1 e2
  subst e1;subst e2
  exact hc j hj
 have HCELL:=hide hcell
 have hq1:q1≤bs.length:=by have:=let_on (bs:=bs) (b:=true) _ st.fl k (Nat.le_refl _);rw [h1] at this;simp only [] at this;omega
 have htop:=h.top
 have CL1:=hide (fun W (hr:RB bs (some ⟨b,off,none⟩) cap w0 rb nest st nv ((w.alloc (.cells pz 78)).alloc (.cells fz 80)) W)=>by have:=letters_any hr.1 st.fl k hk true;rw [h1] at this;exact this)
 have hm1:((g bs q1:Int)==45)=false:=by rw [beq_eq_false_iff_ne];omega
 have hl1:(q1:Int)<(bs.length:Int):=by omega
 have c5:((q1:Int)==(k:Int))=true:=by rw [hbad];exact beq_self_eq_true _
 have q0:=(h.below hbb).c0
 have q2:=(h.below hbb).c2
 have q3:=(h.below hbb).c3
 have q4:=(h.below hbb).c4
 have q5:=(h.below hbb).c5
 clear h hbb hcell h1 hk hm hbad
 go_enter Tryz.func70,Tryz.ntmps70
 go_wp2_with fail
 generalize ((w.alloc (.cells pz 78)).alloc (.cells fz 80))=X at *
 have hXs:w.heap.size+2≤X.heap.size:=HKF.1.lt
 refine (CL1.1 _ HS.1).mono ?_
 rintro e w5 ⟨rfl,hb5⟩
 have HS:=hide (HS.1.below (hb5.alloc hb5.size (.cells (bf f1) 73)))
 have hgw:w5.heap.size<(w5.alloc (.cells (bf f1) 73)).heap.size:=by simp
 have HQ:=hide (Blk.new w5 73 (bf f1))
 have hX5:X.heap.size≤w5.heap.size:=hb5.size
 clear hb5 CL1 q0 q2 q3 q4 q5
 have y0:(w5.alloc (.cells (bf f1) 73)).cell? ⟨rb,0,none⟩=some (.slice (some ⟨b,off,none⟩) bs.length cap):=HS.1.1.blk.cell 0
 have hby:=HCELL.1 _ HS.1
 have hby1:=hby q1 hin1
 clear hby
 have HK5:=hide (HKP.1.below HS.1.2 HKP.1.lt)
 have HF5:=hide (HKF.1.below HS.1.2 HKF.1.lt)
 have hWs:w.heap.size+2≤(w5.alloc (.cells (bf f1) 73)).heap.size:=Nat.le_trans hXs HS.1.2.size
 obtain ⟨⟨y1,y2,y3,y4,y5,y6,y7,y8,y9,y10,y11⟩,z0,z1,z2,z3,z4,z5,z6,z7,z8,z9,z10⟩:=cells11 HK5.1
 obtain ⟨⟨u20,u21⟩,v20,v21⟩:=cells2 HF5.1
 go_wp2_with fail
 (try simp only [Exit.inBlock,Exit.then])
 have hq:=blk13 HK5.1 HF5.1 (by omega) rfl rfl
 exact bodyPost_ret (rctc rfl w.heap.size (w.heap.size+1) (.bool false) rfl rfl rfl (hq _ _ _ _ _ _ _ _ _ _ _ _ _)) rfl ⟨by decide,rfl,st,nv,(Left.of_below HW.1 (HB.1.trans (HS.1.2.mono HB.1.size))).set13 HK5.1 HF5.1 hlt (Nat.le_refl _) (by omega) (by omega) _ _ _ _ _ _ _ _ _ _ _ _ _⟩
theorem flag_end_bada (h:Rd bs (some ⟨b,off,none⟩) cap w0 rb nest st nv w) (hb0:0<bs.length) (k:Nat) (hk:k≤bs.length) (f1:Fl) (q1:Nat) (h1:letP bs true st.fl k=(f1,q1)) (hin1:bs.length≤q1) (hbad:q1=k) :
  Calls Tryz.prog 70 #[Value.pointer (some ⟨rb,0,none⟩),.int .i64 (k:Int)] w (GiveA bs (some ⟨b,off,none⟩) cap w0 rb nest nv w (.error (35,q1))):=by
 obtain ⟨hbb,HS,HKP,HKF,HB,HW,hlt,habv⟩:=pro h
 have hcell:∀ W,RB bs (some ⟨b,off,none⟩) cap w0 rb nest st nv ((w.alloc (.cells pz 78)).alloc (.cells fz 80)) W→∀ j,j<bs.length→W.cell? ⟨b,off+j,none⟩=some (.int .u8 (g bs j:Int)):=fun W hr j hj=>by
  obtain ⟨b',off',e,_,hc⟩:=hr.1.pvW.cell hb0
  injection e with e
  injection e with e1 e2
  subst e1;subst e2
  exact hc j hj
 have HCELL:=hide hcell
 have hq1:q1≤bs.length:=by have:=let_on (bs:=bs) (b:=true) _ st.fl k (Nat.le_refl _);rw [h1] at this;simp only [] at this;omega
 have htop:=h.top
 have CL1:=hide (fun W (hr:RB bs (some ⟨b,off,none⟩) cap w0 rb nest st nv ((w.alloc (.cells pz 78)).alloc (.cells fz 80)) W)=>by have:=letters_any hr.1 st.fl k hk true;rw [h1] at this;exact this)
 have hl1:¬ (q1:Int)<(bs.length:Int):=by omega
 have hl2:(bs.length:Int)≤(q1:Int):=by omega
 have c5:((q1:Int)==(k:Int))=true:=by rw [hbad];exact beq_self_eq_true _
 have q0:=(h.below hbb).c0
 have q2:=(h.below hbb).c2
 have q3:=(h.below hbb).c3
 have q4:=(h.below hbb).c4
 have q5:=(h.below hbb).c5
 clear h hbb hcell h1 hk  hbad
 go_enter Tryz.func70,Tryz.ntmps70
 go_wp2_with fail
 generalize ((w.alloc (.cells pz 78)).alloc (.cells fz 80))=X at *
 have hXs:w.heap.size+2≤X.heap.size:=HKF.1.lt
 refine (CL1.1 _ HS.1).mono ?_
 rintro e w5 ⟨rfl,hb5⟩
 have HS:=hide (HS.1.below (hb5.alloc hb5.size (.cells (bf f1) 73)))
 have hgw:w5.heap.size<(w5.alloc (.cells (bf f1) 73)).heap.size:=by simp
 have HQ:=hide (Blk.new w5 73 (bf f1))
 have hX5:X.heap.size≤w5.heap.size:=hb5.size
 clear hb5 CL1 q0 q2 q3 q4 q5
 have y0:(w5.alloc (.cells (bf f1) 73)).cell? ⟨rb,0,none⟩=some (.slice (some ⟨b,off,none⟩) bs.length cap):=HS.1.1.blk.cell 0
 have hby:=HCELL.1 _ HS.1
 have HK5:=hide (HKP.1.below HS.1.2 HKP.1.lt)
 have HF5:=hide (HKF.1.below HS.1.2 HKF.1.lt)
 have hWs:w.heap.size+2≤(w5.alloc (.cells (bf f1) 73)).heap.size:=Nat.le_trans hXs HS.1.2.size
 obtain ⟨⟨y1,y2,y3,y4,y5,y6,y7,y8,y9,y10,y11⟩,z0,z1,z2,z3,z4,z5,z6,z7,z8,z9,z10⟩:=cells11 HK5.1
 obtain ⟨⟨u20,u21⟩,v20,v21⟩:=cells2 HF5.1
 clear hby
 go_wp2_with fail
 (try simp only [Exit.inBlock,Exit.then])
 have hq:=blk13 HK5.1 HF5.1 (by omega) rfl rfl
 exact bodyPost_ret (rctc rfl w.heap.size (w.heap.size+1) (.bool false) rfl rfl rfl (hq _ _ _ _ _ _ _ _ _ _ _ _ _)) rfl ⟨by decide,rfl,st,nv,(Left.of_below HW.1 (HB.1.trans (HS.1.2.mono HB.1.size))).set13 HK5.1 HF5.1 hlt (Nat.le_refl _) (by omega) (by omega) _ _ _ _ _ _ _ _ _ _ _ _ _⟩
theorem flag_end_badb (h:Rd bs (some ⟨b,off,none⟩) cap w0 rb nest st nv w) (hb0:0<bs.length) (k:Nat) (hk:k≤bs.length) (f1:Fl) (q1:Nat) (h1:letP bs true st.fl k=(f1,q1)) (hin1:bs.length≤q1) (hbad:q1≠k) :
  Calls Tryz.prog 70 #[Value.pointer (some ⟨rb,0,none⟩),.int .i64 (k:Int)] w (GiveA bs (some ⟨b,off,none⟩) cap w0 rb nest nv w (.error (35,q1))):=by
 obtain ⟨hbb,HS,HKP,HKF,HB,HW,hlt,habv⟩:=pro h
 have hcell:∀ W,RB bs (some ⟨b,off,none⟩) cap w0 rb nest st nv ((w.alloc (.cells pz 78)).alloc (.cells fz 80)) W→∀ j,j<bs.length→W.cell? ⟨b,off+j,none⟩=some (.int .u8 (g bs j:Int)):=fun W hr j hj=>by
  obtain ⟨b',off',e,_,hc⟩:=hr.1.pvW.cell hb0
  injection e with e
  injection e with e1 e2
  subst e1;subst e2
  exact hc j hj
 have HCELL:=hide hcell
 have hq1:q1≤bs.length:=by have:=let_on (bs:=bs) (b:=true) _ st.fl k (Nat.le_refl _);rw [h1] at this;simp only [] at this;omega
 have htop:=h.top
 have CL1:=hide (fun W (hr:RB bs (some ⟨b,off,none⟩) cap w0 rb nest st nv ((w.alloc (.cells pz 78)).alloc (.cells fz 80)) W)=>by have:=letters_any hr.1 st.fl k hk true;rw [h1] at this;exact this)
 have hl1:¬ (q1:Int)<(bs.length:Int):=by omega
 have hl2:(bs.length:Int)≤(q1:Int):=by omega
 have c5:((q1:Int)==(k:Int))=false:=by rw [beq_eq_false_iff_ne];omega
 have c7:((q1:Int)==(bs.length:Int))=true:=by rw [beq_iff_eq];omega
 have q0:=(h.below hbb).c0
 have q2:=(h.below hbb).c2
 have q3:=(h.below hbb).c3
 have q4:=(h.below hbb).c4
 have q5:=(h.below hbb).c5
 clear h hbb hcell h1 hk  hbad
 go_enter Tryz.func70,Tryz.ntmps70
 go_wp2_with fail
 generalize ((w.alloc (.cells pz 78)).alloc (.cells fz 80))=X at *
 have hXs:w.heap.size+2≤X.heap.size:=HKF.1.lt
 refine (CL1.1 _ HS.1).mono ?_
 rintro e w5 ⟨rfl,hb5⟩
 have HS:=hide (HS.1.below (hb5.alloc hb5.size (.cells (bf f1) 73)))
 have hgw:w5.heap.size<(w5.alloc (.cells (bf f1) 73)).heap.size:=by simp
 have HQ:=hide (Blk.new w5 73 (bf f1))
 have hX5:X.heap.size≤w5.heap.size:=hb5.size
 clear hb5 CL1 q0 q2 q3 q4 q5
 have y0:(w5.alloc (.cells (bf f1) 73)).cell? ⟨rb,0,none⟩=some (.slice (some ⟨b,off,none⟩) bs.length cap):=HS.1.1.blk.cell 0
 have hby:=HCELL.1 _ HS.1
 have HK5:=hide (HKP.1.below HS.1.2 HKP.1.lt)
 have HF5:=hide (HKF.1.below HS.1.2 HKF.1.lt)
 have hWs:w.heap.size+2≤(w5.alloc (.cells (bf f1) 73)).heap.size:=Nat.le_trans hXs HS.1.2.size
 obtain ⟨⟨y1,y2,y3,y4,y5,y6,y7,y8,y9,y10,y11⟩,z0,z1,z2,z3,z4,z5,z6,z7,z8,z9,z10⟩:=cells11 HK5.1
 obtain ⟨⟨u20,u21⟩,v20,v21⟩:=cells2 HF5.1
 clear hby
 go_wp2_with fail
 (try simp only [Exit.inBlock,Exit.then])
 have hq:=blk13 HK5.1 HF5.1 (by omega) rfl rfl
 exact bodyPost_ret (rctc rfl w.heap.size (w.heap.size+1) (.bool false) rfl rfl rfl (hq _ _ _ _ _ _ _ _ _ _ _ _ _)) rfl ⟨by decide,rfl,st,nv,(Left.of_below HW.1 (HB.1.trans (HS.1.2.mono HB.1.size))).set13 HK5.1 HF5.1 hlt (Nat.le_refl _) (by omega) (by omega) _ _ _ _ _ _ _ _ _ _ _ _ _⟩
theorem flag_minus_other (h:Rd bs (some ⟨b,off,none⟩) cap w0 rb nest st nv w) (hb0:0<bs.length) (k:Nat) (hk:k≤bs.length) (f1:Fl) (q1:Nat) (h1:letP bs true st.fl k=(f1,q1)) (hm:g bs q1=45) (f:Fl) (q:Nat) (h2:letP bs false f1 (q1+1)=(f,q)) (hne:q≠q1+1) (hql:q<bs.length) (hc1:g bs q≠41) (hc2:g bs q≠58) :
  Calls Tryz.prog 70 #[Value.pointer (some ⟨rb,0,none⟩),.int .i64 (k:Int)] w (GiveA bs (some ⟨b,off,none⟩) cap w0 rb nest nv w (.error (35,q))):=by
 obtain ⟨hbb,HS,HKP,HKF,HB,HW,hlt,habv⟩:=pro h
 have hcell:∀ W,RB bs (some ⟨b,off,none⟩) cap w0 rb nest st nv ((w.alloc (.cells pz 78)).alloc (.cells fz 80)) W→∀ j,j<bs.length→W.cell? ⟨b,off+j,none⟩=some (.int .u8 (g bs j:Int)):=fun W hr j hj=>by
  obtain ⟨b',off',e,_,hc⟩:=hr.1.pvW.cell hb0
  injection e with e
  injection e with e1 e2
  subst e1;subst e2
  exact hc j hj
 have HCELL:=hide hcell
 have hq1:q1≤bs.length:=by have:=let_on (bs:=bs) (b:=true) _ st.fl k (Nat.le_refl _);rw [h1] at this;simp only [] at this;omega
 have htop:=h.top
 have CL1:=hide (fun W (hr:RB bs (some ⟨b,off,none⟩) cap w0 rb nest st nv ((w.alloc (.cells pz 78)).alloc (.cells fz 80)) W)=>by have:=letters_any hr.1 st.fl k hk true;rw [h1] at this;exact this)
 have hq1l:q1<bs.length:=g_in (by omega)
 have hq:q≤bs.length:=by have:=let_on (bs:=bs) (b:=false) _ f1 (q1+1) (Nat.le_refl _);rw [h2] at this;simp only [] at this;omega
 have CL2:=hide (fun W (hr:RB bs (some ⟨b,off,none⟩) cap w0 rb nest st nv ((w.alloc (.cells pz 78)).alloc (.cells fz 80)) W)=>by have:=letters_any hr.1 f1 (q1+1) hq1l false;rw [h2,Int.natCast_add] at this;exact this)
 have hm1:((g bs q1:Int)==45)=true:=by rw [hm];rfl
 have hl1:(q1:Int)<(bs.length:Int):=by omega
 have hw1:IntKind.i64.wrap ((q1:Int)+1)=(q1:Int)+1:=Rs.wrap_id _ (by omega) (by omega)
 have c5:((q:Int)==(q1:Int)+1)=false:=by rw [beq_eq_false_iff_ne];omega
 have c7:((q:Int)==(bs.length:Int))=false:=by rw [beq_eq_false_iff_ne];omega
 have hlq:(q:Int)<(bs.length:Int):=by omega
 have hwq:IntKind.i64.wrap ((q:Int)+1)=(q:Int)+1:=Rs.wrap_id _ (by have:=h.top;omega) (by have:=h.top;omega)
 have b41:((g bs q:Int)==41)=false:=by rw [beq_eq_false_iff_ne];omega
 have b58:((g bs q:Int)==58)=false:=by rw [beq_eq_false_iff_ne];omega
 clear hne hc1 hc2
 have q0:=(h.below hbb).c0
 have q2:=(h.below hbb).c2
 have q3:=(h.below hbb).c3
 have q4:=(h.below hbb).c4
 have q5:=(h.below hbb).c5
 clear h hbb hcell h1 hk hm h2 
 go_enter Tryz.func70,Tryz.ntmps70
 go_wp2_with fail
 generalize ((w.alloc (.cells pz 78)).alloc (.cells fz 80))=X at *
 have hXs:w.heap.size+2≤X.heap.size:=HKF.1.lt
 have HSX:=HS
 refine (CL1.1 _ HS.1).mono ?_
 rintro e w5 ⟨rfl,hb5⟩
 have HS:=hide (HS.1.below (hb5.alloc hb5.size (.cells (bf f1) 73)))
 have hgw:w5.heap.size<(w5.alloc (.cells (bf f1) 73)).heap.size:=by simp
 have HQ:=hide (Blk.new w5 73 (bf f1))
 have hX5:X.heap.size≤w5.heap.size:=hb5.size
 clear hb5 CL1 q0 q2 q3 q4 q5
 have y0:(w5.alloc (.cells (bf f1) 73)).cell? ⟨rb,0,none⟩=some (.slice (some ⟨b,off,none⟩) bs.length cap):=HS.1.1.blk.cell 0
 have hby:=HCELL.1 _ HS.1
 have hby1:=hby q1 hq1l
 clear hby
 go_wp2_with fail
 generalize (w5.alloc (.cells (bf f1) 73))=V0 at *
 generalize w5.heap.size=g5 at *
 have HQ0:=HQ
 refine (CL2.1 _ HS.1).mono ?_
 rintro e w7 ⟨rfl,hb7⟩
 have HQ:=hide (set4 (HQ.1.below hb7 HQ.1.lt) (.bool f.i) (.bool f.m) (.bool f.s) (.bool f.x))
 obtain ⟨-,z0,z1,z2,z3⟩:=cells4 (HQ.1)
 have hq0:=HQ.1
 obtain ⟨⟨d0,d1,d2,d3⟩,e0,e1,e2,e3⟩:=cells4 (show Blk w7 g5 73 (bf f1) from HQ0.1.below hb7 HQ0.1.lt)
 have HS:=hide (RB.fset HSX.1 (HS.1.below hb7) (show X.heap.size≤g5 by omega) (.bool f.i) (.bool f.m) (.bool f.s) (.bool f.x))
 clear hb7 CL2 hby1 y0 z0 z1 z2 z3 hq0
 have y0:((((w7.setCell ⟨g5,0,none⟩ (.bool f.i)).setCell ⟨g5,1,none⟩ (.bool f.m)).setCell ⟨g5,2,none⟩ (.bool f.s)).setCell ⟨g5,3,none⟩ (.bool f.x)).cell? ⟨rb,0,none⟩=some (.slice (some ⟨b,off,none⟩) bs.length cap):=HS.1.1.blk.cell 0
 have hby:=HCELL.1 _ HS.1
 have hbyq:=hby q hql
 clear hby
 have HK5:=hide (HKP.1.below HS.1.2 HKP.1.lt)
 have HF5:=hide (HKF.1.below HS.1.2 HKF.1.lt)
 have hWs:w.heap.size+2≤((((w7.setCell ⟨g5,0,none⟩ (.bool f.i)).setCell ⟨g5,1,none⟩ (.bool f.m)).setCell ⟨g5,2,none⟩ (.bool f.s)).setCell ⟨g5,3,none⟩ (.bool f.x)).heap.size:=Nat.le_trans hXs HS.1.2.size
 obtain ⟨⟨y1,y2,y3,y4,y5,y6,y7,y8,y9,y10,y11⟩,z0,z1,z2,z3,z4,z5,z6,z7,z8,z9,z10⟩:=cells11 HK5.1
 obtain ⟨⟨u20,u21⟩,v20,v21⟩:=cells2 HF5.1
 go_wp2_with fail
 (try simp only [Exit.inBlock,Exit.then])
 have hq:=blk13 HK5.1 HF5.1 (by omega) rfl rfl
 exact bodyPost_ret (rctc rfl w.heap.size (w.heap.size+1) (.bool false) rfl rfl rfl (hq _ _ _ _ _ _ _ _ _ _ _ _ _)) rfl ⟨by decide,rfl,st,nv,(Left.of_below HW.1 (HB.1.trans (HS.1.2.mono HB.1.size))).set13 HK5.1 HF5.1 hlt (Nat.le_refl _) (by omega) (by omega) _ _ _ _ _ _ _ _ _ _ _ _ _⟩
theorem flag_minus_colon (h:Rd bs (some ⟨b,off,none⟩) cap w0 rb nest st nv w) (hb0:0<bs.length) (k:Nat) (hk:k≤bs.length) (f1:Fl) (q1:Nat) (h1:letP bs true st.fl k=(f1,q1)) (hm:g bs q1=45) (f:Fl) (q:Nat) (h2:letP bs false f1 (q1+1)=(f,q)) (hne:q≠q1+1) (hql:q<bs.length) (hc:g bs q=58) (R:Res (Pt×Bool)) (CC:∀ W,Rd bs (some ⟨b,off,none⟩) cap w0 rb nest st nv W→Calls Tryz.prog 67 #[Value.pointer (some ⟨rb,0,none⟩),ndV 0 0 [],.int .i64 ((q:Int)+1),flV f] W (GiveA bs (some ⟨b,off,none⟩) cap w0 rb nest nv W R)) :
  Calls Tryz.prog 70 #[Value.pointer (some ⟨rb,0,none⟩),.int .i64 (k:Int)] w (GiveA bs (some ⟨b,off,none⟩) cap w0 rb nest nv w (R)):=by
 obtain ⟨hbb,HS,HKP,HKF,HB,HW,hlt,habv⟩:=pro h
 have hcell:∀ W,RB bs (some ⟨b,off,none⟩) cap w0 rb nest st nv ((w.alloc (.cells pz 78)).alloc (.cells fz 80)) W→∀ j,j<bs.length→W.cell? ⟨b,off+j,none⟩=some (.int .u8 (g bs j:Int)):=fun W hr j hj=>by
  obtain ⟨b',off',e,_,hc⟩:=hr.1.pvW.cell hb0
  injection e with e
  injection e with e1 e2
  subst e1;subst e2
  exact hc j hj
 have HCELL:=hide hcell
 have hq1:q1≤bs.length:=by have:=let_on (bs:=bs) (b:=true) _ st.fl k (Nat.le_refl _);rw [h1] at this;simp only [] at this;omega
 have htop:=h.top
 have CL1:=hide (fun W (hr:RB bs (some ⟨b,off,none⟩) cap w0 rb nest st nv ((w.alloc (.cells pz 78)).alloc (.cells fz 80)) W)=>by have:=letters_any hr.1 st.fl k hk true;rw [h1] at this;exact this)
 have hq1l:q1<bs.length:=g_in (by omega)
 have hq:q≤bs.length:=by have:=let_on (bs:=bs) (b:=false) _ f1 (q1+1) (Nat.le_refl _);rw [h2] at this;simp only [] at this;omega
 have CL2:=hide (fun W (hr:RB bs (some ⟨b,off,none⟩) cap w0 rb nest st nv ((w.alloc (.cells pz 78)).alloc (.cells fz 80)) W)=>by have:=letters_any hr.1 f1 (q1+1) hq1l false;rw [h2,Int.natCast_add] at this;exact this)
 have hm1:((g bs q1:Int)==45)=true:=by rw [hm];rfl
 have hl1:(q1:Int)<(bs.length:Int):=by omega
 have hw1:IntKind.i64.wrap ((q1:Int)+1)=(q1:Int)+1:=Rs.wrap_id _ (by omega) (by omega)
 have c5:((q:Int)==(q1:Int)+1)=false:=by rw [beq_eq_false_iff_ne];omega
 have c7:((q:Int)==(bs.length:Int))=false:=by rw [beq_eq_false_iff_ne];omega
 have hlq:(q:Int)<(bs.length:Int):=by omega
 have hwq:IntKind.i64.wrap ((q:Int)+1)=(q:Int)+1:=Rs.wrap_id _ (by have:=h.top;omega) (by have:=h.top;omega)
 have b41:((g bs q:Int)==41)=false:=by rw [hc];rfl
 have b58:((g bs q:Int)==58)=true:=by rw [hc];rfl
 have CC:=hide CC
 clear hne hc
 have q0:=(h.below hbb).c0
 have q2:=(h.below hbb).c2
 have q3:=(h.below hbb).c3
 have q4:=(h.below hbb).c4
 have q5:=(h.below hbb).c5
 clear h hbb hcell h1 hk hm h2 
 go_enter Tryz.func70,Tryz.ntmps70
 go_wp2_with fail
 generalize ((w.alloc (.cells pz 78)).alloc (.cells fz 80))=X at *
 have hXs:w.heap.size+2≤X.heap.size:=HKF.1.lt
 have HSX:=HS
 refine (CL1.1 _ HS.1).mono ?_
 rintro e w5 ⟨rfl,hb5⟩
 have HS:=hide (HS.1.below (hb5.alloc hb5.size (.cells (bf f1) 73)))
 have hgw:w5.heap.size<(w5.alloc (.cells (bf f1) 73)).heap.size:=by simp
 have HQ:=hide (Blk.new w5 73 (bf f1))
 have hX5:X.heap.size≤w5.heap.size:=hb5.size
 clear hb5 CL1 q0 q2 q3 q4 q5
 have y0:(w5.alloc (.cells (bf f1) 73)).cell? ⟨rb,0,none⟩=some (.slice (some ⟨b,off,none⟩) bs.length cap):=HS.1.1.blk.cell 0
 have hby:=HCELL.1 _ HS.1
 have hby1:=hby q1 hq1l
 clear hby
 go_wp2_with fail
 generalize (w5.alloc (.cells (bf f1) 73))=V0 at *
 generalize w5.heap.size=g5 at *
 have HQ0:=HQ
 refine (CL2.1 _ HS.1).mono ?_
 rintro e w7 ⟨rfl,hb7⟩
 have HQ:=hide (set4 (HQ.1.below hb7 HQ.1.lt) (.bool f.i) (.bool f.m) (.bool f.s) (.bool f.x))
 obtain ⟨-,z0,z1,z2,z3⟩:=cells4 (HQ.1)
 have hq0:=HQ.1
 obtain ⟨⟨d0,d1,d2,d3⟩,e0,e1,e2,e3⟩:=cells4 (show Blk w7 g5 73 (bf f1) from HQ0.1.below hb7 HQ0.1.lt)
 have HS:=hide (RB.fset HSX.1 (HS.1.below hb7) (show X.heap.size≤g5 by omega) (.bool f.i) (.bool f.m) (.bool f.s) (.bool f.x))
 clear hb7 CL2 hby1 y0 z0 z1 z2 z3 hq0
 have y0:((((w7.setCell ⟨g5,0,none⟩ (.bool f.i)).setCell ⟨g5,1,none⟩ (.bool f.m)).setCell ⟨g5,2,none⟩ (.bool f.s)).setCell ⟨g5,3,none⟩ (.bool f.x)).cell? ⟨rb,0,none⟩=some (.slice (some ⟨b,off,none⟩) bs.length cap):=HS.1.1.blk.cell 0
 have hby:=HCELL.1 _ HS.1
 have hbyq:=hby q hql
 clear hby
 obtain ⟨⟨x0,x1,x2,x3⟩,-⟩:=cells4 HQ.1
 go_wp2_with fail
 refine (CC.1 _ HS.1.1).mono ?_
 rintro e w9 hG
 obtain ⟨u0,u1,u2,u3,u4,u5,u6,s,L,ln,lc,K,kn,kc,bz,c,p,st',nv',rfl,hL⟩:=hG.form
 have hk5:=Left.blk HS.1.1 hL (HKP.1.below HS.1.2 HKP.1.lt) (by decide) (by omega)
 have hf5:=Left.blk HS.1.1 hL (HKF.1.below HS.1.2 HKF.1.lt) (by decide) (by omega)
 obtain ⟨⟨y0,y1,y2,y3,y4,y5,y6,y7,y8,y9,y10⟩,z0,z1,z2,z3,z4,z5,z6,z7,z8,z9,z10⟩:=cells11 hk5
 obtain ⟨⟨u20,u21⟩,v20,v21⟩:=cells2 hf5
 have HBW:=hide (HB.1.trans (HS.1.2.mono HB.1.size))
 have hWs:w.heap.size+2≤_:=Nat.le_trans hXs HS.1.2.size
 have HK5:=hide hk5
 have HF5:=hide hf5
 have HG:=hide hG
 clear hk5 hf5 hL hG CC HS
 go_wp2_with fail
 (try simp only [Exit.inBlock,Exit.then])
 have hq:=blk13 HK5.1 HF5.1 (by omega) rfl rfl
 exact bodyPost_ret (rctc rfl w.heap.size (w.heap.size+1) (.bool bz) rfl rfl rfl (hq _ _ _ _ _ _ _ _ _ _ _ _ _)) rfl (GiveA.on HBW.1 HG.1 HK5.1 HF5.1 hlt (Nat.le_refl _) (by omega) (by omega) (by omega) (by omega) _ _ _ _ _ _ _ _ _ _ _ _ _)
theorem flag_minus_close (h:Rd bs (some ⟨b,off,none⟩) cap w0 rb nest st nv w) (hb0:0<bs.length) (k:Nat) (hk:k≤bs.length) (f1:Fl) (q1:Nat) (h1:letP bs true st.fl k=(f1,q1)) (hm:g bs q1=45) (f:Fl) (q:Nat) (h2:letP bs false f1 (q1+1)=(f,q)) (hne:q≠q1+1) (hql:q<bs.length) (hc:g bs q=41) :
  Calls Tryz.prog 70 #[Value.pointer (some ⟨rb,0,none⟩),.int .i64 (k:Int)] w (GiveA bs (some ⟨b,off,none⟩) cap w0 rb nest nv w (.ok ((⟨nd0,.nil⟩,false),⟨q+1,f,st.names⟩))):=by
 obtain ⟨hbb,HS,HKP,HKF,HB,HW,hlt,habv⟩:=pro h
 have hcell:∀ W,RB bs (some ⟨b,off,none⟩) cap w0 rb nest st nv ((w.alloc (.cells pz 78)).alloc (.cells fz 80)) W→∀ j,j<bs.length→W.cell? ⟨b,off+j,none⟩=some (.int .u8 (g bs j:Int)):=fun W hr j hj=>by
  obtain ⟨b',off',e,_,hc⟩:=hr.1.pvW.cell hb0
  injection e with e
  injection e with e1 e2
  subst e1;subst e2
  exact hc j hj
 have HCELL:=hide hcell
 have hq1:q1≤bs.length:=by have:=let_on (bs:=bs) (b:=true) _ st.fl k (Nat.le_refl _);rw [h1] at this;simp only [] at this;omega
 have htop:=h.top
 have CL1:=hide (fun W (hr:RB bs (some ⟨b,off,none⟩) cap w0 rb nest st nv ((w.alloc (.cells pz 78)).alloc (.cells fz 80)) W)=>by have:=letters_any hr.1 st.fl k hk true;rw [h1] at this;exact this)
 have hq1l:q1<bs.length:=g_in (by omega)
 have hq:q≤bs.length:=by have:=let_on (bs:=bs) (b:=false) _ f1 (q1+1) (Nat.le_refl _);rw [h2] at this;simp only [] at this;omega
 have CL2:=hide (fun W (hr:RB bs (some ⟨b,off,none⟩) cap w0 rb nest st nv ((w.alloc (.cells pz 78)).alloc (.cells fz 80)) W)=>by have:=letters_any hr.1 f1 (q1+1) hq1l false;rw [h2,Int.natCast_add] at this;exact this)
 have hm1:((g bs q1:Int)==45)=true:=by rw [hm];rfl
 have hl1:(q1:Int)<(bs.length:Int):=by omega
 have hw1:IntKind.i64.wrap ((q1:Int)+1)=(q1:Int)+1:=Rs.wrap_id _ (by omega) (by omega)
 have c5:((q:Int)==(q1:Int)+1)=false:=by rw [beq_eq_false_iff_ne];omega
 have c7:((q:Int)==(bs.length:Int))=false:=by rw [beq_eq_false_iff_ne];omega
 have hlq:(q:Int)<(bs.length:Int):=by omega
 have hwq:IntKind.i64.wrap ((q:Int)+1)=(q:Int)+1:=Rs.wrap_id _ (by have:=h.top;omega) (by have:=h.top;omega)
 have b41:((g bs q:Int)==41)=true:=by rw [hc];rfl
 have HQL:=hide (show q+1≤bs.length from hql)
 clear hne hc
 have q0:=(h.below hbb).c0
 have q2:=(h.below hbb).c2
 have q3:=(h.below hbb).c3
 have q4:=(h.below hbb).c4
 have q5:=(h.below hbb).c5
 clear h hbb hcell h1 hk hm h2 
 go_enter Tryz.func70,Tryz.ntmps70
 go_wp2_with fail
 generalize ((w.alloc (.cells pz 78)).alloc (.cells fz 80))=X at *
 have hXs:w.heap.size+2≤X.heap.size:=HKF.1.lt
 have HSX:=HS
 refine (CL1.1 _ HS.1).mono ?_
 rintro e w5 ⟨rfl,hb5⟩
 have HS:=hide (HS.1.below (hb5.alloc hb5.size (.cells (bf f1) 73)))
 have hgw:w5.heap.size<(w5.alloc (.cells (bf f1) 73)).heap.size:=by simp
 have HQ:=hide (Blk.new w5 73 (bf f1))
 have hX5:X.heap.size≤w5.heap.size:=hb5.size
 clear hb5 CL1 q0 q2 q3 q4 q5
 have y0:(w5.alloc (.cells (bf f1) 73)).cell? ⟨rb,0,none⟩=some (.slice (some ⟨b,off,none⟩) bs.length cap):=HS.1.1.blk.cell 0
 have hby:=HCELL.1 _ HS.1
 have hby1:=hby q1 hq1l
 clear hby
 go_wp2_with fail
 generalize (w5.alloc (.cells (bf f1) 73))=V0 at *
 generalize w5.heap.size=g5 at *
 have HQ0:=HQ
 refine (CL2.1 _ HS.1).mono ?_
 rintro e w7 ⟨rfl,hb7⟩
 have HQ:=hide (set4 (HQ.1.below hb7 HQ.1.lt) (.bool f.i) (.bool f.m) (.bool f.s) (.bool f.x))
 obtain ⟨-,z0,z1,z2,z3⟩:=cells4 (HQ.1)
 have hq0:=HQ.1
 obtain ⟨⟨d0,d1,d2,d3⟩,e0,e1,e2,e3⟩:=cells4 (show Blk w7 g5 73 (bf f1) from HQ0.1.below hb7 HQ0.1.lt)
 have HS:=hide (RB.fset HSX.1 (HS.1.below hb7) (show X.heap.size≤g5 by omega) (.bool f.i) (.bool f.m) (.bool f.s) (.bool f.x))
 clear hb7 CL2 hby1 y0 z0 z1 z2 z3 hq0
 have y0:((((w7.setCell ⟨g5,0,none⟩ (.bool f.i)).setCell ⟨g5,1,none⟩ (.bool f.m)).setCell ⟨g5,2,none⟩ (.bool f.s)).setCell ⟨g5,3,none⟩ (.bool f.x)).cell? ⟨rb,0,none⟩=some (.slice (some ⟨b,off,none⟩) bs.length cap):=HS.1.1.blk.cell 0
 have hby:=HCELL.1 _ HS.1
 have hbyq:=hby q hql
 clear hby
 go_wp2_with fail
 have hVs:w.heap.size+2≤((((w7.setCell ⟨g5,0,none⟩ (.bool f.i)).setCell ⟨g5,1,none⟩ (.bool f.m)).setCell ⟨g5,2,none⟩ (.bool f.s)).setCell ⟨g5,3,none⟩ (.bool f.x)).heap.size:=Nat.le_trans hXs HS.1.2.size
 have HK5:=hide (HKP.1.below HS.1.2 HKP.1.lt)
 have HF5:=hide (HKF.1.below HS.1.2 HKF.1.lt)
 have hg5X:X.heap.size≤g5:=by omega
 have HS:=HS
 generalize ((((w7.setCell ⟨g5,0,none⟩ (.bool f.i)).setCell ⟨g5,1,none⟩ (.bool f.m)).setCell ⟨g5,2,none⟩ (.bool f.s)).setCell ⟨g5,3,none⟩ (.bool f.x))=V at *
 have hgr:g5≠rb:=by omega
 obtain ⟨⟨-,c1,c2,c3,c4,c55,-⟩,f1_,f2_,f3_,f4_,f5_,-⟩:=rdcells HS.1.1
 refine wp_region_noPanic ?_
 refine wp_region_held_drew (S:=(fun wx=>Hd (Blk wx g5 73 (bf f))∧wx.cell? ⟨g5,0,none⟩=some (.bool f.i)∧wx.cell? ⟨g5,1,none⟩=some (.bool f.m)∧wx.cell? ⟨g5,2,none⟩=some (.bool f.s)∧wx.cell? ⟨g5,3,none⟩=some (.bool f.x))) (by kernel_rfl) (⟨hide (HQ.1.drew),(HQ.1.drew).cell 0,(HQ.1.drew).cell 1,(HQ.1.drew).cell 2,(HQ.1.drew).cell 3⟩) (fun hHeld=>?_)
 refine tkH 0 (some 69) ?vu1 rfl ?yu1 hHeld ?ru1
 case yu1=>(intro w hSw;(try dsimp only at hSw);go_simp;try with_reducible rfl)
 try simp only [aP]
 refine tkH 1 (some 70) ?vu2 rfl ?yu2 hHeld ?ru2
 case yu2=>(intro w hSw;(try dsimp only at hSw);go_simp;try with_reducible rfl)
 try simp only [aP]
 refine tkH 2 (some 71) ?vu3 rfl ?yu3 hHeld ?ru3
 case yu3=>(intro w hSw;(try dsimp only at hSw);go_simp;try with_reducible rfl)
 try simp only [aP]
 refine tkH 3 (some 72) ?vu4 rfl ?yu4 hHeld ?ru4
 case yu4=>(intro w hSw;(try dsimp only at hSw);go_simp;try with_reducible rfl)
 try simp only [aP]
 refine tkH 4 (some 73) ?vu5 rfl ?yu5 hHeld ?ru5
 case yu5=>(intro w hSw;(try dsimp only at hSw);go_simp;try with_reducible rfl)
 try simp only [aP]
 refine tkH 5 (some 74) ?vu6 rfl ?yu6 hHeld ?ru6
 case yu6=>(intro w hSw;(try dsimp only at hSw);go_simp;try with_reducible rfl)
 try simp only [aP]
 refine tkH 6 (some 75) ?vu7 rfl ?yu7 hHeld ?ru7
 case yu7=>(intro w hSw;(try dsimp only at hSw);go_simp;try with_reducible rfl)
 try simp only [aP]
 refine wpAnyH_ready (rs:=[7]) (by kernel_rfl) (by simp) ?_
 refine AllReadyH.cons (o:=⟨none,_,_,_,_,_⟩) rfl (fun K hK=>?_) AllReadyH.nil
 go_simp
 refine hK.out _ _ (⟨hide (HQ.1.drew.far (p:=⟨rb,1,none⟩) (by show g5≠rb;exact hgr) (.int .i64 ((q:Int)+1))),(HQ.1.drew.far (p:=⟨rb,1,none⟩) (by show g5≠rb;exact hgr) (.int .i64 ((q:Int)+1))).cell 0,(HQ.1.drew.far (p:=⟨rb,1,none⟩) (by show g5≠rb;exact hgr) (.int .i64 ((q:Int)+1))).cell 1,(HQ.1.drew.far (p:=⟨rb,1,none⟩) (by show g5≠rb;exact hgr) (.int .i64 ((q:Int)+1))).cell 2,(HQ.1.drew.far (p:=⟨rb,1,none⟩) (by show g5≠rb;exact hgr) (.int .i64 ((q:Int)+1))).cell 3⟩) (fun hHeld2=>?_)
 clear hK K
 try simp only [aP]
 have hr1:=HS.1.1.drew.store 1 (.int .i64 ((q:Int)+1)) (st':={ st with pos:=q+1 }) (nest':=nest) rfl HQL.1 HS.1.1.deep rfl
 obtain ⟨⟨-,-,c12,c13,c14,c15,-⟩,-,f12,f13,f14,f15,-⟩:=rdcells hr1
 have HR3:=hide (fl4 (HS.1.1.store 1 (.int .i64 ((q:Int)+1)) (st':={ st with pos:=q+1 }) (nest':=nest) rfl HQL.1 HS.1.1.deep rfl) f).drew
 clear hr1
 refine tkH 8 (some 76) ?vu8 rfl ?yu8 hHeld2 ?ru8
 case yu8=>(intro w hSw;(try dsimp only at hSw);go_simp;try with_reducible rfl)
 try simp only [aP]
 refine tkH 9 (some 77) ?vu9 rfl ?yu9 hHeld2 ?ru9
 case yu9=>(intro w hSw;(try dsimp only at hSw);go_simp;try with_reducible rfl)
 try simp only [aP]
 refine wpAnyH_ready (rs:=[10]) (by kernel_rfl) (by simp) ?_
 refine AllReadyH.cons (o:=⟨none,_,_,_,_,_⟩) rfl (fun K hK=>?_) AllReadyH.nil
 go_simp
 refine hK.out _ _ (⟨hide ((blk_fl (HQ.1.far (p:=⟨rb,1,none⟩) (by show g5≠rb;exact hgr) (.int .i64 ((q:Int)+1))) hgr (.bool f.i) (.bool f.m) (.bool f.s) (.bool f.x)).drew),((blk_fl (HQ.1.far (p:=⟨rb,1,none⟩) (by show g5≠rb;exact hgr) (.int .i64 ((q:Int)+1))) hgr (.bool f.i) (.bool f.m) (.bool f.s) (.bool f.x)).drew).cell 0,((blk_fl (HQ.1.far (p:=⟨rb,1,none⟩) (by show g5≠rb;exact hgr) (.int .i64 ((q:Int)+1))) hgr (.bool f.i) (.bool f.m) (.bool f.s) (.bool f.x)).drew).cell 1,((blk_fl (HQ.1.far (p:=⟨rb,1,none⟩) (by show g5≠rb;exact hgr) (.int .i64 ((q:Int)+1))) hgr (.bool f.i) (.bool f.m) (.bool f.s) (.bool f.x)).drew).cell 2,((blk_fl (HQ.1.far (p:=⟨rb,1,none⟩) (by show g5≠rb;exact hgr) (.int .i64 ((q:Int)+1))) hgr (.bool f.i) (.bool f.m) (.bool f.s) (.bool f.x)).drew).cell 3⟩) (fun hHeld3=>?_)
 clear hK K
 try simp only [aP]
 refine wpAnyH_done (by kernel_rfl) ?_ _
 refine NoPanic.normal ?_
 clear hHeld hHeld2 hHeld3
 have HL3:=hide (Left.then (Left.of_below HW.1 (HB.1.trans (HS.1.2.mono HB.1.size))) (Left.of_turn HR3.1 ((turn_fl (turn_set (Turn.of_below (rb:=rb) (row:=none) (Below.refl _ V)) (.int .i64 ((q:Int)+1))) (.bool f.i) (.bool f.m) (.bool f.s) (.bool f.x)).trans (Turn.of_below (Below.refl _ _).drew) (.inl rfl))))
 have HK5:=hide ((blk_fl (HK5.1.far (p:=⟨rb,1,none⟩) (by show w.heap.size≠rb;omega) (.int .i64 ((q:Int)+1))) (show w.heap.size≠rb by omega) (.bool f.i) (.bool f.m) (.bool f.s) (.bool f.x)).drew)
 have HF5:=hide ((blk_fl (HF5.1.far (p:=⟨rb,1,none⟩) (by show w.heap.size+1≠rb;omega) (.int .i64 ((q:Int)+1))) (show w.heap.size+1≠rb by omega) (.bool f.i) (.bool f.m) (.bool f.s) (.bool f.x)).drew)
 clear c1 c2 c3 c4 c55 f1_ f2_ f3_ f4_ f5_ c12 c13 c14 c15 f12 f13 f14 f15 HR3
 generalize (((((V.setCell ⟨rb,1,none⟩ (.int .i64 ((q:Int)+1))).setCell ⟨rb,2,none⟩ (.bool f.i)).setCell ⟨rb,3,none⟩ (.bool f.m)).setCell ⟨rb,4,none⟩ (.bool f.s)).setCell ⟨rb,5,none⟩ (.bool f.x)).drew=V3 at *
 obtain ⟨⟨y1,y2,y3,y4,y5,y6,y7,y8,y9,y10,y11⟩,z0,z1,z2,z3,z4,z5,z6,z7,z8,z9,z10⟩:=cells11 HK5.1
 obtain ⟨⟨u20,u21⟩,v20,v21⟩:=cells2 HF5.1
 go_wp2_with fail
 (try simp only [Exit.inBlock,Exit.then])
 have hq:=blk13 HK5.1 HF5.1 (by omega) rfl rfl
 exact bodyPost_ret (rctc rfl w.heap.size (w.heap.size+1) (.bool false) rfl rfl rfl (hq _ _ _ _ _ _ _ _ _ _ _ _ _)) rfl ⟨ptZ,nv,rfl,⟨none,0,none,0,rfl,SetV.nil _ _,KV.nil _ _⟩,HL3.1.set13 HK5.1 HF5.1 hlt (Nat.le_refl _) (by omega) (by omega) _ _ _ _ _ _ _ _ _ _ _ _ _⟩
theorem flag_in_other (h:Rd bs (some ⟨b,off,none⟩) cap w0 rb nest st nv w) (hb0:0<bs.length) (k:Nat) (hk:k≤bs.length) (f1:Fl) (q1:Nat) (h1:letP bs true st.fl k=(f1,q1)) (hin1:q1<bs.length) (hm:g bs q1≠45) (hne:q1≠k) (hc1:g bs q1≠41) (hc2:g bs q1≠58) :
  Calls Tryz.prog 70 #[Value.pointer (some ⟨rb,0,none⟩),.int .i64 (k:Int)] w (GiveA bs (some ⟨b,off,none⟩) cap w0 rb nest nv w (.error (35,q1))):=by
 obtain ⟨hbb,HS,HKP,HKF,HB,HW,hlt,habv⟩:=pro h
 have hcell:∀ W,RB bs (some ⟨b,off,none⟩) cap w0 rb nest st nv ((w.alloc (.cells pz 78)).alloc (.cells fz 80)) W→∀ j,j<bs.length→W.cell? ⟨b,off+j,none⟩=some (.int .u8 (g bs j:Int)):=fun W hr j hj=>by
  obtain ⟨b',off',e,_,hc⟩:=hr.1.pvW.cell hb0
  injection e with e
  injection e with e1 e2
  subst e1;subst e2
  exact hc j hj
 have HCELL:=hide hcell
 have hq1:q1≤bs.length:=by have:=let_on (bs:=bs) (b:=true) _ st.fl k (Nat.le_refl _);rw [h1] at this;simp only [] at this;omega
 have htop:=h.top
 have CL1:=hide (fun W (hr:RB bs (some ⟨b,off,none⟩) cap w0 rb nest st nv ((w.alloc (.cells pz 78)).alloc (.cells fz 80)) W)=>by have:=letters_any hr.1 st.fl k hk true;rw [h1] at this;exact this)
 have hm1:((g bs q1:Int)==45)=false:=by rw [beq_eq_false_iff_ne];omega
 have hl1:(q1:Int)<(bs.length:Int):=by omega
 have c5:((q1:Int)==(k:Int))=false:=by rw [beq_eq_false_iff_ne];omega
 have hql:=hin1
 have c7:((q1:Int)==(bs.length:Int))=false:=by rw [beq_eq_false_iff_ne];omega
 have hlq:(q1:Int)<(bs.length:Int):=by omega
 have hwq:IntKind.i64.wrap ((q1:Int)+1)=(q1:Int)+1:=Rs.wrap_id _ (by have:=h.top;omega) (by have:=h.top;omega)
 have b41:((g bs q1:Int)==41)=false:=by rw [beq_eq_false_iff_ne];omega
 have b58:((g bs q1:Int)==58)=false:=by rw [beq_eq_false_iff_ne];omega
 clear hne hc1 hc2
 have q0:=(h.below hbb).c0
 have q2:=(h.below hbb).c2
 have q3:=(h.below hbb).c3
 have q4:=(h.below hbb).c4
 have q5:=(h.below hbb).c5
 clear h hbb hcell h1 hk hm 
 go_enter Tryz.func70,Tryz.ntmps70
 go_wp2_with fail
 generalize ((w.alloc (.cells pz 78)).alloc (.cells fz 80))=X at *
 have hXs:w.heap.size+2≤X.heap.size:=HKF.1.lt
 refine (CL1.1 _ HS.1).mono ?_
 rintro e w5 ⟨rfl,hb5⟩
 have HS:=hide (HS.1.below (hb5.alloc hb5.size (.cells (bf f1) 73)))
 have hgw:w5.heap.size<(w5.alloc (.cells (bf f1) 73)).heap.size:=by simp
 have HQ:=hide (Blk.new w5 73 (bf f1))
 have hX5:X.heap.size≤w5.heap.size:=hb5.size
 clear hb5 CL1 q0 q2 q3 q4 q5
 have y0:(w5.alloc (.cells (bf f1) 73)).cell? ⟨rb,0,none⟩=some (.slice (some ⟨b,off,none⟩) bs.length cap):=HS.1.1.blk.cell 0
 have hby:=HCELL.1 _ HS.1
 have hby1:=hby q1 hin1
 clear hby
 have HK5:=hide (HKP.1.below HS.1.2 HKP.1.lt)
 have HF5:=hide (HKF.1.below HS.1.2 HKF.1.lt)
 have hWs:w.heap.size+2≤(w5.alloc (.cells (bf f1) 73)).heap.size:=Nat.le_trans hXs HS.1.2.size
 obtain ⟨⟨y1,y2,y3,y4,y5,y6,y7,y8,y9,y10,y11⟩,z0,z1,z2,z3,z4,z5,z6,z7,z8,z9,z10⟩:=cells11 HK5.1
 obtain ⟨⟨u20,u21⟩,v20,v21⟩:=cells2 HF5.1
 go_wp2_with fail
 (try simp only [Exit.inBlock,Exit.then])
 have hq:=blk13 HK5.1 HF5.1 (by omega) rfl rfl
 exact bodyPost_ret (rctc rfl w.heap.size (w.heap.size+1) (.bool false) rfl rfl rfl (hq _ _ _ _ _ _ _ _ _ _ _ _ _)) rfl ⟨by decide,rfl,st,nv,(Left.of_below HW.1 (HB.1.trans (HS.1.2.mono HB.1.size))).set13 HK5.1 HF5.1 hlt (Nat.le_refl _) (by omega) (by omega) _ _ _ _ _ _ _ _ _ _ _ _ _⟩
theorem flag_in_colon (h:Rd bs (some ⟨b,off,none⟩) cap w0 rb nest st nv w) (hb0:0<bs.length) (k:Nat) (hk:k≤bs.length) (f1:Fl) (q1:Nat) (h1:letP bs true st.fl k=(f1,q1)) (hin1:q1<bs.length) (hm:g bs q1≠45) (hne:q1≠k) (hc:g bs q1=58) (R:Res (Pt×Bool)) (CC:∀ W,Rd bs (some ⟨b,off,none⟩) cap w0 rb nest st nv W→Calls Tryz.prog 67 #[Value.pointer (some ⟨rb,0,none⟩),ndV 0 0 [],.int .i64 ((q1:Int)+1),flV f1] W (GiveA bs (some ⟨b,off,none⟩) cap w0 rb nest nv W R)) :
  Calls Tryz.prog 70 #[Value.pointer (some ⟨rb,0,none⟩),.int .i64 (k:Int)] w (GiveA bs (some ⟨b,off,none⟩) cap w0 rb nest nv w (R)):=by
 obtain ⟨hbb,HS,HKP,HKF,HB,HW,hlt,habv⟩:=pro h
 have hcell:∀ W,RB bs (some ⟨b,off,none⟩) cap w0 rb nest st nv ((w.alloc (.cells pz 78)).alloc (.cells fz 80)) W→∀ j,j<bs.length→W.cell? ⟨b,off+j,none⟩=some (.int .u8 (g bs j:Int)):=fun W hr j hj=>by
  obtain ⟨b',off',e,_,hc⟩:=hr.1.pvW.cell hb0
  injection e with e
  injection e with e1 e2
  subst e1;subst e2
  exact hc j hj
 have HCELL:=hide hcell
 have hq1:q1≤bs.length:=by have:=let_on (bs:=bs) (b:=true) _ st.fl k (Nat.le_refl _);rw [h1] at this;simp only [] at this;omega
 have htop:=h.top
 have CL1:=hide (fun W (hr:RB bs (some ⟨b,off,none⟩) cap w0 rb nest st nv ((w.alloc (.cells pz 78)).alloc (.cells fz 80)) W)=>by have:=letters_any hr.1 st.fl k hk true;rw [h1] at this;exact this)
 have hm1:((g bs q1:Int)==45)=false:=by rw [beq_eq_false_iff_ne];omega
 have hl1:(q1:Int)<(bs.length:Int):=by omega
 have c5:((q1:Int)==(k:Int))=false:=by rw [beq_eq_false_iff_ne];omega
 have hql:=hin1
 have c7:((q1:Int)==(bs.length:Int))=false:=by rw [beq_eq_false_iff_ne];omega
 have hlq:(q1:Int)<(bs.length:Int):=by omega
 have hwq:IntKind.i64.wrap ((q1:Int)+1)=(q1:Int)+1:=Rs.wrap_id _ (by have:=h.top;omega) (by have:=h.top;omega)
 have b41:((g bs q1:Int)==41)=false:=by rw [hc];rfl
 have b58:((g bs q1:Int)==58)=true:=by rw [hc];rfl
 have CC:=hide CC
 clear hne hc
 have q0:=(h.below hbb).c0
 have q2:=(h.below hbb).c2
 have q3:=(h.below hbb).c3
 have q4:=(h.below hbb).c4
 have q5:=(h.below hbb).c5
 clear h hbb hcell h1 hk hm 
 go_enter Tryz.func70,Tryz.ntmps70
 go_wp2_with fail
 generalize ((w.alloc (.cells pz 78)).alloc (.cells fz 80))=X at *
 have hXs:w.heap.size+2≤X.heap.size:=HKF.1.lt
 refine (CL1.1 _ HS.1).mono ?_
 rintro e w5 ⟨rfl,hb5⟩
 have HS:=hide (HS.1.below (hb5.alloc hb5.size (.cells (bf f1) 73)))
 have hgw:w5.heap.size<(w5.alloc (.cells (bf f1) 73)).heap.size:=by simp
 have HQ:=hide (Blk.new w5 73 (bf f1))
 have hX5:X.heap.size≤w5.heap.size:=hb5.size
 clear hb5 CL1 q0 q2 q3 q4 q5
 have y0:(w5.alloc (.cells (bf f1) 73)).cell? ⟨rb,0,none⟩=some (.slice (some ⟨b,off,none⟩) bs.length cap):=HS.1.1.blk.cell 0
 have hby:=HCELL.1 _ HS.1
 have hby1:=hby q1 hin1
 clear hby
 obtain ⟨⟨x0,x1,x2,x3⟩,-⟩:=cells4 HQ.1
 go_wp2_with fail
 refine (CC.1 _ HS.1.1).mono ?_
 rintro e w9 hG
 obtain ⟨u0,u1,u2,u3,u4,u5,u6,s,L,ln,lc,K,kn,kc,bz,c,p,st',nv',rfl,hL⟩:=hG.form
 have hk5:=Left.blk HS.1.1 hL (HKP.1.below HS.1.2 HKP.1.lt) (by decide) (by omega)
 have hf5:=Left.blk HS.1.1 hL (HKF.1.below HS.1.2 HKF.1.lt) (by decide) (by omega)
 obtain ⟨⟨y0,y1,y2,y3,y4,y5,y6,y7,y8,y9,y10⟩,z0,z1,z2,z3,z4,z5,z6,z7,z8,z9,z10⟩:=cells11 hk5
 obtain ⟨⟨u20,u21⟩,v20,v21⟩:=cells2 hf5
 have HBW:=hide (HB.1.trans (HS.1.2.mono HB.1.size))
 have hWs:w.heap.size+2≤_:=Nat.le_trans hXs HS.1.2.size
 have HK5:=hide hk5
 have HF5:=hide hf5
 have HG:=hide hG
 clear hk5 hf5 hL hG CC HS
 go_wp2_with fail
 (try simp only [Exit.inBlock,Exit.then])
 have hq:=blk13 HK5.1 HF5.1 (by omega) rfl rfl
 exact bodyPost_ret (rctc rfl w.heap.size (w.heap.size+1) (.bool bz) rfl rfl rfl (hq _ _ _ _ _ _ _ _ _ _ _ _ _)) rfl (GiveA.on HBW.1 HG.1 HK5.1 HF5.1 hlt (Nat.le_refl _) (by omega) (by omega) (by omega) (by omega) _ _ _ _ _ _ _ _ _ _ _ _ _)
theorem flag_in_close (h:Rd bs (some ⟨b,off,none⟩) cap w0 rb nest st nv w) (hb0:0<bs.length) (k:Nat) (hk:k≤bs.length) (f1:Fl) (q1:Nat) (h1:letP bs true st.fl k=(f1,q1)) (hin1:q1<bs.length) (hm:g bs q1≠45) (hne:q1≠k) (hc:g bs q1=41) :
  Calls Tryz.prog 70 #[Value.pointer (some ⟨rb,0,none⟩),.int .i64 (k:Int)] w (GiveA bs (some ⟨b,off,none⟩) cap w0 rb nest nv w (.ok ((⟨nd0,.nil⟩,false),⟨q1+1,f1,st.names⟩))):=by
 obtain ⟨hbb,HS,HKP,HKF,HB,HW,hlt,habv⟩:=pro h
 have hcell:∀ W,RB bs (some ⟨b,off,none⟩) cap w0 rb nest st nv ((w.alloc (.cells pz 78)).alloc (.cells fz 80)) W→∀ j,j<bs.length→W.cell? ⟨b,off+j,none⟩=some (.int .u8 (g bs j:Int)):=fun W hr j hj=>by
  obtain ⟨b',off',e,_,hc⟩:=hr.1.pvW.cell hb0
  injection e with e
  injection e with e1 e2
  subst e1;subst e2
  exact hc j hj
 have HCELL:=hide hcell
 have hq1:q1≤bs.length:=by have:=let_on (bs:=bs) (b:=true) _ st.fl k (Nat.le_refl _);rw [h1] at this;simp only [] at this;omega
 have htop:=h.top
 have CL1:=hide (fun W (hr:RB bs (some ⟨b,off,none⟩) cap w0 rb nest st nv ((w.alloc (.cells pz 78)).alloc (.cells fz 80)) W)=>by have:=letters_any hr.1 st.fl k hk true;rw [h1] at this;exact this)
 have hm1:((g bs q1:Int)==45)=false:=by rw [beq_eq_false_iff_ne];omega
 have hl1:(q1:Int)<(bs.length:Int):=by omega
 have c5:((q1:Int)==(k:Int))=false:=by rw [beq_eq_false_iff_ne];omega
 have hql:=hin1
 have c7:((q1:Int)==(bs.length:Int))=false:=by rw [beq_eq_false_iff_ne];omega
 have hlq:(q1:Int)<(bs.length:Int):=by omega
 have hwq:IntKind.i64.wrap ((q1:Int)+1)=(q1:Int)+1:=Rs.wrap_id _ (by have:=h.top;omega) (by have:=h.top;omega)
 have b41:((g bs q1:Int)==41)=true:=by rw [hc];rfl
 have HQL:=hide (show q1+1≤bs.length from hql)
 clear hne hc
 have q0:=(h.below hbb).c0
 have q2:=(h.below hbb).c2
 have q3:=(h.below hbb).c3
 have q4:=(h.below hbb).c4
 have q5:=(h.below hbb).c5
 clear h hbb hcell h1 hk hm 
 go_enter Tryz.func70,Tryz.ntmps70
 go_wp2_with fail
 generalize ((w.alloc (.cells pz 78)).alloc (.cells fz 80))=X at *
 have hXs:w.heap.size+2≤X.heap.size:=HKF.1.lt
 refine (CL1.1 _ HS.1).mono ?_
 rintro e w5 ⟨rfl,hb5⟩
 have HS:=hide (HS.1.below (hb5.alloc hb5.size (.cells (bf f1) 73)))
 have hgw:w5.heap.size<(w5.alloc (.cells (bf f1) 73)).heap.size:=by simp
 have HQ:=hide (Blk.new w5 73 (bf f1))
 have hX5:X.heap.size≤w5.heap.size:=hb5.size
 clear hb5 CL1 q0 q2 q3 q4 q5
 have y0:(w5.alloc (.cells (bf f1) 73)).cell? ⟨rb,0,none⟩=some (.slice (some ⟨b,off,none⟩) bs.length cap):=HS.1.1.blk.cell 0
 have hby:=HCELL.1 _ HS.1
 have hby1:=hby q1 hin1
 clear hby
 go_wp2_with fail
 have hVs:w.heap.size+2≤(w5.alloc (.cells (bf f1) 73)).heap.size:=Nat.le_trans hXs HS.1.2.size
 have HK5:=hide (HKP.1.below HS.1.2 HKP.1.lt)
 have HF5:=hide (HKF.1.below HS.1.2 HKF.1.lt)
 have hg5X:X.heap.size≤w5.heap.size:=by omega
 have HS:=HS
 generalize (w5.alloc (.cells (bf f1) 73))=V at *
 obtain ⟨g5,hg5⟩:∃ g5,w5.heap.size=g5:=⟨_,rfl⟩
 rw [hg5] at HQ hg5X
 rw [show (Value.pointer (some ⟨w5.heap.size,0,none⟩))=Value.pointer (some ⟨g5,0,none⟩) from by rw [hg5]]
 have hgr:g5≠rb:=by omega
 obtain ⟨⟨-,c1,c2,c3,c4,c55,-⟩,f1_,f2_,f3_,f4_,f5_,-⟩:=rdcells HS.1.1
 refine wp_region_noPanic ?_
 refine wp_region_held_drew (S:=(fun wx=>Hd (Blk wx g5 73 (bf f1))∧wx.cell? ⟨g5,0,none⟩=some (.bool f1.i)∧wx.cell? ⟨g5,1,none⟩=some (.bool f1.m)∧wx.cell? ⟨g5,2,none⟩=some (.bool f1.s)∧wx.cell? ⟨g5,3,none⟩=some (.bool f1.x))) (by kernel_rfl) (⟨hide (HQ.1.drew),(HQ.1.drew).cell 0,(HQ.1.drew).cell 1,(HQ.1.drew).cell 2,(HQ.1.drew).cell 3⟩) (fun hHeld=>?_)
 refine tkH 0 (some 69) ?vu10 rfl ?yu10 hHeld ?ru10
 case yu10=>(intro w hSw;(try dsimp only at hSw);go_simp;try with_reducible rfl)
 try simp only [aP]
 refine tkH 1 (some 70) ?vu11 rfl ?yu11 hHeld ?ru11
 case yu11=>(intro w hSw;(try dsimp only at hSw);go_simp;try with_reducible rfl)
 try simp only [aP]
 refine tkH 2 (some 71) ?vu12 rfl ?yu12 hHeld ?ru12
 case yu12=>(intro w hSw;(try dsimp only at hSw);go_simp;try with_reducible rfl)
 try simp only [aP]
 refine tkH 3 (some 72) ?vu13 rfl ?yu13 hHeld ?ru13
 case yu13=>(intro w hSw;(try dsimp only at hSw);go_simp;try with_reducible rfl)
 try simp only [aP]
 refine tkH 4 (some 73) ?vu14 rfl ?yu14 hHeld ?ru14
 case yu14=>(intro w hSw;(try dsimp only at hSw);go_simp;try with_reducible rfl)
 try simp only [aP]
 refine tkH 5 (some 74) ?vu15 rfl ?yu15 hHeld ?ru15
 case yu15=>(intro w hSw;(try dsimp only at hSw);go_simp;try with_reducible rfl)
 try simp only [aP]
 refine tkH 6 (some 75) ?vu16 rfl ?yu16 hHeld ?ru16
 case yu16=>(intro w hSw;(try dsimp only at hSw);go_simp;try with_reducible rfl)
 try simp only [aP]
 refine wpAnyH_ready (rs:=[7]) (by kernel_rfl) (by simp) ?_
 refine AllReadyH.cons (o:=⟨none,_,_,_,_,_⟩) rfl (fun K hK=>?_) AllReadyH.nil
 go_simp
 refine hK.out _ _ (⟨hide (HQ.1.drew.far (p:=⟨rb,1,none⟩) (by show g5≠rb;exact hgr) (.int .i64 ((q1:Int)+1))),(HQ.1.drew.far (p:=⟨rb,1,none⟩) (by show g5≠rb;exact hgr) (.int .i64 ((q1:Int)+1))).cell 0,(HQ.1.drew.far (p:=⟨rb,1,none⟩) (by show g5≠rb;exact hgr) (.int .i64 ((q1:Int)+1))).cell 1,(HQ.1.drew.far (p:=⟨rb,1,none⟩) (by show g5≠rb;exact hgr) (.int .i64 ((q1:Int)+1))).cell 2,(HQ.1.drew.far (p:=⟨rb,1,none⟩) (by show g5≠rb;exact hgr) (.int .i64 ((q1:Int)+1))).cell 3⟩) (fun hHeld2=>?_)
 clear hK K
 try simp only [aP]
 have hr1:=HS.1.1.drew.store 1 (.int .i64 ((q1:Int)+1)) (st':={ st with pos:=q1+1 }) (nest':=nest) rfl HQL.1 HS.1.1.deep rfl
 obtain ⟨⟨-,-,c12,c13,c14,c15,-⟩,-,f12,f13,f14,f15,-⟩:=rdcells hr1
 have HR3:=hide (fl4 (HS.1.1.store 1 (.int .i64 ((q1:Int)+1)) (st':={ st with pos:=q1+1 }) (nest':=nest) rfl HQL.1 HS.1.1.deep rfl) f1).drew
 clear hr1
 refine tkH 8 (some 76) ?vu17 rfl ?yu17 hHeld2 ?ru17
 case yu17=>(intro w hSw;(try dsimp only at hSw);go_simp;try with_reducible rfl)
 try simp only [aP]
 refine tkH 9 (some 77) ?vu18 rfl ?yu18 hHeld2 ?ru18
 case yu18=>(intro w hSw;(try dsimp only at hSw);go_simp;try with_reducible rfl)
 try simp only [aP]
 refine wpAnyH_ready (rs:=[10]) (by kernel_rfl) (by simp) ?_
 refine AllReadyH.cons (o:=⟨none,_,_,_,_,_⟩) rfl (fun K hK=>?_) AllReadyH.nil
 go_simp
 refine hK.out _ _ (⟨hide ((blk_fl (HQ.1.far (p:=⟨rb,1,none⟩) (by show g5≠rb;exact hgr) (.int .i64 ((q1:Int)+1))) hgr (.bool f1.i) (.bool f1.m) (.bool f1.s) (.bool f1.x)).drew),((blk_fl (HQ.1.far (p:=⟨rb,1,none⟩) (by show g5≠rb;exact hgr) (.int .i64 ((q1:Int)+1))) hgr (.bool f1.i) (.bool f1.m) (.bool f1.s) (.bool f1.x)).drew).cell 0,((blk_fl (HQ.1.far (p:=⟨rb,1,none⟩) (by show g5≠rb;exact hgr) (.int .i64 ((q1:Int)+1))) hgr (.bool f1.i) (.bool f1.m) (.bool f1.s) (.bool f1.x)).drew).cell 1,((blk_fl (HQ.1.far (p:=⟨rb,1,none⟩) (by show g5≠rb;exact hgr) (.int .i64 ((q1:Int)+1))) hgr (.bool f1.i) (.bool f1.m) (.bool f1.s) (.bool f1.x)).drew).cell 2,((blk_fl (HQ.1.far (p:=⟨rb,1,none⟩) (by show g5≠rb;exact hgr) (.int .i64 ((q1:Int)+1))) hgr (.bool f1.i) (.bool f1.m) (.bool f1.s) (.bool f1.x)).drew).cell 3⟩) (fun hHeld3=>?_)
 clear hK K
 try simp only [aP]
 refine wpAnyH_done (by kernel_rfl) ?_ _
 refine NoPanic.normal ?_
 clear hHeld hHeld2 hHeld3
 have HL3:=hide (Left.then (Left.of_below HW.1 (HB.1.trans (HS.1.2.mono HB.1.size))) (Left.of_turn HR3.1 ((turn_fl (turn_set (Turn.of_below (rb:=rb) (row:=none) (Below.refl _ V)) (.int .i64 ((q1:Int)+1))) (.bool f1.i) (.bool f1.m) (.bool f1.s) (.bool f1.x)).trans (Turn.of_below (Below.refl _ _).drew) (.inl rfl))))
 have HK5:=hide ((blk_fl (HK5.1.far (p:=⟨rb,1,none⟩) (by show w.heap.size≠rb;omega) (.int .i64 ((q1:Int)+1))) (show w.heap.size≠rb by omega) (.bool f1.i) (.bool f1.m) (.bool f1.s) (.bool f1.x)).drew)
 have HF5:=hide ((blk_fl (HF5.1.far (p:=⟨rb,1,none⟩) (by show w.heap.size+1≠rb;omega) (.int .i64 ((q1:Int)+1))) (show w.heap.size+1≠rb by omega) (.bool f1.i) (.bool f1.m) (.bool f1.s) (.bool f1.x)).drew)
 clear c1 c2 c3 c4 c55 f1_ f2_ f3_ f4_ f5_ c12 c13 c14 c15 f12 f13 f14 f15 HR3
 generalize (((((V.setCell ⟨rb,1,none⟩ (.int .i64 ((q1:Int)+1))).setCell ⟨rb,2,none⟩ (.bool f1.i)).setCell ⟨rb,3,none⟩ (.bool f1.m)).setCell ⟨rb,4,none⟩ (.bool f1.s)).setCell ⟨rb,5,none⟩ (.bool f1.x)).drew=V3 at *
 obtain ⟨⟨y1,y2,y3,y4,y5,y6,y7,y8,y9,y10,y11⟩,z0,z1,z2,z3,z4,z5,z6,z7,z8,z9,z10⟩:=cells11 HK5.1
 obtain ⟨⟨u20,u21⟩,v20,v21⟩:=cells2 HF5.1
 go_wp2_with fail
 (try simp only [Exit.inBlock,Exit.then])
 have hq:=blk13 HK5.1 HF5.1 (by omega) rfl rfl
 exact bodyPost_ret (rctc rfl w.heap.size (w.heap.size+1) (.bool false) rfl rfl rfl (hq _ _ _ _ _ _ _ _ _ _ _ _ _)) rfl ⟨ptZ,nv,rfl,⟨none,0,none,0,rfl,SetV.nil _ _,KV.nil _ _⟩,HL3.1.set13 HK5.1 HF5.1 hlt (Nat.le_refl _) (by omega) (by omega) _ _ _ _ _ _ _ _ _ _ _ _ _⟩
theorem flagged_any {A:Option Addr} (h:Rd bs A cap w0 rb nest st nv w) (hk0:0<bs.length) (k:Nat) (hk:k≤bs.length) (inner:St→Res Pt)
  (CW:∀ (fr:Nat) (fl:Fl) W,fr≤bs.length→Rd bs A cap w0 rb nest st nv W→Calls Tryz.prog 67 #[Value.pointer (some ⟨rb,0,none⟩),ndV 0 0 [],.int .i64 (fr:Int),flV fl] W (GiveA bs A cap w0 rb nest nv W (withinP bs inner nd0 fr fl st))) :
  Calls Tryz.prog 70 #[Value.pointer (some ⟨rb,0,none⟩),.int .i64 (k:Int)] w (GiveA bs A cap w0 rb nest nv w (flaggedP bs inner k st)):=by
 obtain ⟨b,off,rfl,-,-⟩:=h.pvW.cell hk0
 obtain ⟨f1,q1,h1⟩:∃ f1 q1,letP bs true st.fl k=(f1,q1):=⟨_,_,rfl⟩
 have hq1:k≤q1∧q1≤bs.length:=by have:=let_on (bs:=bs) (b:=true) _ st.fl k (Nat.le_refl _);rw [h1] at this;simp only [] at this;omega
 by_cases hm:g bs q1=45
 ·have hq1l:q1<bs.length:=g_in (by omega)
  obtain ⟨f,q,h2⟩:∃ f q,letP bs false f1 (q1+1)=(f,q):=⟨_,_,rfl⟩
  have hq:q1+1≤q∧q≤bs.length:=by have:=let_on (bs:=bs) (b:=false) _ f1 (q1+1) (Nat.le_refl _);rw [h2] at this;simp only [] at this;omega
  have hf:flgP bs st.fl k=(f,q1+1,q):=by unfold flgP;rw [h1];simp only [];rw [if_pos hm,h2]
  unfold flaggedP
  rw [hf]
  simp only []
  by_cases hb:q=q1+1∨bs.length≤q
  ·rw [if_pos hb]
   by_cases hbad:q=q1+1
   ·exact flag_minus_bada h hk0 k hk f1 q1 h1 hm f q h2 hbad
   ·exact flag_minus_badb h hk0 k hk f1 q1 h1 hm f q h2 hbad (hb.resolve_left hbad)
  ·rw [if_neg hb]
   have hne:q≠q1+1:=fun e=>hb (.inl e)
   have hql:q<bs.length:=Nat.lt_of_not_le fun e=>hb (.inr e)
   by_cases hc:g bs q=41
   ·rw [if_pos hc];exact flag_minus_close h hk0 k hk f1 q1 h1 hm f q h2 hne hql hc
   ·rw [if_neg hc]
    by_cases hc2:g bs q=58
    ·rw [if_pos hc2];exact flag_minus_colon h hk0 k hk f1 q1 h1 hm f q h2 hne hql hc2 _ fun W hr=>CW (q+1) f W hql hr
    ·rw [if_neg hc2];exact flag_minus_other h hk0 k hk f1 q1 h1 hm f q h2 hne hql hc hc2
 ·have hf:flgP bs st.fl k=(f1,k,q1):=by unfold flgP;rw [h1];simp only [];rw [if_neg hm]
  unfold flaggedP
  rw [hf]
  simp only []
  by_cases hin1:q1<bs.length
  ·by_cases hbad:q1=k
   ·rw [if_pos (.inl hbad)]
    exact flag_in_bad h hk0 k hk f1 q1 h1 hin1 hm hbad
   ·rw [if_neg (fun e=>e.elim hbad (fun e2=>by omega))]
    by_cases hc:g bs q1=41
    ·rw [if_pos hc];exact flag_in_close h hk0 k hk f1 q1 h1 hin1 hm hbad hc
    ·rw [if_neg hc]
     by_cases hc2:g bs q1=58
     ·rw [if_pos hc2];exact flag_in_colon h hk0 k hk f1 q1 h1 hin1 hm hbad hc2 _ fun W hr=>CW (q1+1) f1 W hin1 hr
     ·rw [if_neg hc2];exact flag_in_other h hk0 k hk f1 q1 h1 hin1 hm hbad hc hc2
  ·rw [if_pos (.inr (by omega))]
   by_cases hbad:q1=k
   ·exact flag_end_bada h hk0 k hk f1 q1 h1 (by omega) hbad
   ·exact flag_end_badb h hk0 k hk f1 q1 h1 (by omega) hbad
end Go.Proofs.YtmlbklcmblofkaaGreatDoor.Pa
