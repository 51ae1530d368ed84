/-
  The reader's parenthesis, walked, an arm a theorem.
-/
import Derived.Test.YtmlbklcmblofkaaGreatDoorMPaD
set_option linter.unusedSimpArgs false
set_option linter.unusedVariables false
set_option maxHeartbeats 8000000
set_option maxRecDepth 100000
namespace Go.Proofs.YtmlbklcmblofkaaGreatDoor.Pa
open Go.RowKit Mem
open Rs (R)
attribute [local go_sem] build_pz build_fl build_f0
attribute [local go_sem] build_nd0 build_nd1 Rs.run_not_true Rs.run_not_false
theorem paren_walk {bs:List UInt8} {A:Option Addr} {cap:Nat} {w0:World} {rb nest:Nat} {st:St} {nv:Value} {w:World} (h:Rd bs A cap w0 rb nest st nv w) (hd:nest≠100) (R:Res (Pt×Bool))
  (A0:stB bs st.pos [40,63]=false→∀ W,Rd bs A cap w0 rb nest st nv W→Calls Tryz.prog 65 #[Value.pointer (some ⟨rb,0,none⟩),.string ⟨([]:List UInt8).toArray⟩,.int .i64 ((st.pos:Int)+1)] W (GiveA bs A cap w0 rb nest nv W R))
  (A1:stB bs st.pos [40,63]=true→stB bs st.pos [40,63,35]=true→∀ W,Rd bs A cap w0 rb nest st nv W→Calls Tryz.prog 66 #[Value.pointer (some ⟨rb,0,none⟩)] W (GiveA bs A cap w0 rb nest nv W R))
  (A2:stB bs st.pos [40,63]=true→stB bs st.pos [40,63,35]=false→stB bs st.pos [40,63,58]=true→∀ W,Rd bs A cap w0 rb nest st nv W→Calls Tryz.prog 67 #[Value.pointer (some ⟨rb,0,none⟩),ndV 0 0 [],.int .i64 ((st.pos:Int)+3),flV st.fl] W (GiveA bs A cap w0 rb nest nv W R))
  (A3:stB bs st.pos [40,63]=true→stB bs st.pos [40,63,35]=false→stB bs st.pos [40,63,58]=false→stB bs st.pos [40,63,62]=true→∀ W,Rd bs A cap w0 rb nest st nv W→Calls Tryz.prog 67 #[Value.pointer (some ⟨rb,0,none⟩),ndV 9 0 [],.int .i64 ((st.pos:Int)+3),flV st.fl] W (GiveA bs A cap w0 rb nest nv W R))
  (A4:stB bs st.pos [40,63]=true→stB bs st.pos [40,63,35]=false→stB bs st.pos [40,63,58]=false→stB bs st.pos [40,63,62]=false→stB bs st.pos [40,63,61]=true→∀ W,Rd bs A cap w0 rb nest st nv W→Calls Tryz.prog 68 #[Value.pointer (some ⟨rb,0,none⟩),.int .i64 1,.int .i64 ((st.pos:Int)+3)] W (GiveA bs A cap w0 rb nest nv W R))
  (A5:stB bs st.pos [40,63]=true→stB bs st.pos [40,63,35]=false→stB bs st.pos [40,63,58]=false→stB bs st.pos [40,63,62]=false→stB bs st.pos [40,63,61]=false→stB bs st.pos [40,63,33]=true→∀ W,Rd bs A cap w0 rb nest st nv W→Calls Tryz.prog 68 #[Value.pointer (some ⟨rb,0,none⟩),.int .i64 2,.int .i64 ((st.pos:Int)+3)] W (GiveA bs A cap w0 rb nest nv W R))
  (A6:stB bs st.pos [40,63]=true→stB bs st.pos [40,63,35]=false→stB bs st.pos [40,63,58]=false→stB bs st.pos [40,63,62]=false→stB bs st.pos [40,63,61]=false→stB bs st.pos [40,63,33]=false→stB bs st.pos [40,63,60,61]=true→∀ W,Rd bs A cap w0 rb nest st nv W→Calls Tryz.prog 68 #[Value.pointer (some ⟨rb,0,none⟩),.int .i64 3,.int .i64 ((st.pos:Int)+4)] W (GiveA bs A cap w0 rb nest nv W R))
  (A7:stB bs st.pos [40,63]=true→stB bs st.pos [40,63,35]=false→stB bs st.pos [40,63,58]=false→stB bs st.pos [40,63,62]=false→stB bs st.pos [40,63,61]=false→stB bs st.pos [40,63,33]=false→stB bs st.pos [40,63,60,61]=false→stB bs st.pos [40,63,60,33]=true→∀ W,Rd bs A cap w0 rb nest st nv W→Calls Tryz.prog 68 #[Value.pointer (some ⟨rb,0,none⟩),.int .i64 4,.int .i64 ((st.pos:Int)+4)] W (GiveA bs A cap w0 rb nest nv W R))
  (A8:stB bs st.pos [40,63]=true→stB bs st.pos [40,63,35]=false→stB bs st.pos [40,63,58]=false→stB bs st.pos [40,63,62]=false→stB bs st.pos [40,63,61]=false→stB bs st.pos [40,63,33]=false→stB bs st.pos [40,63,60,61]=false→stB bs st.pos [40,63,60,33]=false→stB bs st.pos [40,63,60]=true→∀ W,Rd bs A cap w0 rb nest st nv W→Calls Tryz.prog 69 #[Value.pointer (some ⟨rb,0,none⟩),.int .i64 ((st.pos:Int)+3)] W (GiveA bs A cap w0 rb nest nv W R))
  (A9:stB bs st.pos [40,63]=true→stB bs st.pos [40,63,35]=false→stB bs st.pos [40,63,58]=false→stB bs st.pos [40,63,62]=false→stB bs st.pos [40,63,61]=false→stB bs st.pos [40,63,33]=false→stB bs st.pos [40,63,60,61]=false→stB bs st.pos [40,63,60,33]=false→stB bs st.pos [40,63,60]=false→∀ W,Rd bs A cap w0 rb nest st nv W→Calls Tryz.prog 70 #[Value.pointer (some ⟨rb,0,none⟩),.int .i64 ((st.pos:Int)+2)] W (GiveA bs A cap w0 rb nest nv W R)) :
  Calls Tryz.prog 52 #[Value.pointer (some ⟨rb,0,none⟩)] w (GiveA bs A cap w0 rb nest nv w R):=by
 obtain ⟨hbb,HS,HKP,HKF,HB,HW,hlt,habv⟩:=pro h
 have A0:=hide A0
 have A1:=hide A1
 have A2:=hide A2
 have A3:=hide A3
 have A4:=hide A4
 have A5:=hide A5
 have A6:=hide A6
 have A7:=hide A7
 have A8:=hide A8
 have A9:=hide A9
 have hn1:((nest:Int)==100)=false:=by rw [beq_eq_false_iff_ne];omega
 have hn2:¬ ((nest:Int)=100):=by omega
 have htop:=h.top
 have hpos:=h.pos
 have hp1:(st.pos:Int)≤4096:=by omega
 have hw1:IntKind.i64.wrap ((st.pos:Int)+1)=(st.pos:Int)+1:=Rs.wrap_id _ (by omega) (by omega)
 have hw2:IntKind.i64.wrap ((st.pos:Int)+2)=(st.pos:Int)+2:=Rs.wrap_id _ (by omega) (by omega)
 have hw3:IntKind.i64.wrap ((st.pos:Int)+3)=(st.pos:Int)+3:=Rs.wrap_id _ (by omega) (by omega)
 have hw4:IntKind.i64.wrap ((st.pos:Int)+4)=(st.pos:Int)+4:=Rs.wrap_id _ (by omega) (by omega)
 have q6:=(h.below hbb).c6
 clear h hbb hd htop hpos
 go_enter Tryz.func52,Tryz.ntmps52
 go_wp2_with fail
 generalize ((w.alloc (.cells pz 78)).alloc (.cells fz 80))=X at *
 have hXs:w.heap.size+2≤X.heap.size:=HKF.1.lt
 have C:=hide (fun W (hr:RB bs A cap w0 rb nest st nv X W)=>stands_any hr.1 [40,63] (by decide) (by decide))
 cases f0:stB bs st.pos [40,63] with
 | false=>
  rw [f0] at C
  refine (C.1 _ HS.1).mono ?_
  rintro e w10 ⟨rfl,hb⟩
  have HS:=hide (HS.1.below hb)
  clear hb C
  have CC:=hide (A0.1 f0)
  clear A0 A1 A2 A3 A4 A5 A6 A7 A8 A9 f0
  have r1:=HS.1.1.c1
  have r2:=HS.1.1.c2
  have r3:=HS.1.1.c3
  have r4:=HS.1.1.c4
  have r5:=HS.1.1.c5
  go_wp2_with fail
  refine (CC.1 _ HS.1.1).mono ?_
  rintro e w5 hG
  obtain ⟨u0,u1,u2,u3,u4,u5,u6,s,L,ln,lc,K,kn,kc,b,c,p,st',nv',rfl,hL⟩:=hG.form
  have hk5:=Left.blk HS.1.1 hL (HKP.1.below HS.1.2 HKP.1.lt) (by decide) (by omega)
  have hf5:=Left.blk HS.1.1 hL (HKF.1.below HS.1.2 HKF.1.lt) (by decide) (by omega)
  obtain ⟨⟨y0,y1,y2,y3,y4,y5,y6,y7,y8,y9,y10⟩,z0,z1,z2,z3,z4,z5,z6,z7,z8,z9,z10⟩:=cells11 hk5
  obtain ⟨⟨u20,u21⟩,v20,v21⟩:=cells2 hf5
  have HBW:=hide (HB.1.trans (HS.1.2.mono HB.1.size))
  have hWs:w.heap.size+2≤_:=Nat.le_trans hXs HS.1.2.size
  have HK5:=hide hk5
  have HF5:=hide hf5
  have HG:=hide hG
  clear hk5 hf5 hL hG CC HS
  go_wp2_with fail
  (try simp only [Exit.inBlock,Exit.then])
  have hq:=blk13 HK5.1 HF5.1 (by omega) rfl rfl
  exact bodyPost_ret (rctc rfl w.heap.size (w.heap.size+1) (.bool b) rfl rfl rfl (hq _ _ _ _ _ _ _ _ _ _ _ _ _)) rfl (GiveA.on HBW.1 HG.1 HK5.1 HF5.1 hlt (Nat.le_refl _) (by omega) (by omega) (by omega) (by omega) _ _ _ _ _ _ _ _ _ _ _ _ _)
 | true=>
  rw [f0] at C
  refine (C.1 _ HS.1).mono ?_
  rintro e w10 ⟨rfl,hb⟩
  have HS:=hide (HS.1.below hb)
  clear hb C
  clear A0
  go_wp2_with fail
  have C:=hide (fun W (hr:RB bs A cap w0 rb nest st nv X W)=>stands_any hr.1 [40,63,35] (by decide) (by decide))
  cases f1:stB bs st.pos [40,63,35] with
  | true=>
   rw [f1] at C
   refine (C.1 _ HS.1).mono ?_
   rintro e w11 ⟨rfl,hb⟩
   have HS:=hide (HS.1.below hb)
   clear hb C
   have CC:=hide (A1.1 f0 f1)
   clear A1 A2 A3 A4 A5 A6 A7 A8 A9 f0 f1
   have r1:=HS.1.1.c1
   have r2:=HS.1.1.c2
   have r3:=HS.1.1.c3
   have r4:=HS.1.1.c4
   have r5:=HS.1.1.c5
   go_wp2_with fail
   refine (CC.1 _ HS.1.1).mono ?_
   rintro e w5 hG
   obtain ⟨u0,u1,u2,u3,u4,u5,u6,s,L,ln,lc,K,kn,kc,b,c,p,st',nv',rfl,hL⟩:=hG.form
   have hk5:=Left.blk HS.1.1 hL (HKP.1.below HS.1.2 HKP.1.lt) (by decide) (by omega)
   have hf5:=Left.blk HS.1.1 hL (HKF.1.below HS.1.2 HKF.1.lt) (by decide) (by omega)
   obtain ⟨⟨y0,y1,y2,y3,y4,y5,y6,y7,y8,y9,y10⟩,z0,z1,z2,z3,z4,z5,z6,z7,z8,z9,z10⟩:=cells11 hk5
   obtain ⟨⟨u20,u21⟩,v20,v21⟩:=cells2 hf5
   have HBW:=hide (HB.1.trans (HS.1.2.mono HB.1.size))
   have hWs:w.heap.size+2≤_:=Nat.le_trans hXs HS.1.2.size
   have HK5:=hide hk5
   have HF5:=hide hf5
   have HG:=hide hG
   clear hk5 hf5 hL hG CC HS
   go_wp2_with fail
   (try simp only [Exit.inBlock,Exit.then])
   have hq:=blk13 HK5.1 HF5.1 (by omega) rfl rfl
   exact bodyPost_ret (rctc rfl w.heap.size (w.heap.size+1) (.bool b) rfl rfl rfl (hq _ _ _ _ _ _ _ _ _ _ _ _ _)) rfl (GiveA.on HBW.1 HG.1 HK5.1 HF5.1 hlt (Nat.le_refl _) (by omega) (by omega) (by omega) (by omega) _ _ _ _ _ _ _ _ _ _ _ _ _)
  | false=>
   rw [f1] at C
   refine (C.1 _ HS.1).mono ?_
   rintro e w11 ⟨rfl,hb⟩
   have HS:=hide (HS.1.below hb)
   clear hb C
   clear A1
   go_wp2_with fail
   have C:=hide (fun W (hr:RB bs A cap w0 rb nest st nv X W)=>stands_any hr.1 [40,63,58] (by decide) (by decide))
   cases f2:stB bs st.pos [40,63,58] with
   | true=>
    rw [f2] at C
    refine (C.1 _ HS.1).mono ?_
    rintro e w12 ⟨rfl,hb⟩
    have HS:=hide (HS.1.below hb)
    clear hb C
    have CC:=hide (A2.1 f0 f1 f2)
    clear A2 A3 A4 A5 A6 A7 A8 A9 f0 f1 f2
    have r1:=HS.1.1.c1
    have r2:=HS.1.1.c2
    have r3:=HS.1.1.c3
    have r4:=HS.1.1.c4
    have r5:=HS.1.1.c5
    go_wp2_with fail
    refine wp_region_any (by kernel_rfl) ?_
    change wpAny _ _ _ _ _ _ _ (World.drew _)
    refine tk 0 (some 41) ?vu1 rfl ?yu1 ?ru1
    case yu1=>(intro w;go_simp;try with_reducible rfl)
    try simp only [aP]
    refine tk 1 (some 42) ?vu2 rfl ?yu2 ?ru2
    case yu2=>(intro w;go_simp;try with_reducible rfl)
    try simp only [aP]
    refine tk 2 (some 43) ?vu3 rfl ?yu3 ?ru3
    case yu3=>(intro w;go_simp;try with_reducible rfl)
    try simp only [aP]
    refine tk 3 (some 44) ?vu4 rfl ?yu4 ?ru4
    case yu4=>(intro w;go_simp;try with_reducible rfl)
    try simp only [aP]
    refine tk 4 (some 45) ?vu5 rfl ?yu5 ?ru5
    case yu5=>(intro w;go_simp;try with_reducible rfl)
    try simp only [aP]
    refine tk 7 (some 48) ?vu6 rfl ?yu6 ?ru6
    case yu6=>(intro w;go_simp;try with_reducible rfl)
    try simp only [aP]
    refine tk 8 (some 49) ?vu7 rfl ?yu7 ?ru7
    case yu7=>(intro w;go_simp;try with_reducible rfl)
    try simp only [aP]
    refine tk 9 (some 50) ?vu8 rfl ?yu8 ?ru8
    case yu8=>(intro w;go_simp;try with_reducible rfl)
    try simp only [aP]
    refine wpAny_ready (rs:=[5,10]) (by kernel_rfl) (by simp) ?_
    refine AllReady.cons (o:=⟨some 46,_,_,_,_,_⟩) rfl (fun K hK0=>?_) (AllReady.cons (o:=⟨some 51,_,_,_,_,_⟩) rfl (fun K hK0=>?_) AllReady.nil)
    all_goals
     have hK:=hide hK0
     clear hK0
     go_simp
     refine hK.1 _ _ ?_
     clear hK K
     try simp only [aP]
    ·refine tk 6 (some 47) ?vu9 rfl ?yu9 ?ru9
     case yu9=>(intro w;go_simp;try with_reducible rfl)
     try simp only [aP]
     refine wpAny_ready (rs:=[10]) (by kernel_rfl) (by simp) ?_
     refine AllReady.cons (o:=⟨some 51,_,_,_,_,_⟩) rfl (fun K hK0=>?_) AllReady.nil
     have hK:=hide hK0
     clear hK0
     go_simp
     refine hK.1 _ _ ?_
     clear hK K
     try simp only [aP]
     refine wpAny_ready (rs:=[11]) (by kernel_rfl) (by simp) ?_
     refine AllReady.cons (o:=⟨some 52,_,_,_,_,_⟩) rfl (fun K hK0=>?_) AllReady.nil
     have hK:=hide hK0
     clear hK0
     go_simp
     refine (CC.1 _ ?_).mono ?_
     exact (HS.1.below (Below.refl _ _).drew).1
     have HS:=hide (HS.1.below (Below.refl _ _).drew)
     rintro e w5 hG
     obtain ⟨u0,u1,u2,u3,u4,u5,u6,s,L,ln,lc,K5,kn,kc,b,c,p,st',nv',rfl,hL⟩:=hG.form
     have hk5:=Left.blk HS.1.1 hL (HKP.1.below HS.1.2 HKP.1.lt) (by decide) (by omega)
     have hf5:=Left.blk HS.1.1 hL (HKF.1.below HS.1.2 HKF.1.lt) (by decide) (by omega)
     obtain ⟨⟨y0,y1,y2,y3,y4,y5,y6,y7,y8,y9,y10⟩,z0,z1,z2,z3,z4,z5,z6,z7,z8,z9,z10⟩:=cells11 hk5
     obtain ⟨⟨u20,u21⟩,v20,v21⟩:=cells2 hf5
     have HBW:=hide (HB.1.trans (HS.1.2.mono HB.1.size))
     have hWs:w.heap.size+2≤_:=Nat.le_trans hXs HS.1.2.size
     have HK5:=hide hk5
     have HF5:=hide hf5
     have HG:=hide hG
     clear hk5 hf5 hL hG CC HS
     go_simp
     refine hK.1 _ _ ?_
     clear hK K
     try simp only [aP]
     refine tk 12 (some 53) ?vu10 rfl ?yu10 ?ru10
     case yu10=>(intro w;go_simp;try with_reducible rfl)
     try simp only [aP]
     refine tk 13 (some 54) ?vu11 rfl ?yu11 ?ru11
     case yu11=>(intro w;go_simp;try with_reducible rfl)
     try simp only [aP]
     refine tk 14 (some 55) ?vu12 rfl ?yu12 ?ru12
     case yu12=>(intro w;go_simp;try with_reducible rfl)
     try simp only [aP]
     refine wpAny_ready (rs:=[15]) (by kernel_rfl) (by simp) ?_
     refine AllReady.cons (o:=⟨none,_,_,_,_,_⟩) rfl (fun K hK0=>?_) AllReady.nil
     have hK:=hide hK0
     clear hK0
     go_simp
     refine hK.1 _ _ ?_
     clear hK K
     try simp only [aP]
     refine wpAny_ready (rs:=[16]) (by kernel_rfl) (by simp) ?_
     refine AllReady.cons (o:=⟨some 3,_,_,_,_,_⟩) rfl (fun K hK0=>?_) AllReady.nil
     have hK:=hide hK0
     clear hK0
     go_simp
     refine hK.1 _ _ ?_
     clear hK K
     try simp only [aP]
     refine wpAny_ready (rs:=[17]) (by kernel_rfl) (by simp) ?_
     refine AllReady.cons (o:=⟨none,_,_,_,_,_⟩) rfl (fun K hK0=>?_) AllReady.nil
     have hK:=hide hK0
     clear hK0
     go_simp
     refine hK.1 _ _ ?_
     clear hK K
     try simp only [aP]
     refine wpAny_done (by kernel_rfl) ?_ _
     go_wp2_with fail
     (try simp only [Exit.inBlock,Exit.then])
     have hq:=blk13 HK5.1 HF5.1 (by omega) rfl rfl
     exact bodyPost_ret (rctc rfl w.heap.size (w.heap.size+1) (.bool b) rfl rfl rfl (hq _ _ _ _ _ _ _ _ _ _ _ _ _)) rfl (GiveA.on HBW.1 HG.1 HK5.1 HF5.1 hlt (Nat.le_refl _) (by omega) (by omega) (by omega) (by omega) _ _ _ _ _ _ _ _ _ _ _ _ _)
    ·refine wpAny_ready (rs:=[5]) (by kernel_rfl) (by simp) ?_
     refine AllReady.cons (o:=⟨some 46,_,_,_,_,_⟩) rfl (fun K hK0=>?_) AllReady.nil
     have hK:=hide hK0
     clear hK0
     go_simp
     refine hK.1 _ _ ?_
     clear hK K
     try simp only [aP]
     refine tk 6 (some 47) ?vu13 rfl ?yu13 ?ru13
     case yu13=>(intro w;go_simp;try with_reducible rfl)
     try simp only [aP]
     refine wpAny_ready (rs:=[11]) (by kernel_rfl) (by simp) ?_
     refine AllReady.cons (o:=⟨some 52,_,_,_,_,_⟩) rfl (fun K hK0=>?_) AllReady.nil
     have hK:=hide hK0
     clear hK0
     go_simp
     refine (CC.1 _ ?_).mono ?_
     exact (HS.1.below (Below.refl _ _).drew).1
     have HS:=hide (HS.1.below (Below.refl _ _).drew)
     rintro e w5 hG
     obtain ⟨u0,u1,u2,u3,u4,u5,u6,s,L,ln,lc,K5,kn,kc,b,c,p,st',nv',rfl,hL⟩:=hG.form
     have hk5:=Left.blk HS.1.1 hL (HKP.1.below HS.1.2 HKP.1.lt) (by decide) (by omega)
     have hf5:=Left.blk HS.1.1 hL (HKF.1.below HS.1.2 HKF.1.lt) (by decide) (by omega)
     obtain ⟨⟨y0,y1,y2,y3,y4,y5,y6,y7,y8,y9,y10⟩,z0,z1,z2,z3,z4,z5,z6,z7,z8,z9,z10⟩:=cells11 hk5
     obtain ⟨⟨u20,u21⟩,v20,v21⟩:=cells2 hf5
     have HBW:=hide (HB.1.trans (HS.1.2.mono HB.1.size))
     have hWs:w.heap.size+2≤_:=Nat.le_trans hXs HS.1.2.size
     have HK5:=hide hk5
     have HF5:=hide hf5
     have HG:=hide hG
     clear hk5 hf5 hL hG CC HS
     go_simp
     refine hK.1 _ _ ?_
     clear hK K
     try simp only [aP]
     refine tk 12 (some 53) ?vu14 rfl ?yu14 ?ru14
     case yu14=>(intro w;go_simp;try with_reducible rfl)
     try simp only [aP]
     refine tk 13 (some 54) ?vu15 rfl ?yu15 ?ru15
     case yu15=>(intro w;go_simp;try with_reducible rfl)
     try simp only [aP]
     refine tk 14 (some 55) ?vu16 rfl ?yu16 ?ru16
     case yu16=>(intro w;go_simp;try with_reducible rfl)
     try simp only [aP]
     refine wpAny_ready (rs:=[15]) (by kernel_rfl) (by simp) ?_
     refine AllReady.cons (o:=⟨none,_,_,_,_,_⟩) rfl (fun K hK0=>?_) AllReady.nil
     have hK:=hide hK0
     clear hK0
     go_simp
     refine hK.1 _ _ ?_
     clear hK K
     try simp only [aP]
     refine wpAny_ready (rs:=[16]) (by kernel_rfl) (by simp) ?_
     refine AllReady.cons (o:=⟨some 3,_,_,_,_,_⟩) rfl (fun K hK0=>?_) AllReady.nil
     have hK:=hide hK0
     clear hK0
     go_simp
     refine hK.1 _ _ ?_
     clear hK K
     try simp only [aP]
     refine wpAny_ready (rs:=[17]) (by kernel_rfl) (by simp) ?_
     refine AllReady.cons (o:=⟨none,_,_,_,_,_⟩) rfl (fun K hK0=>?_) AllReady.nil
     have hK:=hide hK0
     clear hK0
     go_simp
     refine hK.1 _ _ ?_
     clear hK K
     try simp only [aP]
     refine wpAny_done (by kernel_rfl) ?_ _
     go_wp2_with fail
     (try simp only [Exit.inBlock,Exit.then])
     have hq:=blk13 HK5.1 HF5.1 (by omega) rfl rfl
     exact bodyPost_ret (rctc rfl w.heap.size (w.heap.size+1) (.bool b) rfl rfl rfl (hq _ _ _ _ _ _ _ _ _ _ _ _ _)) rfl (GiveA.on HBW.1 HG.1 HK5.1 HF5.1 hlt (Nat.le_refl _) (by omega) (by omega) (by omega) (by omega) _ _ _ _ _ _ _ _ _ _ _ _ _)
   | false=>
    rw [f2] at C
    refine (C.1 _ HS.1).mono ?_
    rintro e w12 ⟨rfl,hb⟩
    have HS:=hide (HS.1.below hb)
    clear hb C
    clear A2
    go_wp2_with fail
    have C:=hide (fun W (hr:RB bs A cap w0 rb nest st nv X W)=>stands_any hr.1 [40,63,62] (by decide) (by decide))
    cases f3:stB bs st.pos [40,63,62] with
    | true=>
     rw [f3] at C
     refine (C.1 _ HS.1).mono ?_
     rintro e w13 ⟨rfl,hb⟩
     have HS:=hide (HS.1.below hb)
     clear hb C
     have CC:=hide (A3.1 f0 f1 f2 f3)
     clear A3 A4 A5 A6 A7 A8 A9 f0 f1 f2 f3
     have r1:=HS.1.1.c1
     have r2:=HS.1.1.c2
     have r3:=HS.1.1.c3
     have r4:=HS.1.1.c4
     have r5:=HS.1.1.c5
     go_wp2_with fail
     refine wp_region_any (by kernel_rfl) ?_
     change wpAny _ _ _ _ _ _ _ (World.drew _)
     refine tk 0 (some 59) ?vu17 rfl ?yu17 ?ru17
     case yu17=>(intro w;go_simp;try with_reducible rfl)
     try simp only [aP]
     refine tk 1 (some 60) ?vu18 rfl ?yu18 ?ru18
     case yu18=>(intro w;go_simp;try with_reducible rfl)
     try simp only [aP]
     refine tk 2 (some 61) ?vu19 rfl ?yu19 ?ru19
     case yu19=>(intro w;go_simp;try with_reducible rfl)
     try simp only [aP]
     refine tk 3 (some 62) ?vu20 rfl ?yu20 ?ru20
     case yu20=>(intro w;go_simp;try with_reducible rfl)
     try simp only [aP]
     refine tk 4 (some 63) ?vu21 rfl ?yu21 ?ru21
     case yu21=>(intro w;go_simp;try with_reducible rfl)
     try simp only [aP]
     refine tk 7 (some 66) ?vu22 rfl ?yu22 ?ru22
     case yu22=>(intro w;go_simp;try with_reducible rfl)
     try simp only [aP]
     refine tk 8 (some 67) ?vu23 rfl ?yu23 ?ru23
     case yu23=>(intro w;go_simp;try with_reducible rfl)
     try simp only [aP]
     refine tk 9 (some 68) ?vu24 rfl ?yu24 ?ru24
     case yu24=>(intro w;go_simp;try with_reducible rfl)
     try simp only [aP]
     refine wpAny_ready (rs:=[5,10]) (by kernel_rfl) (by simp) ?_
     refine AllReady.cons (o:=⟨some 64,_,_,_,_,_⟩) rfl (fun K hK0=>?_) (AllReady.cons (o:=⟨some 69,_,_,_,_,_⟩) rfl (fun K hK0=>?_) AllReady.nil)
     all_goals
      have hK:=hide hK0
      clear hK0
      go_simp
      refine hK.1 _ _ ?_
      clear hK K
      try simp only [aP]
     ·refine tk 6 (some 65) ?vu25 rfl ?yu25 ?ru25
      case yu25=>(intro w;go_simp;try with_reducible rfl)
      try simp only [aP]
      refine wpAny_ready (rs:=[10]) (by kernel_rfl) (by simp) ?_
      refine AllReady.cons (o:=⟨some 69,_,_,_,_,_⟩) rfl (fun K hK0=>?_) AllReady.nil
      have hK:=hide hK0
      clear hK0
      go_simp
      refine hK.1 _ _ ?_
      clear hK K
      try simp only [aP]
      refine wpAny_ready (rs:=[11]) (by kernel_rfl) (by simp) ?_
      refine AllReady.cons (o:=⟨some 70,_,_,_,_,_⟩) rfl (fun K hK0=>?_) AllReady.nil
      have hK:=hide hK0
      clear hK0
      go_simp
      refine (CC.1 _ ?_).mono ?_
      exact (HS.1.below (Below.refl _ _).drew).1
      have HS:=hide (HS.1.below (Below.refl _ _).drew)
      rintro e w5 hG
      obtain ⟨u0,u1,u2,u3,u4,u5,u6,s,L,ln,lc,K5,kn,kc,b,c,p,st',nv',rfl,hL⟩:=hG.form
      have hk5:=Left.blk HS.1.1 hL (HKP.1.below HS.1.2 HKP.1.lt) (by decide) (by omega)
      have hf5:=Left.blk HS.1.1 hL (HKF.1.below HS.1.2 HKF.1.lt) (by decide) (by omega)
      obtain ⟨⟨y0,y1,y2,y3,y4,y5,y6,y7,y8,y9,y10⟩,z0,z1,z2,z3,z4,z5,z6,z7,z8,z9,z10⟩:=cells11 hk5
      obtain ⟨⟨u20,u21⟩,v20,v21⟩:=cells2 hf5
      have HBW:=hide (HB.1.trans (HS.1.2.mono HB.1.size))
      have hWs:w.heap.size+2≤_:=Nat.le_trans hXs HS.1.2.size
      have HK5:=hide hk5
      have HF5:=hide hf5
      have HG:=hide hG
      clear hk5 hf5 hL hG CC HS
      go_simp
      refine hK.1 _ _ ?_
      clear hK K
      try simp only [aP]
      refine tk 12 (some 71) ?vu26 rfl ?yu26 ?ru26
      case yu26=>(intro w;go_simp;try with_reducible rfl)
      try simp only [aP]
      refine tk 13 (some 72) ?vu27 rfl ?yu27 ?ru27
      case yu27=>(intro w;go_simp;try with_reducible rfl)
      try simp only [aP]
      refine tk 14 (some 73) ?vu28 rfl ?yu28 ?ru28
      case yu28=>(intro w;go_simp;try with_reducible rfl)
      try simp only [aP]
      refine wpAny_ready (rs:=[15]) (by kernel_rfl) (by simp) ?_
      refine AllReady.cons (o:=⟨none,_,_,_,_,_⟩) rfl (fun K hK0=>?_) AllReady.nil
      have hK:=hide hK0
      clear hK0
      go_simp
      refine hK.1 _ _ ?_
      clear hK K
      try simp only [aP]
      refine wpAny_ready (rs:=[16]) (by kernel_rfl) (by simp) ?_
      refine AllReady.cons (o:=⟨some 3,_,_,_,_,_⟩) rfl (fun K hK0=>?_) AllReady.nil
      have hK:=hide hK0
      clear hK0
      go_simp
      refine hK.1 _ _ ?_
      clear hK K
      try simp only [aP]
      refine wpAny_ready (rs:=[17]) (by kernel_rfl) (by simp) ?_
      refine AllReady.cons (o:=⟨none,_,_,_,_,_⟩) rfl (fun K hK0=>?_) AllReady.nil
      have hK:=hide hK0
      clear hK0
      go_simp
      refine hK.1 _ _ ?_
      clear hK K
      try simp only [aP]
      refine wpAny_done (by kernel_rfl) ?_ _
      go_wp2_with fail
      (try simp only [Exit.inBlock,Exit.then])
      have hq:=blk13 HK5.1 HF5.1 (by omega) rfl rfl
      exact bodyPost_ret (rctc rfl w.heap.size (w.heap.size+1) (.bool b) rfl rfl rfl (hq _ _ _ _ _ _ _ _ _ _ _ _ _)) rfl (GiveA.on HBW.1 HG.1 HK5.1 HF5.1 hlt (Nat.le_refl _) (by omega) (by omega) (by omega) (by omega) _ _ _ _ _ _ _ _ _ _ _ _ _)
     ·refine wpAny_ready (rs:=[5]) (by kernel_rfl) (by simp) ?_
      refine AllReady.cons (o:=⟨some 64,_,_,_,_,_⟩) rfl (fun K hK0=>?_) AllReady.nil
      have hK:=hide hK0
      clear hK0
      go_simp
      refine hK.1 _ _ ?_
      clear hK K
      try simp only [aP]
      refine tk 6 (some 65) ?vu29 rfl ?yu29 ?ru29
      case yu29=>(intro w;go_simp;try with_reducible rfl)
      try simp only [aP]
      refine wpAny_ready (rs:=[11]) (by kernel_rfl) (by simp) ?_
      refine AllReady.cons (o:=⟨some 70,_,_,_,_,_⟩) rfl (fun K hK0=>?_) AllReady.nil
      have hK:=hide hK0
      clear hK0
      go_simp
      refine (CC.1 _ ?_).mono ?_
      exact (HS.1.below (Below.refl _ _).drew).1
      have HS:=hide (HS.1.below (Below.refl _ _).drew)
      rintro e w5 hG
      obtain ⟨u0,u1,u2,u3,u4,u5,u6,s,L,ln,lc,K5,kn,kc,b,c,p,st',nv',rfl,hL⟩:=hG.form
      have hk5:=Left.blk HS.1.1 hL (HKP.1.below HS.1.2 HKP.1.lt) (by decide) (by omega)
      have hf5:=Left.blk HS.1.1 hL (HKF.1.below HS.1.2 HKF.1.lt) (by decide) (by omega)
      obtain ⟨⟨y0,y1,y2,y3,y4,y5,y6,y7,y8,y9,y10⟩,z0,z1,z2,z3,z4,z5,z6,z7,z8,z9,z10⟩:=cells11 hk5
      obtain ⟨⟨u20,u21⟩,v20,v21⟩:=cells2 hf5
      have HBW:=hide (HB.1.trans (HS.1.2.mono HB.1.size))
      have hWs:w.heap.size+2≤_:=Nat.le_trans hXs HS.1.2.size
      have HK5:=hide hk5
      have HF5:=hide hf5
      have HG:=hide hG
      clear hk5 hf5 hL hG CC HS
      go_simp
      refine hK.1 _ _ ?_
      clear hK K
      try simp only [aP]
      refine tk 12 (some 71) ?vu30 rfl ?yu30 ?ru30
      case yu30=>(intro w;go_simp;try with_reducible rfl)
      try simp only [aP]
      refine tk 13 (some 72) ?vu31 rfl ?yu31 ?ru31
      case yu31=>(intro w;go_simp;try with_reducible rfl)
      try simp only [aP]
      refine tk 14 (some 73) ?vu32 rfl ?yu32 ?ru32
      case yu32=>(intro w;go_simp;try with_reducible rfl)
      try simp only [aP]
      refine wpAny_ready (rs:=[15]) (by kernel_rfl) (by simp) ?_
      refine AllReady.cons (o:=⟨none,_,_,_,_,_⟩) rfl (fun K hK0=>?_) AllReady.nil
      have hK:=hide hK0
      clear hK0
      go_simp
      refine hK.1 _ _ ?_
      clear hK K
      try simp only [aP]
      refine wpAny_ready (rs:=[16]) (by kernel_rfl) (by simp) ?_
      refine AllReady.cons (o:=⟨some 3,_,_,_,_,_⟩) rfl (fun K hK0=>?_) AllReady.nil
      have hK:=hide hK0
      clear hK0
      go_simp
      refine hK.1 _ _ ?_
      clear hK K
      try simp only [aP]
      refine wpAny_ready (rs:=[17]) (by kernel_rfl) (by simp) ?_
      refine AllReady.cons (o:=⟨none,_,_,_,_,_⟩) rfl (fun K hK0=>?_) AllReady.nil
      have hK:=hide hK0
      clear hK0
      go_simp
      refine hK.1 _ _ ?_
      clear hK K
      try simp only [aP]
      refine wpAny_done (by kernel_rfl) ?_ _
      go_wp2_with fail
      (try simp only [Exit.inBlock,Exit.then])
      have hq:=blk13 HK5.1 HF5.1 (by omega) rfl rfl
      exact bodyPost_ret (rctc rfl w.heap.size (w.heap.size+1) (.bool b) rfl rfl rfl (hq _ _ _ _ _ _ _ _ _ _ _ _ _)) rfl (GiveA.on HBW.1 HG.1 HK5.1 HF5.1 hlt (Nat.le_refl _) (by omega) (by omega) (by omega) (by omega) _ _ _ _ _ _ _ _ _ _ _ _ _)
    | false=>
     rw [f3] at C
     refine (C.1 _ HS.1).mono ?_
     rintro e w13 ⟨rfl,hb⟩
     have HS:=hide (HS.1.below hb)
     clear hb C
     clear A3
     go_wp2_with fail
     have C:=hide (fun W (hr:RB bs A cap w0 rb nest st nv X W)=>stands_any hr.1 [40,63,61] (by decide) (by decide))
     cases f4:stB bs st.pos [40,63,61] with
     | true=>
      rw [f4] at C
      refine (C.1 _ HS.1).mono ?_
      rintro e w14 ⟨rfl,hb⟩
      have HS:=hide (HS.1.below hb)
      clear hb C
      have CC:=hide (A4.1 f0 f1 f2 f3 f4)
      clear A4 A5 A6 A7 A8 A9 f0 f1 f2 f3 f4
      have r1:=HS.1.1.c1
      have r2:=HS.1.1.c2
      have r3:=HS.1.1.c3
      have r4:=HS.1.1.c4
      have r5:=HS.1.1.c5
      go_wp2_with fail
      refine (CC.1 _ HS.1.1).mono ?_
      rintro e w5 hG
      obtain ⟨u0,u1,u2,u3,u4,u5,u6,s,L,ln,lc,K,kn,kc,b,c,p,st',nv',rfl,hL⟩:=hG.form
      have hk5:=Left.blk HS.1.1 hL (HKP.1.below HS.1.2 HKP.1.lt) (by decide) (by omega)
      have hf5:=Left.blk HS.1.1 hL (HKF.1.below HS.1.2 HKF.1.lt) (by decide) (by omega)
      obtain ⟨⟨y0,y1,y2,y3,y4,y5,y6,y7,y8,y9,y10⟩,z0,z1,z2,z3,z4,z5,z6,z7,z8,z9,z10⟩:=cells11 hk5
      obtain ⟨⟨u20,u21⟩,v20,v21⟩:=cells2 hf5
      have HBW:=hide (HB.1.trans (HS.1.2.mono HB.1.size))
      have hWs:w.heap.size+2≤_:=Nat.le_trans hXs HS.1.2.size
      have HK5:=hide hk5
      have HF5:=hide hf5
      have HG:=hide hG
      clear hk5 hf5 hL hG CC HS
      go_wp2_with fail
      (try simp only [Exit.inBlock,Exit.then])
      have hq:=blk13 HK5.1 HF5.1 (by omega) rfl rfl
      exact bodyPost_ret (rctc rfl w.heap.size (w.heap.size+1) (.bool b) rfl rfl rfl (hq _ _ _ _ _ _ _ _ _ _ _ _ _)) rfl (GiveA.on HBW.1 HG.1 HK5.1 HF5.1 hlt (Nat.le_refl _) (by omega) (by omega) (by omega) (by omega) _ _ _ _ _ _ _ _ _ _ _ _ _)
     | false=>
      rw [f4] at C
      refine (C.1 _ HS.1).mono ?_
      rintro e w14 ⟨rfl,hb⟩
      have HS:=hide (HS.1.below hb)
      clear hb C
      clear A4
      go_wp2_with fail
      have C:=hide (fun W (hr:RB bs A cap w0 rb nest st nv X W)=>stands_any hr.1 [40,63,33] (by decide) (by decide))
      cases f5:stB bs st.pos [40,63,33] with
      | true=>
       rw [f5] at C
       refine (C.1 _ HS.1).mono ?_
       rintro e w15 ⟨rfl,hb⟩
       have HS:=hide (HS.1.below hb)
       clear hb C
       have CC:=hide (A5.1 f0 f1 f2 f3 f4 f5)
       clear A5 A6 A7 A8 A9 f0 f1 f2 f3 f4 f5
       have r1:=HS.1.1.c1
       have r2:=HS.1.1.c2
       have r3:=HS.1.1.c3
       have r4:=HS.1.1.c4
       have r5:=HS.1.1.c5
       go_wp2_with fail
       refine (CC.1 _ HS.1.1).mono ?_
       rintro e w5 hG
       obtain ⟨u0,u1,u2,u3,u4,u5,u6,s,L,ln,lc,K,kn,kc,b,c,p,st',nv',rfl,hL⟩:=hG.form
       have hk5:=Left.blk HS.1.1 hL (HKP.1.below HS.1.2 HKP.1.lt) (by decide) (by omega)
       have hf5:=Left.blk HS.1.1 hL (HKF.1.below HS.1.2 HKF.1.lt) (by decide) (by omega)
       obtain ⟨⟨y0,y1,y2,y3,y4,y5,y6,y7,y8,y9,y10⟩,z0,z1,z2,z3,z4,z5,z6,z7,z8,z9,z10⟩:=cells11 hk5
       obtain ⟨⟨u20,u21⟩,v20,v21⟩:=cells2 hf5
       have HBW:=hide (HB.1.trans (HS.1.2.mono HB.1.size))
       have hWs:w.heap.size+2≤_:=Nat.le_trans hXs HS.1.2.size
       have HK5:=hide hk5
       have HF5:=hide hf5
       have HG:=hide hG
       clear hk5 hf5 hL hG CC HS
       go_wp2_with fail
       (try simp only [Exit.inBlock,Exit.then])
       have hq:=blk13 HK5.1 HF5.1 (by omega) rfl rfl
       exact bodyPost_ret (rctc rfl w.heap.size (w.heap.size+1) (.bool b) rfl rfl rfl (hq _ _ _ _ _ _ _ _ _ _ _ _ _)) rfl (GiveA.on HBW.1 HG.1 HK5.1 HF5.1 hlt (Nat.le_refl _) (by omega) (by omega) (by omega) (by omega) _ _ _ _ _ _ _ _ _ _ _ _ _)
      | false=>
       rw [f5] at C
       refine (C.1 _ HS.1).mono ?_
       rintro e w15 ⟨rfl,hb⟩
       have HS:=hide (HS.1.below hb)
       clear hb C
       clear A5
       go_wp2_with fail
       have C:=hide (fun W (hr:RB bs A cap w0 rb nest st nv X W)=>stands_any hr.1 [40,63,60,61] (by decide) (by decide))
       cases f6:stB bs st.pos [40,63,60,61] with
       | true=>
        rw [f6] at C
        refine (C.1 _ HS.1).mono ?_
        rintro e w16 ⟨rfl,hb⟩
        have HS:=hide (HS.1.below hb)
        clear hb C
        have CC:=hide (A6.1 f0 f1 f2 f3 f4 f5 f6)
        clear A6 A7 A8 A9 f0 f1 f2 f3 f4 f5 f6
        have r1:=HS.1.1.c1
        have r2:=HS.1.1.c2
        have r3:=HS.1.1.c3
        have r4:=HS.1.1.c4
        have r5:=HS.1.1.c5
        go_wp2_with fail
        refine (CC.1 _ HS.1.1).mono ?_
        rintro e w5 hG
        obtain ⟨u0,u1,u2,u3,u4,u5,u6,s,L,ln,lc,K,kn,kc,b,c,p,st',nv',rfl,hL⟩:=hG.form
        have hk5:=Left.blk HS.1.1 hL (HKP.1.below HS.1.2 HKP.1.lt) (by decide) (by omega)
        have hf5:=Left.blk HS.1.1 hL (HKF.1.below HS.1.2 HKF.1.lt) (by decide) (by omega)
        obtain ⟨⟨y0,y1,y2,y3,y4,y5,y6,y7,y8,y9,y10⟩,z0,z1,z2,z3,z4,z5,z6,z7,z8,z9,z10⟩:=cells11 hk5
        obtain ⟨⟨u20,u21⟩,v20,v21⟩:=cells2 hf5
        have HBW:=hide (HB.1.trans (HS.1.2.mono HB.1.size))
        have hWs:w.heap.size+2≤_:=Nat.le_trans hXs HS.1.2.size
        have HK5:=hide hk5
        have HF5:=hide hf5
        have HG:=hide hG
        clear hk5 hf5 hL hG CC HS
        go_wp2_with fail
        (try simp only [Exit.inBlock,Exit.then])
        have hq:=blk13 HK5.1 HF5.1 (by omega) rfl rfl
        exact bodyPost_ret (rctc rfl w.heap.size (w.heap.size+1) (.bool b) rfl rfl rfl (hq _ _ _ _ _ _ _ _ _ _ _ _ _)) rfl (GiveA.on HBW.1 HG.1 HK5.1 HF5.1 hlt (Nat.le_refl _) (by omega) (by omega) (by omega) (by omega) _ _ _ _ _ _ _ _ _ _ _ _ _)
       | false=>
        rw [f6] at C
        refine (C.1 _ HS.1).mono ?_
        rintro e w16 ⟨rfl,hb⟩
        have HS:=hide (HS.1.below hb)
        clear hb C
        clear A6
        go_wp2_with fail
        have C:=hide (fun W (hr:RB bs A cap w0 rb nest st nv X W)=>stands_any hr.1 [40,63,60,33] (by decide) (by decide))
        cases f7:stB bs st.pos [40,63,60,33] with
        | true=>
         rw [f7] at C
         refine (C.1 _ HS.1).mono ?_
         rintro e w17 ⟨rfl,hb⟩
         have HS:=hide (HS.1.below hb)
         clear hb C
         have CC:=hide (A7.1 f0 f1 f2 f3 f4 f5 f6 f7)
         clear A7 A8 A9 f0 f1 f2 f3 f4 f5 f6 f7
         have r1:=HS.1.1.c1
         have r2:=HS.1.1.c2
         have r3:=HS.1.1.c3
         have r4:=HS.1.1.c4
         have r5:=HS.1.1.c5
         go_wp2_with fail
         refine (CC.1 _ HS.1.1).mono ?_
         rintro e w5 hG
         obtain ⟨u0,u1,u2,u3,u4,u5,u6,s,L,ln,lc,K,kn,kc,b,c,p,st',nv',rfl,hL⟩:=hG.form
         have hk5:=Left.blk HS.1.1 hL (HKP.1.below HS.1.2 HKP.1.lt) (by decide) (by omega)
         have hf5:=Left.blk HS.1.1 hL (HKF.1.below HS.1.2 HKF.1.lt) (by decide) (by omega)
         obtain ⟨⟨y0,y1,y2,y3,y4,y5,y6,y7,y8,y9,y10⟩,z0,z1,z2,z3,z4,z5,z6,z7,z8,z9,z10⟩:=cells11 hk5
         obtain ⟨⟨u20,u21⟩,v20,v21⟩:=cells2 hf5
         have HBW:=hide (HB.1.trans (HS.1.2.mono HB.1.size))
         have hWs:w.heap.size+2≤_:=Nat.le_trans hXs HS.1.2.size
         have HK5:=hide hk5
         have HF5:=hide hf5
         have HG:=hide hG
         clear hk5 hf5 hL hG CC HS
         go_wp2_with fail
         (try simp only [Exit.inBlock,Exit.then])
         have hq:=blk13 HK5.1 HF5.1 (by omega) rfl rfl
         exact bodyPost_ret (rctc rfl w.heap.size (w.heap.size+1) (.bool b) rfl rfl rfl (hq _ _ _ _ _ _ _ _ _ _ _ _ _)) rfl (GiveA.on HBW.1 HG.1 HK5.1 HF5.1 hlt (Nat.le_refl _) (by omega) (by omega) (by omega) (by omega) _ _ _ _ _ _ _ _ _ _ _ _ _)
        | false=>
         rw [f7] at C
         refine (C.1 _ HS.1).mono ?_
         rintro e w17 ⟨rfl,hb⟩
         have HS:=hide (HS.1.below hb)
         clear hb C
         clear A7
         go_wp2_with fail
         have C:=hide (fun W (hr:RB bs A cap w0 rb nest st nv X W)=>stands_any hr.1 [40,63,60] (by decide) (by decide))
         cases f8:stB bs st.pos [40,63,60] with
         | true=>
          rw [f8] at C
          refine (C.1 _ HS.1).mono ?_
          rintro e w18 ⟨rfl,hb⟩
          have HS:=hide (HS.1.below hb)
          clear hb C
          have CC:=hide (A8.1 f0 f1 f2 f3 f4 f5 f6 f7 f8)
          clear A8 A9 f0 f1 f2 f3 f4 f5 f6 f7 f8
          have r1:=HS.1.1.c1
          have r2:=HS.1.1.c2
          have r3:=HS.1.1.c3
          have r4:=HS.1.1.c4
          have r5:=HS.1.1.c5
          go_wp2_with fail
          refine (CC.1 _ HS.1.1).mono ?_
          rintro e w5 hG
          obtain ⟨u0,u1,u2,u3,u4,u5,u6,s,L,ln,lc,K,kn,kc,b,c,p,st',nv',rfl,hL⟩:=hG.form
          have hk5:=Left.blk HS.1.1 hL (HKP.1.below HS.1.2 HKP.1.lt) (by decide) (by omega)
          have hf5:=Left.blk HS.1.1 hL (HKF.1.below HS.1.2 HKF.1.lt) (by decide) (by omega)
          obtain ⟨⟨y0,y1,y2,y3,y4,y5,y6,y7,y8,y9,y10⟩,z0,z1,z2,z3,z4,z5,z6,z7,z8,z9,z10⟩:=cells11 hk5
          obtain ⟨⟨u20,u21⟩,v20,v21⟩:=cells2 hf5
          have HBW:=hide (HB.1.trans (HS.1.2.mono HB.1.size))
          have hWs:w.heap.size+2≤_:=Nat.le_trans hXs HS.1.2.size
          have HK5:=hide hk5
          have HF5:=hide hf5
          have HG:=hide hG
          clear hk5 hf5 hL hG CC HS
          go_wp2_with fail
          (try simp only [Exit.inBlock,Exit.then])
          have hq:=blk13 HK5.1 HF5.1 (by omega) rfl rfl
          exact bodyPost_ret (rctc rfl w.heap.size (w.heap.size+1) (.bool b) rfl rfl rfl (hq _ _ _ _ _ _ _ _ _ _ _ _ _)) rfl (GiveA.on HBW.1 HG.1 HK5.1 HF5.1 hlt (Nat.le_refl _) (by omega) (by omega) (by omega) (by omega) _ _ _ _ _ _ _ _ _ _ _ _ _)
         | false=>
          rw [f8] at C
          refine (C.1 _ HS.1).mono ?_
          rintro e w18 ⟨rfl,hb⟩
          have HS:=hide (HS.1.below hb)
          clear hb C
          clear A8
          have CC:=hide (A9.1 f0 f1 f2 f3 f4 f5 f6 f7 f8)
          clear A9 f0 f1 f2 f3 f4 f5 f6 f7 f8
          have r1:=HS.1.1.c1
          have r2:=HS.1.1.c2
          have r3:=HS.1.1.c3
          have r4:=HS.1.1.c4
          have r5:=HS.1.1.c5
          go_wp2_with fail
          refine (CC.1 _ HS.1.1).mono ?_
          rintro e w5 hG
          obtain ⟨u0,u1,u2,u3,u4,u5,u6,s,L,ln,lc,K,kn,kc,b,c,p,st',nv',rfl,hL⟩:=hG.form
          have hk5:=Left.blk HS.1.1 hL (HKP.1.below HS.1.2 HKP.1.lt) (by decide) (by omega)
          have hf5:=Left.blk HS.1.1 hL (HKF.1.below HS.1.2 HKF.1.lt) (by decide) (by omega)
          obtain ⟨⟨y0,y1,y2,y3,y4,y5,y6,y7,y8,y9,y10⟩,z0,z1,z2,z3,z4,z5,z6,z7,z8,z9,z10⟩:=cells11 hk5
          obtain ⟨⟨u20,u21⟩,v20,v21⟩:=cells2 hf5
          have HBW:=hide (HB.1.trans (HS.1.2.mono HB.1.size))
          have hWs:w.heap.size+2≤_:=Nat.le_trans hXs HS.1.2.size
          have HK5:=hide hk5
          have HF5:=hide hf5
          have HG:=hide hG
          clear hk5 hf5 hL hG CC HS
          go_wp2_with fail
          (try simp only [Exit.inBlock,Exit.then])
          have hq:=blk13 HK5.1 HF5.1 (by omega) rfl rfl
          exact bodyPost_ret (rctc rfl w.heap.size (w.heap.size+1) (.bool b) rfl rfl rfl (hq _ _ _ _ _ _ _ _ _ _ _ _ _)) rfl (GiveA.on HBW.1 HG.1 HK5.1 HF5.1 hlt (Nat.le_refl _) (by omega) (by omega) (by omega) (by omega) _ _ _ _ _ _ _ _ _ _ _ _ _)
end Go.Proofs.YtmlbklcmblofkaaGreatDoor.Pa
