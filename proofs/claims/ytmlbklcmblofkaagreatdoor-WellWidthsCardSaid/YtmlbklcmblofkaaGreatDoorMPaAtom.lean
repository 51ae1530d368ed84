/-
  The reader's atom, walked, an arm a theorem.
-/
import Derived.Test.YtmlbklcmblofkaaGreatDoorMPaQu
import Derived.Test.YtmlbklcmblofkaaGreatDoorMPaParen
set_option linter.unusedSimpArgs false
set_option linter.unusedVariables false
set_option maxHeartbeats 8000000
set_option maxRecDepth 100000
namespace Go.Proofs.YtmlbklcmblofkaaGreatDoor.Pa
open Go.RowKit Mem
open Sy (g)
open Sc (Lies)
open Rs (R)
attribute [local go_sem] build_pz build_fl build_f0
theorem atom_any {bs:List UInt8} {A:Option Addr} {cap:Nat} {w0:World} {rb nest:Nat} {st:St} {nv:Value} {w:World} (h:Rd bs A cap w0 rb nest st nv w) (hlt1:st.pos<bs.length) (inner:Option (St→Res Pt))
  (CP:∀ W,Rd bs A cap w0 rb nest st nv W→Calls Tryz.prog 52 #[Value.pointer (some ⟨rb,0,none⟩)] W (GiveA bs A cap w0 rb nest nv W (parenP bs inner st))) :
  Calls Tryz.prog 44 #[Value.pointer (some ⟨rb,0,none⟩)] w (GiveA bs A cap w0 rb nest nv w (atomP bs inner st)):=by
 obtain ⟨b,off,rfl,-,-⟩:=h.pvW.cell hlt1
 obtain ⟨R,hR⟩:∃ R,atomP bs inner st=R:=⟨_,rfl⟩
 rw [hR]
 unfold atomP at hR
 have HRR:=hide hR
 have CP:=hide CP
 obtain ⟨hbb,HS,HKP,HKF,-⟩:=pro h
 have HB:=hide hbb
 have HNO:=hide (fun (n:Nat) (e:g bs st.pos=n) (hn:[91,92,94,36,46].contains n=true)=>h.pv.no hlt1 e hn)
 have HW:=hide h
 have hlt:=h.blk.lt
 have habv:=h.above
 have hbyte:∀ W,RB bs (some ⟨b,off,none⟩) cap w0 rb nest st nv ((w.alloc (.cells pz 78)).alloc (.cells fz 80)) W→W.cell? ⟨b,off+st.pos,none⟩=some (.int .u8 (g bs st.pos:Int)):=fun W hr=>by
  obtain ⟨b',off',e,_,hcell⟩:=hr.1.pvW.cell hlt1
  injection e with e
  injection e with e1 e2
  subst e1;subst e2
  exact hcell st.pos hlt1
 have HBY:=hide hbyte
 have hi0:(0:Int)≤(st.pos:Int):=by omega
 have hi1:(st.pos:Int)<(bs.length:Int):=by omega
 have hi2:(st.pos:Int)≤(bs.length:Int):=by omega
 have htop:=h.top
 have hw1:IntKind.i64.wrap ((st.pos:Int)+1)=(st.pos:Int)+1:=Rs.wrap_id _ (by omega) (by omega)
 clear h hbb hbyte hR
 go_enter Tryz.func44,Tryz.ntmps44
 go_wp2_with fail
 generalize ((w.alloc (.cells pz 78)).alloc (.cells fz 80))=X at *
 have hXs:w.heap.size+2≤X.heap.size:=HKF.1.lt
 refine wp_region_noPanic ?_
 refine wp_region_held_drew (S:=(fun wx=>Hd (RB bs (some ⟨b,off,none⟩) cap w0 rb nest st nv X wx)∧wx.cell? ⟨rb,0,none⟩=some (.slice (some ⟨b,off,none⟩) bs.length cap)∧wx.cell? ⟨rb,1,none⟩=some (.int .i64 (st.pos:Int))∧wx.cell? ⟨b,off+st.pos,none⟩=some (.int .u8 (g bs st.pos:Int)))) (by kernel_rfl) (by have hx:=HS.1.below (Below.refl _ _).drew;exact ⟨hide hx,hx.1.blk.cell 0,hx.1.blk.cell 1,HBY.1 _ hx⟩) (fun hHeld=>?_)
 refine tkH 0 (some 7) ?vu1 rfl ?yu1 hHeld ?ru1
 case yu1=>(intro w hSw;(try dsimp only at hSw);go_simp;try with_reducible rfl)
 try simp only [aP]
 refine tkH 1 (some 8) ?vu2 rfl ?yu2 hHeld ?ru2
 case yu2=>(intro w hSw;(try dsimp only at hSw);go_simp;try with_reducible rfl)
 try simp only [aP]
 refine tkH 2 (some 9) ?vu3 rfl ?yu3 hHeld ?ru3
 case yu3=>(intro w hSw;(try dsimp only at hSw);go_simp;try with_reducible rfl)
 try simp only [aP]
 refine tkH 3 (some 10) ?vu4 rfl ?yu4 hHeld ?ru4
 case yu4=>(intro w hSw;(try dsimp only at hSw);go_simp;try with_reducible rfl)
 try simp only [aP]
 refine tkH 4 (some 11) ?vu5 rfl ?yu5 hHeld ?ru5
 case yu5=>(intro w hSw;(try dsimp only at hSw);go_simp;try with_reducible rfl)
 try simp only [aP]
 refine tkH 5 (some 12) ?vu6 rfl ?yu6 hHeld ?ru6
 case yu6=>(intro w hSw;(try dsimp only at hSw);go_simp;try with_reducible rfl)
 try simp only [aP]
 refine tkH 6 (some 13) ?vu7 rfl ?yu7 hHeld ?ru7
 case yu7=>(intro w hSw;(try dsimp only at hSw);go_simp;try with_reducible rfl)
 try simp only [aP]
 refine tkH 7 (some 14) ?vu8 rfl ?yu8 hHeld ?ru8
 case yu8=>(intro w hSw;(try dsimp only at hSw);go_simp;try with_reducible rfl)
 try simp only [aP]
 refine tkH 8 (some 15) ?vu9 rfl ?yu9 hHeld ?ru9
 case yu9=>(intro w hSw;(try dsimp only at hSw);go_simp;try with_reducible rfl)
 try simp only [aP]
 refine tkH 9 (some 16) ?vu10 rfl ?yu10 hHeld ?ru10
 case yu10=>(intro w hSw;(try dsimp only at hSw);go_simp;try with_reducible rfl)
 try simp only [aP]
 refine wpAnyH_done (by kernel_rfl) ?_ _
 refine NoPanic.normal ?_
 have HS:=hHeld.1
 have hbyte1:=hHeld.2.2.2
 clear hHeld
 have hR:=HRR.1
 clear HRR
 by_cases h0:g bs st.pos=40
 ·rw [if_pos h0] at hR
  subst hR
  have k0:((g bs st.pos:Int)==40)=true:=by rw [h0];rfl
  have CC:=CP
  clear h0
  clear hbyte1
  go_wp2_with fail
  refine (CC.1 _ HS.1.1).mono ?_
  rintro e w5 hG
  obtain ⟨u0,u1,u2,u3,u4,u5,u6,s,L,ln,lc,K,kn,kc,b,c,p,st',nv',rfl,hL⟩:=hG.form
  have hk5:=Left.blk HS.1.1 hL (HKP.1.below HS.1.2 HKP.1.lt) (by decide) (by omega)
  have hf5:=Left.blk HS.1.1 hL (HKF.1.below HS.1.2 HKF.1.lt) (by decide) (by omega)
  obtain ⟨⟨y0,y1,y2,y3,y4,y5,y6,y7,y8,y9,y10⟩,z0,z1,z2,z3,z4,z5,z6,z7,z8,z9,z10⟩:=cells11 hk5
  obtain ⟨⟨u20,u21⟩,v20,v21⟩:=cells2 hf5
  have HBW:=hide (HB.1.trans (HS.1.2.mono HB.1.size))
  have hWs:w.heap.size+2≤_:=Nat.le_trans hXs HS.1.2.size
  have HK5:=hide hk5
  have HF5:=hide hf5
  have HG:=hide hG
  clear hk5 hf5 hL hG CC HS
  go_wp2_with fail
  (try simp only [Exit.inBlock,Exit.then])
  have hq:=blk13 HK5.1 HF5.1 (by omega) rfl rfl
  exact bodyPost_ret (rctc rfl w.heap.size (w.heap.size+1) (.bool b) rfl rfl rfl (hq _ _ _ _ _ _ _ _ _ _ _ _ _)) rfl (GiveA.on HBW.1 HG.1 HK5.1 HF5.1 hlt (Nat.le_refl _) (by omega) (by omega) (by omega) (by omega) _ _ _ _ _ _ _ _ _ _ _ _ _)
 ·skip
  by_cases h1:g bs st.pos=91
  ·exact (HNO.1 _ h1 (by decide)).elim
  ·skip
   by_cases h2:g bs st.pos=92
   ·exact (HNO.1 _ h2 (by decide)).elim
   ·skip
    by_cases h3:g bs st.pos=94
    ·exact (HNO.1 _ h3 (by decide)).elim
    ·skip
     by_cases h4:g bs st.pos=36
     ·exact (HNO.1 _ h4 (by decide)).elim
     ·skip
      by_cases h5:g bs st.pos=46
      ·exact (HNO.1 _ h5 (by decide)).elim
      ·skip
       rw [if_neg h0] at hR
       rw [if_neg h1] at hR
       rw [if_neg h2] at hR
       rw [if_neg h3] at hR
       rw [if_neg h4] at hR
       rw [if_neg h5] at hR
       subst hR
       have k0:((g bs st.pos:Int)==40)=false:=by rw [beq_eq_false_iff_ne];omega
       have k1:((g bs st.pos:Int)==91)=false:=by rw [beq_eq_false_iff_ne];omega
       have k2:((g bs st.pos:Int)==92)=false:=by rw [beq_eq_false_iff_ne];omega
       have k3:((g bs st.pos:Int)==94)=false:=by rw [beq_eq_false_iff_ne];omega
       have k4:((g bs st.pos:Int)==36)=false:=by rw [beq_eq_false_iff_ne];omega
       have k5:((g bs st.pos:Int)==46)=false:=by rw [beq_eq_false_iff_ne];omega
       have hsn:=Sc.sym_snd (bs:=bs) (k:=st.pos) hlt1
       have hst:=Sc.sym_top bs st.pos
       have CAT:=hide (fun W (hr:Rd bs (some ⟨b,off,none⟩) cap w0 rb nest st nv W)=>Sc.at_any bs (some ⟨b,off,none⟩) cap (st.pos:Int) W hr.pvW hr.glW.tabs)
       rw [Sc.symz_nat] at CAT
       generalize (Sc.sym bs st.pos).1=y at *
       generalize (Sc.sym bs st.pos).2=n at *
       have hQ:st.pos+n≤bs.length:=hsn.2.2
       have HOF:=hide (show Rs.ofL (y:Int)=[((y:Int),(y:Int))] from Rs.mk_of_least (by
        unfold Rs.Least Rs.LeastF Rs.LeastF
        exact ⟨by show (-2:Int)<(y:Int)-1;omega,Int.le_refl _,by show (y:Int)≤1114367;omega,trivial⟩))
       have hwn:IntKind.i64.wrap ((st.pos:Int)+(n:Int))=(st.pos:Int)+(n:Int):=Rs.wrap_id _ (by have:=HW.1.top;omega) (by have:=HW.1.top;omega)
       have CSET:=hide (fun W (hr:Rd bs (some ⟨b,off,none⟩) cap w0 rb nest st nv W) L ln lc=>by have:=set_any hr none L ln lc (st.pos+n) hQ;rw [Int.natCast_add] at this;exact this)
       clear hQ hsn hst
       clear h0 h1 h2 h3 h4 h5
       clear hbyte1
       go_wp2_with fail
       refine wp_region_noPanic ?_
       refine wp_region_held_drew (S:=(fun wx=>Hd (RB bs (some ⟨b,off,none⟩) cap w0 rb nest st nv X wx)∧wx.cell? ⟨rb,0,none⟩=some (.slice (some ⟨b,off,none⟩) bs.length cap)∧wx.cell? ⟨rb,1,none⟩=some (.int .i64 (st.pos:Int)))) (by kernel_rfl) (RB.held' (HS.1.below (Below.refl _ _).drew)) (fun hHeld=>?_)
       refine tkH 0 (some 65) ?vu23 rfl ?yu23 hHeld ?ru23
       case yu23=>(intro w hSw;(try dsimp only at hSw);go_simp;try with_reducible rfl)
       try simp only [aP]
       refine tkH 1 (some 66) ?vu24 rfl ?yu24 hHeld ?ru24
       case yu24=>(intro w hSw;(try dsimp only at hSw);go_simp;try with_reducible rfl)
       try simp only [aP]
       refine tkH 2 (some 67) ?vu25 rfl ?yu25 hHeld ?ru25
       case yu25=>(intro w hSw;(try dsimp only at hSw);go_simp;try with_reducible rfl)
       try simp only [aP]
       refine tkH 3 (some 68) ?vu26 rfl ?yu26 hHeld ?ru26
       case yu26=>(intro w hSw;(try dsimp only at hSw);go_simp;try with_reducible rfl)
       try simp only [aP]
       refine tkH 4 (some 69) ?vu27 rfl ?yu27 hHeld ?ru27
       case yu27=>(intro w hSw;(try dsimp only at hSw);go_simp;try with_reducible rfl)
       try simp only [aP]
       refine tkH 5 (some 70) ?vu28 rfl ?yu28 hHeld ?ru28
       case yu28=>(intro w hSw;(try dsimp only at hSw);go_simp;try with_reducible rfl)
       try simp only [aP]
       refine tkH 6 (some 71) ?vu29 rfl ?yu29 hHeld ?ru29
       case yu29=>(intro w hSw;(try dsimp only at hSw);go_simp;try with_reducible rfl)
       try simp only [aP]
       refine tkH 7 (some 72) ?vu30 rfl ?yu30 hHeld ?ru30
       case yu30=>(intro w hSw;(try dsimp only at hSw);go_simp;try with_reducible rfl)
       try simp only [aP]
       refine wpAnyH_ready (rs:=[8]) (by kernel_rfl) (by simp) ?_
       refine AllReadyH.cons (o:=⟨some 73,_,_,_,_,_⟩) rfl (fun K hK=>?_) AllReadyH.nil
       go_simp
       have HC0:=hHeld.1
       refine (CAT.1 _ HC0.1.1).mono ?_
       rintro e w5 ⟨rfl,hb⟩
       have HC:=hide (HC0.1.below hb)
       clear hb HC0
       go_wp2_with fail
       refine hK.out _ _ (RB.held' HC.1) (fun hHeld2=>?_)
       clear hK K
       try simp only [aP]
       refine tkH 9 (some 64) ?vu31 rfl ?yu31 hHeld2 ?ru31
       case yu31=>(intro w hSw;(try dsimp only at hSw);go_simp;try with_reducible rfl)
       try simp only [aP]
       refine tkH 10 (some 74) ?vu32 rfl ?yu32 hHeld2 ?ru32
       case yu32=>(intro w hSw;(try dsimp only at hSw);go_simp;try with_reducible rfl)
       try simp only [aP]
       refine tkH 11 (some 75) ?vu33 rfl ?yu33 hHeld2 ?ru33
       case yu33=>(intro w hSw;(try dsimp only at hSw);go_simp;try with_reducible rfl)
       try simp only [aP]
       refine wpAnyH_ready (rs:=[12]) (by kernel_rfl) (by simp) ?_
       refine AllReadyH.cons (o:=⟨some 5,_,_,_,_,_⟩) rfl (fun K hK=>?_) AllReadyH.nil
       go_simp
       refine hK.out _ _ (RB.held' HC.1) (fun hHeld3=>?_)
       clear hK K
       try simp only [aP]
       refine wpAnyH_ready (rs:=[13]) (by kernel_rfl) (by simp) ?_
       refine AllReadyH.cons (o:=⟨some 6,_,_,_,_,_⟩) rfl (fun K hK=>?_) AllReadyH.nil
       go_simp
       refine hK.out _ _ (RB.held' HC.1) (fun hHeld4=>?_)
       clear hK K
       try simp only [aP]
       refine wpAnyH_done (by kernel_rfl) ?_ _
       refine NoPanic.normal ?_
       (try clear hHeld hHeld2 hHeld3 hHeld4)
       have HS:=HC
       clear HC CAT
       have x1a:=HS.1.1.c1
       go_wp2_with fail
       refine wp_region_any (by kernel_rfl) ?_
       change wpAny _ _ _ _ _ _ _ (World.drew _)
       refine tk 0 (some 76) ?vu34 rfl ?yu34 ?ru34
       case yu34=>(intro w;go_simp;try with_reducible rfl)
       try simp only [aP]
       refine tk 1 (some 77) ?vu35 rfl ?yu35 ?ru35
       case yu35=>(intro w;go_simp;try with_reducible rfl)
       try simp only [aP]
       refine tk 2 (some 78) ?vu36 rfl ?yu36 ?ru36
       case yu36=>(intro w;go_simp;try with_reducible rfl)
       try simp only [aP]
       refine tk 5 (some 81) ?vu37 rfl ?yu37 ?ru37
       case yu37=>(intro w;go_simp;try with_reducible rfl)
       try simp only [aP]
       refine tk 6 (some 82) ?vu38 rfl ?yu38 ?ru38
       case yu38=>(intro w;go_simp;try with_reducible rfl)
       try simp only [aP]
       refine tk 7 (some 83) ?vu39 rfl ?yu39 ?ru39
       case yu39=>(intro w;go_simp;try with_reducible rfl)
       try simp only [aP]
       refine tk 9 (some 85) ?vu40 rfl ?yu40 ?ru40
       case yu40=>(intro w;go_simp;try with_reducible rfl)
       try simp only [aP]
       refine tk 12 (some 88) ?vu41 rfl ?yu41 ?ru41
       case yu41=>(intro w;go_simp;try with_reducible rfl)
       try simp only [aP]
       refine wpAny_ready (rs:=[3,8]) (by kernel_rfl) (by simp) ?_
       refine AllReady.cons (o:=⟨some 79,_,_,_,_,_⟩) rfl (fun K hK0=>?_) (AllReady.cons (o:=⟨some 84,_,_,_,_,_⟩) rfl (fun K hK0=>?_) AllReady.nil)
       ·have hK:=hide hK0
        clear hK0
        go_simp
        refine (Rs.of_any (y:Int) _).mono ?_
        rintro e w6 ⟨v6,rfl,hcut⟩
        obtain ⟨hl6,hb6⟩:=Lies.of (Cl.cut_gives' hcut)
        rw [HOF.1] at hl6
        have HS6:=hide ((HS.1.below (Below.refl _ _).drew).below hb6)
        have hd5:w5.drew.heap.size=w5.heap.size:=rfl
        have h5X:=HS.1.2.size
        have h56:=hb6.size
        have Hl6:=hide (hl6.mono (Nat.le_refl _))
        have x1b:=HS6.1.1.c1
        clear hcut hl6 hb6
        go_simp
        refine hK.1 _ _ ?_
        clear hK K
        try simp only [aP]
        refine wpAny_ready (rs:=[4,8]) (by kernel_rfl) (by simp) ?_
        refine AllReady.cons (o:=⟨some 80,_,_,_,_,_⟩) rfl (fun K hK0=>?_) (AllReady.cons (o:=⟨some 84,_,_,_,_,_⟩) rfl (fun K hK0=>?_) AllReady.nil)
        ·have hK:=hide hK0
         clear hK0
         go_simp
         refine (cased_any HS6.1.1 _ w5.drew.heap.size v6 Hl6.1 (by omega) (by simp)).mono ?_
         rintro e w7 ⟨v7,rfl,hL7,hb7⟩
         obtain ⟨L7,lc7,rfl,hs7⟩:=SetV.of_lies hL7
         have HS7:=hide (HS6.1.below hb7)
         have hW7:=hb7.size
         have x1c:=HS7.1.1.c1
         clear hL7 hb7
         go_simp
         refine hK.1 _ _ ?_
         clear hK K
         try simp only [aP]
         refine wpAny_ready (rs:=[8]) (by kernel_rfl) (by simp) ?_
         refine AllReady.cons (o:=⟨some 84,_,_,_,_,_⟩) rfl (fun K hK0=>?_) AllReady.nil
         have hK:=hide hK0
         clear hK0
         go_simp
         refine hK.1 _ _ ?_
         clear hK K
         try simp only [aP]
         refine tk 10 (some 86) ?vu42 rfl ?yu42 ?ru42
         case yu42=>(intro w;go_simp;try with_reducible rfl)
         try simp only [aP]
         refine wpAny_ready (rs:=[11]) (by kernel_rfl) (by simp) ?_
         refine AllReady.cons (o:=⟨some 87,_,_,_,_,_⟩) rfl (fun K hK0=>?_) AllReady.nil
         have hK:=hide hK0
         clear hK0
         go_simp
         refine (CSET.1 _ HS7.1.1 L7 _ lc7).mono ?_
         rintro e w8 ⟨rfl,hr8,ht8⟩
         have HK8:=hide (Turn.blk ht8 (HKP.1.below HS7.1.2 HKP.1.lt) (by omega))
         have HF8:=hide (Turn.blk ht8 (HKF.1.below HS7.1.2 HKF.1.lt) (by omega))
         obtain ⟨⟨y0,y1,y2,y3,y4,y5,y6,y7,y8,y9,y10⟩,z0,z1,z2,z3,z4,z5,z6,z7,z8,z9,z10⟩:=cells11 HK8.1
         obtain ⟨⟨u20,u21⟩,v20,v21⟩:=cells2 HF8.1
         have HL8:=hide (Left.then (Left.of_below HW.1 (HB.1.trans (HS7.1.2.mono HB.1.size))) (Left.of_turn hr8 ht8))
         have HP8:=hide (show PtV (Ok (w.heap.size+2) nv) w8 ⟨{ nd0 with kind:=2,set:=casedP st.fl [((y:Int),(y:Int))],from_:=(st.pos:Int),to_:=(st.pos:Int)+(n:Int) },.nil⟩ _ from ⟨L7,lc7,none,0,rfl,hs7.keep ht8.size fun k hk hP=>⟨ht8.block k hk (by omega) (by simp),by omega,HW.1.nv_lt (by omega)⟩,KV.nil _ _⟩)
         clear hr8 ht8
         go_simp
         refine hK.1 _ _ ?_
         clear hK K
         try simp only [aP]
         refine wpAny_ready (rs:=[13]) (by kernel_rfl) (by simp) ?_
         refine AllReady.cons (o:=⟨none,_,_,_,_,_⟩) rfl (fun K hK0=>?_) AllReady.nil
         have hK:=hide hK0
         clear hK0
         go_simp
         refine hK.1 _ _ ?_
         clear hK K
         try simp only [aP]
         refine wpAny_ready (rs:=[14]) (by kernel_rfl) (by simp) ?_
         refine AllReady.cons (o:=⟨some 3,_,_,_,_,_⟩) rfl (fun K hK0=>?_) AllReady.nil
         have hK:=hide hK0
         clear hK0
         go_simp
         refine hK.1 _ _ ?_
         clear hK K
         try simp only [aP]
         refine wpAny_ready (rs:=[15]) (by kernel_rfl) (by simp) ?_
         refine AllReady.cons (o:=⟨none,_,_,_,_,_⟩) rfl (fun K hK0=>?_) AllReady.nil
         have hK:=hide hK0
         clear hK0
         go_simp
         refine hK.1 _ _ ?_
         clear hK K
         try simp only [aP]
         refine wpAny_done (by kernel_rfl) ?_ _
         go_wp2_with fail
         (try simp only [Exit.inBlock,Exit.then])
         have hq:=blk13 HK8.1 HF8.1 (by omega) rfl rfl
         exact bodyPost_ret (rctc rfl w.heap.size (w.heap.size+1) _ rfl rfl rfl (hq _ _ _ _ _ _ _ _ _ _ _ _ _)) rfl ⟨_,nv,rfl,(HP8.1.set13 (by omega) (by omega) _ _ _ _ _ _ _ _ _ _ _ _ _).lower (by omega),HL8.1.set13 HK8.1 HF8.1 hlt (Nat.le_refl _) (by omega) (by omega) _ _ _ _ _ _ _ _ _ _ _ _ _⟩
        ·have hK:=hide hK0
         clear hK0
         go_simp
         refine hK.1 _ _ ?_
         clear hK K
         try simp only [aP]
         refine tk 10 (some 86) ?vu43 rfl ?yu43 ?ru43
         case yu43=>(intro w;go_simp;try with_reducible rfl)
         try simp only [aP]
         refine wpAny_ready (rs:=[4]) (by kernel_rfl) (by simp) ?_
         refine AllReady.cons (o:=⟨some 80,_,_,_,_,_⟩) rfl (fun K hK0=>?_) AllReady.nil
         have hK:=hide hK0
         clear hK0
         go_simp
         refine (cased_any HS6.1.1 _ w5.drew.heap.size v6 Hl6.1 (by omega) (by simp)).mono ?_
         rintro e w7 ⟨v7,rfl,hL7,hb7⟩
         obtain ⟨L7,lc7,rfl,hs7⟩:=SetV.of_lies hL7
         have HS7:=hide (HS6.1.below hb7)
         have hW7:=hb7.size
         have x1c:=HS7.1.1.c1
         clear hL7 hb7
         go_simp
         refine hK.1 _ _ ?_
         clear hK K
         try simp only [aP]
         refine wpAny_ready (rs:=[11]) (by kernel_rfl) (by simp) ?_
         refine AllReady.cons (o:=⟨some 87,_,_,_,_,_⟩) rfl (fun K hK0=>?_) AllReady.nil
         have hK:=hide hK0
         clear hK0
         go_simp
         refine (CSET.1 _ HS7.1.1 L7 _ lc7).mono ?_
         rintro e w8 ⟨rfl,hr8,ht8⟩
         have HK8:=hide (Turn.blk ht8 (HKP.1.below HS7.1.2 HKP.1.lt) (by omega))
         have HF8:=hide (Turn.blk ht8 (HKF.1.below HS7.1.2 HKF.1.lt) (by omega))
         obtain ⟨⟨y0,y1,y2,y3,y4,y5,y6,y7,y8,y9,y10⟩,z0,z1,z2,z3,z4,z5,z6,z7,z8,z9,z10⟩:=cells11 HK8.1
         obtain ⟨⟨u20,u21⟩,v20,v21⟩:=cells2 HF8.1
         have HL8:=hide (Left.then (Left.of_below HW.1 (HB.1.trans (HS7.1.2.mono HB.1.size))) (Left.of_turn hr8 ht8))
         have HP8:=hide (show PtV (Ok (w.heap.size+2) nv) w8 ⟨{ nd0 with kind:=2,set:=casedP st.fl [((y:Int),(y:Int))],from_:=(st.pos:Int),to_:=(st.pos:Int)+(n:Int) },.nil⟩ _ from ⟨L7,lc7,none,0,rfl,hs7.keep ht8.size fun k hk hP=>⟨ht8.block k hk (by omega) (by simp),by omega,HW.1.nv_lt (by omega)⟩,KV.nil _ _⟩)
         clear hr8 ht8
         go_simp
         refine hK.1 _ _ ?_
         clear hK K
         try simp only [aP]
         refine wpAny_ready (rs:=[13]) (by kernel_rfl) (by simp) ?_
         refine AllReady.cons (o:=⟨none,_,_,_,_,_⟩) rfl (fun K hK0=>?_) AllReady.nil
         have hK:=hide hK0
         clear hK0
         go_simp
         refine hK.1 _ _ ?_
         clear hK K
         try simp only [aP]
         refine wpAny_ready (rs:=[14]) (by kernel_rfl) (by simp) ?_
         refine AllReady.cons (o:=⟨some 3,_,_,_,_,_⟩) rfl (fun K hK0=>?_) AllReady.nil
         have hK:=hide hK0
         clear hK0
         go_simp
         refine hK.1 _ _ ?_
         clear hK K
         try simp only [aP]
         refine wpAny_ready (rs:=[15]) (by kernel_rfl) (by simp) ?_
         refine AllReady.cons (o:=⟨none,_,_,_,_,_⟩) rfl (fun K hK0=>?_) AllReady.nil
         have hK:=hide hK0
         clear hK0
         go_simp
         refine hK.1 _ _ ?_
         clear hK K
         try simp only [aP]
         refine wpAny_done (by kernel_rfl) ?_ _
         go_wp2_with fail
         (try simp only [Exit.inBlock,Exit.then])
         have hq:=blk13 HK8.1 HF8.1 (by omega) rfl rfl
         exact bodyPost_ret (rctc rfl w.heap.size (w.heap.size+1) _ rfl rfl rfl (hq _ _ _ _ _ _ _ _ _ _ _ _ _)) rfl ⟨_,nv,rfl,(HP8.1.set13 (by omega) (by omega) _ _ _ _ _ _ _ _ _ _ _ _ _).lower (by omega),HL8.1.set13 HK8.1 HF8.1 hlt (Nat.le_refl _) (by omega) (by omega) _ _ _ _ _ _ _ _ _ _ _ _ _⟩
       ·have hK:=hide hK0
        clear hK0
        go_simp
        refine hK.1 _ _ ?_
        clear hK K
        try simp only [aP]
        refine tk 10 (some 86) ?vu44 rfl ?yu44 ?ru44
        case yu44=>(intro w;go_simp;try with_reducible rfl)
        try simp only [aP]
        refine wpAny_ready (rs:=[3]) (by kernel_rfl) (by simp) ?_
        refine AllReady.cons (o:=⟨some 79,_,_,_,_,_⟩) rfl (fun K hK0=>?_) AllReady.nil
        have hK:=hide hK0
        clear hK0
        go_simp
        refine (Rs.of_any (y:Int) _).mono ?_
        rintro e w6 ⟨v6,rfl,hcut⟩
        obtain ⟨hl6,hb6⟩:=Lies.of (Cl.cut_gives' hcut)
        rw [HOF.1] at hl6
        have HS6:=hide ((HS.1.below (Below.refl _ _).drew).below hb6)
        have hd5:w5.drew.heap.size=w5.heap.size:=rfl
        have h5X:=HS.1.2.size
        have h56:=hb6.size
        have Hl6:=hide (hl6.mono (Nat.le_refl _))
        have x1b:=HS6.1.1.c1
        clear hcut hl6 hb6
        go_simp
        refine hK.1 _ _ ?_
        clear hK K
        try simp only [aP]
        refine wpAny_ready (rs:=[4]) (by kernel_rfl) (by simp) ?_
        refine AllReady.cons (o:=⟨some 80,_,_,_,_,_⟩) rfl (fun K hK0=>?_) AllReady.nil
        have hK:=hide hK0
        clear hK0
        go_simp
        refine (cased_any HS6.1.1 _ w5.drew.heap.size v6 Hl6.1 (by omega) (by simp)).mono ?_
        rintro e w7 ⟨v7,rfl,hL7,hb7⟩
        obtain ⟨L7,lc7,rfl,hs7⟩:=SetV.of_lies hL7
        have HS7:=hide (HS6.1.below hb7)
        have hW7:=hb7.size
        have x1c:=HS7.1.1.c1
        clear hL7 hb7
        go_simp
        refine hK.1 _ _ ?_
        clear hK K
        try simp only [aP]
        refine wpAny_ready (rs:=[11]) (by kernel_rfl) (by simp) ?_
        refine AllReady.cons (o:=⟨some 87,_,_,_,_,_⟩) rfl (fun K hK0=>?_) AllReady.nil
        have hK:=hide hK0
        clear hK0
        go_simp
        refine (CSET.1 _ HS7.1.1 L7 _ lc7).mono ?_
        rintro e w8 ⟨rfl,hr8,ht8⟩
        have HK8:=hide (Turn.blk ht8 (HKP.1.below HS7.1.2 HKP.1.lt) (by omega))
        have HF8:=hide (Turn.blk ht8 (HKF.1.below HS7.1.2 HKF.1.lt) (by omega))
        obtain ⟨⟨y0,y1,y2,y3,y4,y5,y6,y7,y8,y9,y10⟩,z0,z1,z2,z3,z4,z5,z6,z7,z8,z9,z10⟩:=cells11 HK8.1
        obtain ⟨⟨u20,u21⟩,v20,v21⟩:=cells2 HF8.1
        have HL8:=hide (Left.then (Left.of_below HW.1 (HB.1.trans (HS7.1.2.mono HB.1.size))) (Left.of_turn hr8 ht8))
        have HP8:=hide (show PtV (Ok (w.heap.size+2) nv) w8 ⟨{ nd0 with kind:=2,set:=casedP st.fl [((y:Int),(y:Int))],from_:=(st.pos:Int),to_:=(st.pos:Int)+(n:Int) },.nil⟩ _ from ⟨L7,lc7,none,0,rfl,hs7.keep ht8.size fun k hk hP=>⟨ht8.block k hk (by omega) (by simp),by omega,HW.1.nv_lt (by omega)⟩,KV.nil _ _⟩)
        clear hr8 ht8
        go_simp
        refine hK.1 _ _ ?_
        clear hK K
        try simp only [aP]
        refine wpAny_ready (rs:=[13]) (by kernel_rfl) (by simp) ?_
        refine AllReady.cons (o:=⟨none,_,_,_,_,_⟩) rfl (fun K hK0=>?_) AllReady.nil
        have hK:=hide hK0
        clear hK0
        go_simp
        refine hK.1 _ _ ?_
        clear hK K
        try simp only [aP]
        refine wpAny_ready (rs:=[14]) (by kernel_rfl) (by simp) ?_
        refine AllReady.cons (o:=⟨some 3,_,_,_,_,_⟩) rfl (fun K hK0=>?_) AllReady.nil
        have hK:=hide hK0
        clear hK0
        go_simp
        refine hK.1 _ _ ?_
        clear hK K
        try simp only [aP]
        refine wpAny_ready (rs:=[15]) (by kernel_rfl) (by simp) ?_
        refine AllReady.cons (o:=⟨none,_,_,_,_,_⟩) rfl (fun K hK0=>?_) AllReady.nil
        have hK:=hide hK0
        clear hK0
        go_simp
        refine hK.1 _ _ ?_
        clear hK K
        try simp only [aP]
        refine wpAny_done (by kernel_rfl) ?_ _
        go_wp2_with fail
        (try simp only [Exit.inBlock,Exit.then])
        have hq:=blk13 HK8.1 HF8.1 (by omega) rfl rfl
        exact bodyPost_ret (rctc rfl w.heap.size (w.heap.size+1) _ rfl rfl rfl (hq _ _ _ _ _ _ _ _ _ _ _ _ _)) rfl ⟨_,nv,rfl,(HP8.1.set13 (by omega) (by omega) _ _ _ _ _ _ _ _ _ _ _ _ _).lower (by omega),HL8.1.set13 HK8.1 HF8.1 hlt (Nat.le_refl _) (by omega) (by omega) _ _ _ _ _ _ _ _ _ _ _ _ _⟩
end Go.Proofs.YtmlbklcmblofkaaGreatDoor.Pa
