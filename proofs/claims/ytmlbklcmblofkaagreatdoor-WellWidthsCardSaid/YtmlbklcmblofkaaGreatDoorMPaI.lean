/-
  The reader's piece, put together.
-/
import Derived.Test.YtmlbklcmblofkaaGreatDoorMPaG
import Derived.Test.YtmlbklcmblofkaaGreatDoorMPaAtom
set_option linter.unusedSimpArgs false
set_option linter.unusedVariables false
set_option maxHeartbeats 8000000
set_option maxRecDepth 100000
namespace Go.Proofs.YtmlbklcmblofkaaGreatDoor.Pa
open Go.RowKit Mem
open Sy (g)
attribute [local go_sem] build_pz build_fl build_f0
theorem paren_deep {bs:List UInt8} {A:Option Addr} {cap:Nat} {w0:World} {rb nest:Nat} {st:St} {nv:Value} {w:World} (h:Rd bs A cap w0 rb nest st nv w) (hd:nest=100) :
  Calls Tryz.prog 52 #[Value.pointer (some ⟨rb,0,none⟩)] w (GiveA bs A cap w0 rb nest nv w (.error (39,st.pos))):=by
 obtain ⟨hbb,HS,HKP,HKF,HB,HW,hlt,habv⟩:=pro h
 have hn1:((nest:Int)==100)=true:=by rw [hd];rfl
 have q6:=(h.below hbb).c6
 clear h hbb hd
 go_enter Tryz.func52,Tryz.ntmps52
 go_wp2_with fail
 generalize ((w.alloc (.cells pz 78)).alloc (.cells fz 80))=X at *
 have hXs:w.heap.size+2≤X.heap.size:=HKF.1.lt
 have HLX:=hide (Left.of_below HW.1 HB.1)
 have m1:X.cell? ⟨rb,1,none⟩=some (.int .i64 (st.pos:Int)):=(HS.1.1).blk.cell 1
 have n1:=((far11 (HS.1.1).blk (show rb≠w.heap.size by omega) (.int .i64 0) (.int .i64 0) (.int .i64 0) (.int .i64 0) (.int .i64 0) (.int .i64 0) (.int .i64 0) (.string ⟨#[]⟩) (.slice none 0 0) (.slice none 0 0) (.slice none 0 0)).cell 1).trans (show _=some (Value.int .i64 (st.pos:Int)) from rfl)
 obtain ⟨⟨y0,y1,y2,y3,y4,y5,y6,y7,y8,y9,y10⟩,z0,z1,z2,z3,z4,z5,z6,z7,z8,z9,z10⟩:=cells11 HKP.1
 obtain ⟨⟨u20,u21⟩,v20,v21⟩:=cells2 HKF.1
 obtain ⟨⟨p20,p21⟩,q20,q21⟩:=cells2 (far11 HKF.1 (show w.heap.size+1≠w.heap.size by omega) (.int .i64 0) (.int .i64 0) (.int .i64 0) (.int .i64 0) (.int .i64 0) (.int .i64 0) (.int .i64 0) (.string ⟨#[]⟩) (.slice none 0 0) (.slice none 0 0) (.slice none 0 0))
 go_region
 all_goals
  go_wp2_with fail
  (try simp only [Exit.inBlock,Exit.then])
  have hq:=blk13 HKP.1 HKF.1 (by omega) rfl rfl
  exact bodyPost_ret (rctc rfl w.heap.size (w.heap.size+1) (.bool false) rfl rfl rfl ⟨(hq _ _ _ _ _ _ _ _ _ _ _ _ _).1.drew,(hq _ _ _ _ _ _ _ _ _ _ _ _ _).2.drew⟩) rfl ⟨by decide,rfl,st,nv,((HLX.1.set13 HKP.1 HKF.1 hlt (Nat.le_refl _) (by omega) (by omega) _ _ _ _ _ _ _ _ _ _ _ _ _).below (Below.refl _ _).drew)⟩
theorem stB_at (bs:List UInt8) (k:Nat) (q:List UInt8) (b:Bool) (hq:∀ c∈q,c.toNat≠0) (h:stA bs k (q.map (·.toNat))=b):stB bs k q=b:=(stB_is q bs k hq).trans h
theorem paren_any {bs:List UInt8} {A:Option Addr} {cap:Nat} {w0:World} {rb nest:Nat} {st:St} {nv:Value} {w:World} (h:Rd bs A cap w0 rb nest st nv w) (hp:st.pos<bs.length) (inner:Option (St→Res Pt)) (hin:(nest=100∧inner=none)∨(nest<100∧∃ i,inner=some i))
  (CI:∀ i,inner=some i→∀ (s1:St) W nv1,Rd bs A cap w0 rb (nest+1) s1 nv1 W→Calls Tryz.prog 32 #[Value.pointer (some ⟨rb,0,none⟩)] W (GiveP bs A cap w0 rb (nest+1) nv1 W (i s1))) :
  Calls Tryz.prog 52 #[Value.pointer (some ⟨rb,0,none⟩)] w (GiveA bs A cap w0 rb nest nv w (parenP bs inner st)):=by
 rcases hin with ⟨hd,rfl⟩|⟨hlt,i,rfl⟩
 ·exact paren_deep h hd
 ·have CI:=CI i rfl
  have hd:nest≠100:=by omega
  have CW:∀ (s1:St) (kk nn:Int) (s:List UInt8) (fr:Nat) (fl:Fl) W nv1,fr≤bs.length→Rd bs A cap w0 rb nest s1 nv1 W→Calls Tryz.prog 67 #[Value.pointer (some ⟨rb,0,none⟩),ndV kk nn s,.int .i64 (fr:Int),flV fl] W (GiveA bs A cap w0 rb nest nv1 W (withinP bs i { nd0 with kind:=kk,num:=nn,name:=s } fr fl s1)):=fun s1 kk nn s fr fl W nv1 hfr hr=>within_any hr hlt kk nn s fr hfr fl i fun W2 nv2 hr2=>CI _ W2 nv2 hr2
  have CG:∀ (name:List UInt8) (fr:Nat) W,fr≤bs.length→Rd bs A cap w0 rb nest st nv W→Calls Tryz.prog 65 #[Value.pointer (some ⟨rb,0,none⟩),.string ⟨name.toArray⟩,.int .i64 (fr:Int)] W (GiveA bs A cap w0 rb nest nv W (groupP bs i name fr st)):=fun name fr W hfr hr=>by
   unfold groupP
   by_cases hm:99<st.names.length
   ·rw [if_pos hm];exact group_many hr name fr hm
   ·rw [if_neg hm];exact group_ok hr name fr (by omega) _ fun W2 nv2 hr2=>CW { st with names:=st.names++[name] } 7 (st.names.length:Int) name fr st.fl W2 nv2 hfr hr2
  have hl:∀ q:List Nat,(∀ c∈q,0<c)→0<q.length→stA bs st.pos q=true→st.pos+q.length≤bs.length:=fun q h1 h2 h3=>stA_len q st.pos h1 h2 h3
  have fb:∀ (q:List UInt8) (b:Bool),(∀ c∈q,c.toNat≠0)→stA bs st.pos (q.map (·.toNat))=b→stB bs st.pos q=b:=fun q b h1 h2=>stB_at bs st.pos q b h1 h2
  have bk:∀ (q:List UInt8) (b:Bool),(∀ c∈q,c.toNat≠0)→stB bs st.pos q=b→stA bs st.pos (q.map (·.toNat))=b:=fun q b h1 h2=>(stB_is q bs st.pos h1).symm.trans h2
  have lb:stB bs st.pos [40,63]=true→g bs st.pos=40∧g bs (st.pos+1)=63∧g bs (st.pos+1+1)=60∧g bs (st.pos+1+1+1)=61:=fun e=>by
   have t0:stA bs st.pos [40,63]=true:=bk [40,63] true (by decide) e
   have h1:g bs st.pos=40:=by
    unfold stA at t0
    simp only [Bool.and_eq_true,decide_eq_true_eq] at t0
    exact t0.1
   exact ⟨h1,h.pv.lb hp h1⟩
  have no6:stB bs st.pos [40,63]=true→stB bs st.pos [40,63,60,61]=false→False:=fun e f=>by
   obtain ⟨a0,a1,a2,a3⟩:=lb e
   have t6:stA bs st.pos [40,63,60,61]=false:=bk [40,63,60,61] false (by decide) f
   have:stA bs st.pos [40,63,60,61]=true:=by simp only [stA,a0,a1,a2,a3]<;>rfl
   rw [this] at t6
   cases t6
  have noc:∀ c:Nat,c≠60→stB bs st.pos [40,63]=true→stA bs st.pos [40,63,c]=true→False:=fun c hc e f=>by
   obtain ⟨a0,a1,a2,a3⟩:=lb e
   unfold stA stA stA at f
   simp only [Bool.and_eq_true,decide_eq_true_eq] at f
   have:=f.2.2.1
   omega
  refine paren_walk h hd _ ?_ ?_ ?_ ?_ ?_ ?_ ?_ ?_ ?_ ?_
  ·intro f0 W hr
   have t0:stA bs st.pos [40,63]=false:=bk [40,63] false (by decide) f0
   unfold parenP
   simp only []
   rw [if_pos t0]
   exact CG [] (st.pos+1) W hp hr
  ·intro f0 f1 W hr
   exact (noc 35 (by decide) f0 (bk [40,63,35] true (by decide) f1)).elim
  ·intro f0 f1 f2 W hr
   exact (noc 58 (by decide) f0 (bk [40,63,58] true (by decide) f2)).elim
  ·intro f0 f1 f2 f3 W hr
   exact (noc 62 (by decide) f0 (bk [40,63,62] true (by decide) f3)).elim
  ·intro f0 f1 f2 f3 f4 W hr
   exact (noc 61 (by decide) f0 (bk [40,63,61] true (by decide) f4)).elim
  ·intro f0 f1 f2 f3 f4 f5 W hr
   exact (noc 33 (by decide) f0 (bk [40,63,33] true (by decide) f5)).elim
  ·intro f0 f1 f2 f3 f4 f5 f6 W hr
   have t0:stA bs st.pos [40,63]=true:=bk [40,63] true (by decide) f0
   have t1:stA bs st.pos [40,63,35]=false:=bk [40,63,35] false (by decide) f1
   have t2:stA bs st.pos [40,63,58]=false:=bk [40,63,58] false (by decide) f2
   have t3:stA bs st.pos [40,63,62]=false:=bk [40,63,62] false (by decide) f3
   have t4:stA bs st.pos [40,63,61]=false:=bk [40,63,61] false (by decide) f4
   have t5:stA bs st.pos [40,63,33]=false:=bk [40,63,33] false (by decide) f5
   have t6:stA bs st.pos [40,63,60,61]=true:=bk [40,63,60,61] true (by decide) f6
   have l0:=hl [40,63] (by decide) (by decide) t0
   simp only [List.length_cons,List.length_nil] at l0
   have l1:=hl [40,63,60,61] (by decide) (by decide) t6
   simp only [List.length_cons,List.length_nil] at l1
   unfold parenP
   simp only []
   rw [if_neg (by rw [t0];simp),if_neg (by rw [t1];simp),if_neg (by rw [t2];simp),if_neg (by rw [t3];simp),if_neg (by rw [t4];simp),if_neg (by rw [t5];simp),if_pos t6]
   exact look_any hr _ 3 (st.pos+4) fun W2 hr2=>CW st 10 3 [] (st.pos+4) st.fl W2 nv (by omega) hr2
  ·intro f0 f1 f2 f3 f4 f5 f6 f7 W hr
   exact (no6 f0 f6).elim
  ·intro f0 f1 f2 f3 f4 f5 f6 f7 f8 W hr
   exact (no6 f0 f6).elim
  ·intro f0 f1 f2 f3 f4 f5 f6 f7 f8 W hr
   exact (no6 f0 f6).elim
end Go.Proofs.YtmlbklcmblofkaaGreatDoor.Pa
set_option autoImplicit false
namespace Go.Proofs.YtmlbklcmblofkaaGreatDoor.Pa
open Go Go.Proofs Sc
theorem piece_any {bs:List UInt8} {A:Option Addr} {cap:Nat} {w0:World} {rb nest:Nat} {st:St} {nv:Value} {w:World} (h:Rd bs A cap w0 rb nest st nv w) (hlt1:st.pos<bs.length) (inner:Option (St→Res Pt)) (hin:(nest=100∧inner=none)∨(nest<100∧∃ i,inner=some i))
  (CI:∀ i,inner=some i→∀ (s1:St) W nv1,Rd bs A cap w0 rb (nest+1) s1 nv1 W→Calls Tryz.prog 32 #[Value.pointer (some ⟨rb,0,none⟩)] W (GiveP bs A cap w0 rb (nest+1) nv1 W (i s1))) :
  Calls Tryz.prog 39 #[Value.pointer (some ⟨rb,0,none⟩)] w (GiveP bs A cap w0 rb nest nv w (pieceP bs inner st)):=by
 have CA:∀ W,Rd bs A cap w0 rb nest st nv W→Calls Tryz.prog 44 #[Value.pointer (some ⟨rb,0,none⟩)] W (GiveA bs A cap w0 rb nest nv W (atomP bs inner st)):=fun W hr=>atom_any hr hlt1 inner fun W2 hr2=>paren_any hr2 hlt1 inner hin CI
 unfold pieceP
 by_cases hE:(cntP bs st.pos).e≠0
 ·rw [if_pos hE];exact piece_err h hE
 ·have hE:(cntP bs st.pos).e=0:=by omega
  rw [if_neg (by omega)]
  cases hI:(cntP bs st.pos).is with
  | true=>rw [if_pos rfl];exact piece_rep h hE hI
  | false=>
   rw [if_neg (by decide)]
   cases hx:atomP bs inner st with
   | error e=>exact piece_bad h hE hI _ e.1 e.2 hx CA
   | ok t=>
    obtain ⟨⟨x,may⟩,st2⟩:=t
    cases may with
    | false=>exact piece_leaf h hE hI _ x st2 hx CA
    | true=>exact piece_quant h hE hI _ x st2 hx (quantP bs x st.pos st2) (fun W nv1 v hr hp hs=>quant_any hr (w.heap.size+2) hs (by have:=h.blk.lt;omega) x v hp st.pos) CA
end Go.Proofs.YtmlbklcmblofkaaGreatDoor.Pa
