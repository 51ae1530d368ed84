/-
  The anchor of clewlaw09, walked: true.
-/
import Derived.Test.YtmlbklcmblofkaaGreatDoorMWeC
import Derived.Test.YtmlbklcmblofkaaGreatDoorMPaK
set_option linter.unusedSimpArgs false
set_option linter.unusedVariables false
set_option maxHeartbeats 8000000
set_option maxRecDepth 100000
namespace Go.Proofs.YtmlbklcmblofkaaGreatDoor.We
section
open Go.RowKit Mem As
open Pa (parse_any parseP cells3)
open Sc (Gl)
variable {W:World}
theorem build_tn (w:World):Sem.run Tryz.prog (Instr.build 25 #[]) w=.ok (.agg #[.slice none 0 0,.int .i64 0,.slice none 0 0]) w:=run_build w 25 _ _ (by kernel_rfl)
attribute [local go_sem] build_tn
def OfG (bs:List UInt8) (w:World) (e:Ending) (w':World):Prop:=Below w.heap.size w w'∧match parseP bs with
 | .error (c,pl)=>c≠0∧e=.returned (.tuple #[.agg #[.slice none 0 0,.int .i64 0,.slice none 0 0],.int .i64 (c:Int),.int .i64 (pl:Int)])
 | .ok t=>((checkT t).1=0∧∃ v,e=.returned (.tuple #[v,.int .i64 0,.int .i64 0])∧TreeV w' w'.heap.size t v) ∨
  ((checkT t).1≠0∧e=.returned (.tuple #[.agg #[.slice none 0 0,.int .i64 0,.slice none 0 0],.int .i64 (checkT t).1,.int .i64 (checkT t).2]))
theorem set3 {g t:Nat} {a b c:Value} (h:Blk W g t #[a,b,c]) (x y z:Value):Blk (((W.setCell ⟨g,0,none⟩ x).setCell ⟨g,1,none⟩ y).setCell ⟨g,2,none⟩ z) g t #[x,y,z]:=((h.set_ 0 x).set_ 1 y).set_ 2 z
theorem bel3 {w:World} (h:Below w.heap.size w W) {g:Nat} (hg:w.heap.size≤g) (x y z:Value):Below w.heap.size w (((W.setCell ⟨g,0,none⟩ x).setCell ⟨g,1,none⟩ y).setCell ⟨g,2,none⟩ z):=((h.setCell (p:=⟨g,0,none⟩) hg x).setCell (p:=⟨g,1,none⟩) hg y).setCell (p:=⟨g,2,none⟩) hg z
theorem keep3 {g:Nat} (x y z:Value):∀ p:Addr,p.block≠g→(((W.setCell ⟨g,0,none⟩ x).setCell ⟨g,1,none⟩ y).setCell ⟨g,2,none⟩ z).cell? p=W.cell? p:=fun p hp=>World.cell?_of_block (w:=W) (a:=p) ((Below.heap_setCell _ ⟨g,2,none⟩ _ _ hp).trans ((Below.heap_setCell _ ⟨g,1,none⟩ _ _ hp).trans (Below.heap_setCell _ ⟨g,0,none⟩ _ _ hp)))
theorem tree_off {W':World} {B g:Nat} {t:Tr} {v:Value} (hg:Blk W g 25 #[.slice none 0 0,.int .i64 0,.slice none 0 0]) (h:TreeV W B t v) (hy:∀ nd∈t.nodes,∀ y∈nd.kids,y≠0) (hk:∀ p:Addr,p.block≠g→W'.cell? p=W.cell? p):TreeV W' B t v:=by
 obtain ⟨a,c,rfl,⟨A,cap,rfl,h1,h2,h3⟩,⟨An,cn,rfl,h4,h5,h6⟩⟩:=h
 refine ⟨_,_,rfl,⟨A,cap,rfl,h1,h2,fun hn=>?_⟩,⟨An,cn,rfl,h4,h5,fun hn=>?_⟩⟩
 ·obtain ⟨b,off,e,hb,hc⟩:=h3 hn
  have hbg:b≠g:=fun e=>by
   subst e
   have h7:W.cell? ⟨b,off+0*10+7,none⟩=some (str t.nodes[0].name):=(hc 0 t.nodes[0] (List.getElem?_eq_getElem hn)).2.2.2.2.2.2.2.1
   rw [hg.cell] at h7
   simp at h7
  refine ⟨b,off,e,hb,fun k nd hnd=>?_⟩
  obtain ⟨c0,c1,c2,c3,c4,c5,c6,c7,⟨v8,c8,S,cs,rfl,s1,s2,s3⟩,v9,c9,K,ck,rfl,q1,q2,q3⟩:=hc k nd hnd
  have up:∀ o u,W.cell? ⟨b,o,none⟩=some u→W'.cell? ⟨b,o,none⟩=some u:=fun o u h=>(hk ⟨b,o,none⟩ hbg).trans h
  refine ⟨up _ _ c0,up _ _ c1,up _ _ c2,up _ _ c3,up _ _ c4,up _ _ c5,up _ _ c6,up _ _ c7,⟨_,up _ _ c8,S,cs,rfl,s1,s2,fun hl=>?_⟩,_,up _ _ c9,K,ck,rfl,q1,q2,q3.1,fun hl=>?_⟩
  ·obtain ⟨b2,o2,e2,hb2,hc2⟩:=s3 hl
   have hne:b2≠g:=fun e=>by
    subst e
    obtain ⟨x0,x1⟩:=hc2 0 _ (List.getElem?_eq_getElem hl)
    rw [hg.cell] at x0 x1
    rcases o2 with _|_|_|o2<;>simp at x0 x1
   exact ⟨b2,o2,e2,hb2,fun k r hr=>⟨(hk ⟨b2,_,none⟩ hne).trans (hc2 k r hr).1,(hk ⟨b2,_,none⟩ hne).trans (hc2 k r hr).2⟩⟩
  ·obtain ⟨b2,o2,e2,hb2,hc2⟩:=kidsAt q3 hl
   have hne:b2≠g:=fun e=>by
    subst e
    have x0:=hc2 0 _ (List.getElem?_eq_getElem hl)
    rw [hg.cell] at x0
    have:=hy nd (List.mem_of_getElem? hnd) _ (List.getElem_mem hl)
    rcases o2 with _|_|_|o2<;>simp at x0
    exact this x0.symm
   refine ⟨_,e2,hb2,fun j u hu=>?_⟩
   rw [List.getElem?_map,Option.map_eq_some_iff] at hu
   obtain ⟨y,h1,rfl⟩:=hu
   rw [add_flat]
   exact (hk ⟨b2,_,none⟩ hne).trans (hc2 j y h1)
 ·obtain ⟨b,off,e,hb,hc⟩:=h6 hn
  have hbg:b≠g:=fun e=>by
   subst e
   have x0:=hc 0 _ (List.getElem?_eq_getElem hn)
   rw [hg.cell] at x0
   rcases off with _|_|_|off<;>simp at x0
  exact ⟨b,off,e,hb,fun k s hs=>(hk ⟨b,_,none⟩ hbg).trans (hc k s hs)⟩
theorem all_of (bs:List UInt8) (A:Option Addr) (cap:Nat) (w:World) (hP:Pa.PVS bs A cap w) (hG:Gl w) (hT:∀ t,parseP bs=.ok t→NdsOk t.nodes∧0<t.nodes.length∧∀ nd∈t.nodes,∀ y∈nd.kids,y≠0):Calls Tryz.prog 13 #[.slice A bs.length cap] w (OfG bs w):=by
 have hb0:Below w.heap.size w (w.alloc (.cells #[.slice none 0 0,.int .i64 0,.slice none 0 0] 25)):=(Below.refl _ w).alloc (Nat.le_refl _) _
 have CP:=hide (parse_any bs A cap _ (hP.below hb0) (hG.below hb0))
 have HRI:=hide hT
 clear hT
 have HK0:=hide (Blk.new w 25 #[.slice none 0 0,.int .i64 0,.slice none 0 0])
 have HB0:=hide hb0
 clear hP hG hb0
 go_enter Tryz.func13,Tryz.ntmps13
 go_wp2_with fail
 refine CP.1.mono ?_
 rintro e w2 ⟨hB2,h⟩
 have hb2:=HB0.1.trans (hB2.mono HB0.1.size)
 have hk2:=HK0.1.below hB2 HK0.1.lt
 have hk2l:=hk2.lt
 clear CP HB0
 cases hr:parseP bs with
 | error er=>
  obtain ⟨c,pl⟩:=er
  rw [hr] at h
  obtain ⟨hc,rfl⟩:=h
  have e0:((c:Int) != 0)=true:=by rw [bne_iff_ne];omega
  have HB3:=hide (hb2.alloc hb2.size (.cells #[.slice none 0 0,.int .i64 0,.slice none 0 0] 25))
  have hk3:=hk2.alloc (.cells #[.slice none 0 0,.int .i64 0,.slice none 0 0] 25)
  obtain ⟨⟨a0,a1,a2⟩,f0,f1,f2⟩:=cells3 hk3
  have HK3:=hide hk3
  have HC:=hide hc
  have HPR:=hide hr
  clear hr hc HRI hb2 hk2 hk3 hB2 HK0
  go_upto_region 2 with fail
  generalize w2.alloc (.cells #[.slice none 0 0,.int .i64 0,.slice none 0 0] 25)=X at *
  go_wp2_with fail
  (try simp only [Exit.inBlock,Exit.then])
  exact bodyPost_ret (Sc.results_cell3 rfl _ _ w.heap.size #[.slice none 0 0,.int .i64 0,.slice none 0 0] _ (.int .i64 (c:Int)) (.int .i64 (pl:Int)) rfl rfl rfl (set3 HK3.1 _ _ _) Tryz.underlying25 rfl (by kernel_rfl)) rfl (by unfold OfG;rw [HPR.1];exact ⟨bel3 HB3.1 (Nat.le_refl _) _ _ _,HC.1,rfl⟩)
 | ok t=>
  rw [hr] at h
  obtain ⟨v,rfl,ht⟩:=h
  obtain ⟨hok,hn0,hy0⟩:=HRI.1 t hr
  obtain ⟨av,cv,hv,hnodes,hnames⟩:=ht
  subst hv
  have hb3:Below w2.heap.size w2 (w2.alloc (.cells #[av,.int .i64 t.groups,cv] 25)):=(Below.refl _ w2).alloc (Nat.le_refl _) _
  have ht:TreeV w2 w2.heap.size t (.agg #[av,.int .i64 t.groups,cv]):=⟨av,cv,rfl,hnodes,hnames⟩
  have CK:=hide (check_any t (.agg #[av,.int .i64 t.groups,cv]) w2.heap.size (w2.alloc (.cells #[av,.int .i64 t.groups,cv] 25)) hb3.size hn0 hok (ht.below hb3))
  have hk3:=hk2.alloc (.cells #[av,.int .i64 t.groups,cv] 25)
  have HT3:=hide (Blk.new w2 25 #[av,.int .i64 t.groups,cv])
  obtain ⟨⟨t0,t1,t2⟩,-⟩:=cells3 HT3.1
  have HK3:=hide hk3
  have HB3:=hide (hb2.trans (hb3.mono hb2.size))
  have HT:=hide ht
  have HPR:=hide hr
  have HB23:=hide hb3
  have HSZ:=hide hk2l
  obtain ⟨z,hz⟩:∃ z,(checkT t).1=z:=⟨_,rfl⟩
  obtain ⟨y,hy⟩:∃ y,(checkT t).2=y:=⟨_,rfl⟩
  rw [hz,hy] at CK
  have HY0:=hide hy0
  have HZ:=hide hz
  have HY:=hide hy
  obtain ⟨A4,c4,rfl,-⟩:=hnodes
  obtain ⟨A5,c5,rfl,-⟩:=hnames
  clear hz hy hr hb2 hk2 hk3 hb3 hB2 HK0 ht HRI hok hn0 hy0
  go_wp2_with fail
  refine CK.1.mono ?_
  rintro e w4 ⟨rfl,hb4⟩
  have hb5:=HB3.1.trans (hb4.mono HB3.1.size)
  have hk4:=HK3.1.below hb4 HK3.1.lt
  have hk5:=HT3.1.below hb4 HT3.1.lt
  have ht4:=HT.1.keep (w':=w4) fun p hp=>(HB23.1.trans (hb4.mono HB23.1.size)).cell hp
  have hs4:=Nat.le_trans HB23.1.size hb4.size
  obtain ⟨⟨a0,a1,a2⟩,f0,f1,f2⟩:=cells3 hk4
  obtain ⟨⟨b0,b1,b2⟩,-⟩:=cells3 hk5
  have HT4:=hide ht4
  have HK4:=hide hk4
  have HB5:=hide hb5
  have HS4:=hide hs4
  clear hb5 hk4 hk5 ht4 hb4 hs4 CK t0 t1 t2 HT HK3 HB3 HT3 HB23
  by_cases hz0:z=0
  ·have e1:(z != 0)=false:=by simp [hz0]
   have HZ0:=hide (HZ.1.trans hz0)
   clear hz0
   go_wp2_with fail
   (try simp only [Exit.inBlock,Exit.then])
   exact bodyPost_ret (Sc.results_cell3 rfl _ _ w.heap.size #[.slice A4 t.nodes.length c4,.int .i64 t.groups,.slice A5 t.names.length c5] _ (.int .i64 0) (.int .i64 0) rfl rfl rfl (set3 HK4.1 _ _ _) Tryz.underlying25 rfl (by kernel_rfl)) rfl (by
    unfold OfG
    rw [HPR.1]
    exact ⟨bel3 HB5.1 (Nat.le_refl _) _ _ _,.inl ⟨HZ0.1,_,rfl,(tree_off HK4.1 HT4.1 HY0.1 (keep3 _ _ _)).more (Nat.le_trans HS4.1 (by simp [World.setCell]))⟩⟩)
  ·have e1:(z != 0)=true:=by simp [hz0]
   have HZ0:=hide hz0
   clear hz0
   go_wp2_with fail
   (try simp only [Exit.inBlock,Exit.then])
   exact bodyPost_ret (Sc.results_cell3 rfl _ _ w.heap.size #[.slice none 0 0,.int .i64 0,.slice none 0 0] _ (.int .i64 z) (.int .i64 y) rfl rfl rfl (set3 HK4.1 _ _ _) Tryz.underlying25 rfl (by kernel_rfl)) rfl (by unfold OfG;rw [HPR.1];exact ⟨bel3 HB5.1 (Nat.le_refl _) _ _ _,.inr ⟨by rw [HZ.1];exact HZ0.1,by rw [HZ.1,HY.1]⟩⟩)
end
section
open Pa
open Sy (g)
open Sc (Ct cntP g_in)
open As (Tr)
variable {bs:List UInt8} {k c:Nat} {inner:Option (St→Res Pt)} {names:List (List UInt8)}
def lfA (c k:Nat):Pt:=⟨{ nd0 with kind:=2,set:=[((c:Int),(c:Int))],from_:=(k:Int),to_:=((k+1:Nat):Int) },.nil⟩
def noC:Ct:=⟨0,0,0,0,false,0⟩
theorem lf_atom (hg:g bs k=c) (h1:96<c) (h2:c<123):atomP bs inner ⟨k,flZ,names⟩=.ok ((lfA c k,true),⟨k+1,flZ,names⟩):=by
 have hl:k<bs.length:=g_in (by omega)
 unfold atomP
 simp only [hg]
 rw [if_neg (by omega),if_neg (by omega),if_neg (by omega),if_neg (by omega),if_neg (by omega),if_neg (by omega),Sc.sym_low hl (by omega),hg]
 rfl
theorem lf_no (hg:g bs k=c) (h1:96<c) (h2:c<123):cntP bs k=noC:=cnt_no (by omega) (by omega) (by omega) (by omega)
theorem lf_piece (hg:g bs k=c) (h1:96<c) (h2:c<123) (hc:cntP bs (k+1)=noC):pieceP bs inner ⟨k,flZ,names⟩=.ok (lfA c k,⟨k+1,flZ,names⟩):=
 piece_plain (lf_no hg h1 h2) (lf_atom hg h1 h2) rfl hc
theorem lf_quant {ct:Ct} (hg:g bs k=c) (h1:96<c) (h2:c<123) (hc:cntP bs (k+1)=ct) (he:ct.e=0) (hi:ct.is=true) (hn:cntP bs ct.«to»=noC) :
  pieceP bs inner ⟨k,flZ,names⟩=.ok (repP (lfA c k) k ct,⟨ct.«to»,flZ,names⟩):=by
 unfold pieceP
 rw [show cntP bs (St.mk k flZ names).pos=noC from lf_no hg h1 h2,if_neg (by decide),if_neg (by decide),lf_atom hg h1 h2]
 simp only []
 rw [if_pos trivial]
 unfold quantP
 rw [skip_z (bs:=bs) (st:=⟨k+1,flZ,names⟩) rfl]
 rw [show cntP bs (St.mk (k+1) flZ names).pos=ct from hc,if_neg (by simp [he]),if_neg (by simp [hi]),show ({ (⟨k+1,flZ,names⟩:St) with pos:=ct.«to» }:St)=⟨ct.«to»,flZ,names⟩ from rfl,skip_z (bs:=bs) (st:=⟨ct.«to»,flZ,names⟩) rfl]
 rw [show cntP bs (St.mk ct.«to» flZ names).pos=noC from hn,if_neg (by decide)]
theorem fwd_some {d:Nat}:∀ i,some (parN bs d)=some i→Fwd bs i:=fun i e=>by injection e with e;subst e;exact parN_fwd _ d
def exC:List UInt8:=[40,63,60,61,97,123,49,44,51,125,124,98,41]
def ctC:Ct:=⟨1,3,0,10,true,0⟩
def altC:Pt:=⟨{ nd0 with kind:=6,from_:=4,to_:=12 },(F.one (repP (lfA 97 4) 4 ctC)).app (lfA 98 11)⟩
theorem exC_cnt:cntP exC (4+1)=ctC:=by
 have d1:Sc.decF exC 6 0=(1,7):=by rw [Sc.decF_step 0 (by decide),Sc.decF_stop _ (by decide)];rfl
 have d2:Sc.decF exC 8 0=(3,9):=by rw [Sc.decF_step 0 (by decide),Sc.decF_stop _ (by decide)];rfl
 have b:Sc.bracesP exC 6=some (1,3,10):=by
  unfold Sc.bracesP
  rw [d1,show Sc.mostP exC (1,7).1 (1,7).2=(3,9) from by unfold Sc.mostP;rw [if_pos (show g exC (1,7).2=44 from rfl),show Sc.decF exC ((1,7).2+1) 0=(3,9) from d2];rfl]
  rfl
 unfold cntP Sc.countsP
 rw [if_neg (by decide),if_neg (by decide),if_neg (by decide),if_pos (by decide),show Sc.bracesP exC (4+1+1)=some (1,3,10) from b]
 rfl
theorem exC_in:parN exC 99 ⟨4,flZ,[[]]⟩=.ok (altC,⟨12,flZ,[[]]⟩):=by
 show altsP exC (some (parN exC 98)) _=_
 have h1:altP exC (some (parN exC 98)) ⟨4,flZ,[[]]⟩=.ok (repP (lfA 97 4) 4 ctC,⟨10,flZ,[[]]⟩):=by
  unfold altP
  rw [alt_step fwd_some (by decide) (show endB exC (skipP exC ⟨4,flZ,[[]]⟩).pos=false from end_not (by decide) (by decide) (by decide)) (lf_quant (c:=97) (k:=4) (ct:=ctC) rfl (by decide) (by decide) exC_cnt rfl rfl rfl),if_neg (by decide),alt_end (st:=⟨ctC.«to»,flZ,[[]]⟩) (show endB exC (skipP exC ⟨ctC.«to»,flZ,[[]]⟩).pos=true from end_yes (.inr (.inl rfl)))]
  rfl
 have h2:altP exC (some (parN exC 98)) ⟨11,flZ,[[]]⟩=.ok (lfA 98 11,⟨12,flZ,[[]]⟩):=by
  unfold altP
  rw [alt_step fwd_some (by decide) (show endB exC (skipP exC ⟨11,flZ,[[]]⟩).pos=false from end_not (by decide) (by decide) (by decide)) (lf_piece (c:=98) (k:=11) rfl (by decide) (by decide) rfl),if_neg (by decide),alt_end (show endB exC (skipP exC ⟨11+1,flZ,[[]]⟩).pos=true from end_yes (.inr (.inr rfl)))]
  rfl
 unfold altsP
 rw [h1]
 simp only []
 rw [alts_step fwd_some (st:=⟨10,flZ,[[]]⟩) rfl h2,alts_end (show stA exC (St.mk 12 flZ [[]]).pos [124]=false from rfl)]
 rfl
def trC:Pt:=⟨{ nd0 with kind:=10,num:=3,from_:=0,to_:=13 },.one altC⟩
theorem look_atom {q:Nat} {x:Pt} (h0:g bs 0=40) (hs:stA bs 0 [40,63]=true) (n1:stA bs 0 [40,63,35]=false) (n2:stA bs 0 [40,63,58]=false) (n3:stA bs 0 [40,63,62]=false) (n4:stA bs 0 [40,63,61]=false) (n5:stA bs 0 [40,63,33]=false) (y:stA bs 0 [40,63,60,61]=true)
  (h:parN bs 99 ⟨4,flZ,[[]]⟩=.ok (x,⟨q,flZ,[[]]⟩)) (hq:¬ bs.length≤q):atomP bs (some (parN bs 99)) ⟨0,flZ,[[]]⟩=.ok ((⟨{ nd0 with kind:=10,num:=3,from_:=0,to_:=(q:Int)+1 },.one x⟩,true),⟨q+1,flZ,[[]]⟩):=by
 unfold atomP
 simp only [h0]
 rw [if_pos trivial]
 unfold parenP
 simp only [hs,n1,n2,n3,n4,n5,y]
 rw [if_neg (by decide),if_neg (by decide),if_neg (by decide),if_neg (by decide),if_neg (by decide),if_neg (by decide),if_pos trivial]
 unfold lookP withinP
 rw [h]
 simp only []
 rw [if_neg hq]
 rfl
theorem one_parse {x:Pt} {q:Nat} (h:pieceP bs (some (parN bs 99)) ⟨0,flZ,[[]]⟩=.ok (x,⟨q,flZ,[[]]⟩)) (hq:q=bs.length) (hn:endB bs 0=false) (hl:bs.length≤4096) (hk:x.nd.kind≠0):parseP bs=.ok ⟨layF [[]] (.one x) 0,0,[[]]⟩:=by
 subst hq
 have hg:g bs bs.length=0:=by unfold Sy.g;rw [List.getElem?_eq_none (Nat.le_refl _)];rfl
 have h1:parN bs 100 ⟨0,flZ,[[]]⟩=.ok (x,⟨bs.length,flZ,[[]]⟩):=alts_one fwd_some rfl (Nat.zero_le _) hn h hk rfl (end_yes (.inl (Nat.le_refl _))) (by unfold stA;rw [hg];rfl)
 unfold parseP
 rw [if_neg (by omega),show (⟨0,⟨false,false,false,false⟩,[[]]⟩:St)=⟨0,flZ,[[]]⟩ from rfl,h1]
 simp only []
 rw [if_neg (by omega)]
 rfl
def tC:Tr:=⟨layF [[]] (.one trC) 0,0,[[]]⟩
theorem exC_parse:parseP exC=.ok tC:=
 one_parse (piece_plain rfl (look_atom rfl rfl rfl rfl rfl rfl rfl rfl exC_in (by decide)) rfl rfl) rfl (end_not (by decide) (by decide) (by decide)) (by decide) (by decide)
def exD:List UInt8:=[40,63,60,61,97,42,41]
def ctD:Ct:=⟨0,-1,0,6,true,0⟩
theorem exD_in:parN exD 99 ⟨4,flZ,[[]]⟩=.ok (repP (lfA 97 4) 4 ctD,⟨6,flZ,[[]]⟩):=
 alts_one fwd_some rfl (by decide) (end_not (by decide) (by decide) (by decide)) (lf_quant (c:=97) (k:=4) (ct:=ctD) rfl (by decide) (by decide) rfl rfl rfl rfl) (by decide) rfl (end_yes (.inr (.inr rfl))) rfl
def tD:Tr:=⟨layF [[]] (.one ⟨{ nd0 with kind:=10,num:=3,from_:=0,to_:=7 },.one (repP (lfA 97 4) 4 ctD)⟩) 0,0,[[]]⟩
theorem exD_parse:parseP exD=.ok tD:=
 one_parse (piece_plain rfl (look_atom rfl rfl rfl rfl rfl rfl rfl rfl exD_in (by decide)) rfl rfl) rfl (end_not (by decide) (by decide) (by decide)) (by decide) (by decide)
theorem tC_w:widthsW tC.nodes=[(0,0),(1,3),(1,3),(1,1),(1,1)]:=by decide
theorem tC_c:checkT tC=(0,0):=by decide
theorem tD_c:checkT tD=(41,0):=by decide
end
section
open Go.RowKit Mem As
open Pa (cells3 lit_pvP)
open Sc (Gl)
theorem eqw_at:EqlAt Tryz.prog 35 (fun x:Wd=>.agg (Rs.enc x).toArray) (fun x y=>x.1==y.1&&x.2==y.2):=by
 refine ⟨fun x y w=>?_,GuardAt.agg _ (by kernel_rfl)⟩
 have u3:=Tryz.underlying3
 have a3:=Tryz.isAgg3
 have z3:=Tryz.sizeOf3
 have hS:Tryz.prog.underlying 35=some (.struct (Tryz.prog.fieldsOf 35)):=by kernel_rfl
 have hp:Tryz.prog.stoodInHeld 35=false:=by kernel_rfl
 simp only [Rs.enc]
 rw [run_eql_struct,show (10000:Nat)=9999+1 from rfl,run_equalIn_agg w 9999 35 _ _ hS hp]
 simp only [Program.fieldsOf,Tryz.underlying35]
 go_simp
 by_cases h1:x.fst=y.fst<;>by_cases h2:x.snd=y.snd<;>simp [h1,h2]
theorem eql_w (a b c d:Int) (w:World):Sem.run Tryz.prog (binOp .eql 35 (.agg #[.int .i64 a,.int .i64 b]) (.agg #[.int .i64 c,.int .i64 d])) w=.ok (.bool (a==c&&b==d)) w:=eqw_at.1 (a,b) (c,d) w
theorem eqg_w (op:BinOp) (x y:Operand) (a b c d:Int) (w:World):Sem.run Tryz.prog (eqGuard op 35 x y (.agg #[.int .i64 a,.int .i64 b]) (.agg #[.int .i64 c,.int .i64 d])) w=.ok () w:=eqw_at.2 op x y (a,b) (c,d) w
attribute [local go_sem] build_w eql_w eqg_w
theorem tC_ok:NdsOk tC.nodes:=⟨by decide,by unfold RepOk;decide,by decide⟩
theorem tD_ok:NdsOk tD.nodes:=⟨by decide,by unfold RepOk;decide,by decide⟩
theorem exC_any (W:World) (hG:Gl W):Calls Tryz.prog 13 #[.slice (some ⟨W.heap.size,0,none⟩) 13 13] (W.alloc (.cells #[.int .u8 40,.int .u8 63,.int .u8 60,.int .u8 61,.int .u8 97,.int .u8 123,.int .u8 49,.int .u8 44,.int .u8 51,.int .u8 125,.int .u8 124,.int .u8 98,.int .u8 41] 5 (13,14))) fun e w'=>Below W.heap.size W w'∧∃ A4 c4 A5 c5,e=.returned (.tuple #[.agg #[.slice A4 5 c4,.int .i64 0,.slice A5 1 c5],.int .i64 0,.int .i64 0])∧TreeV w' w'.heap.size tC (.agg #[.slice A4 5 c4,.int .i64 0,.slice A5 1 c5]):=by
 refine (all_of exC _ 13 (W.alloc (.cells #[.int .u8 40,.int .u8 63,.int .u8 60,.int .u8 61,.int .u8 97,.int .u8 123,.int .u8 49,.int .u8 44,.int .u8 51,.int .u8 125,.int .u8 124,.int .u8 98,.int .u8 41] 5 (13,14))) (lit_pvP W exC #[.int .u8 40,.int .u8 63,.int .u8 60,.int .u8 61,.int .u8 97,.int .u8 123,.int .u8 49,.int .u8 44,.int .u8 51,.int .u8 125,.int .u8 124,.int .u8 98,.int .u8 41] (13,14) rfl (by decide)) (hG.below ((Below.refl _ _).alloc (Nat.le_refl _) _)) (fun t h=>by rw [exC_parse] at h;injection h with h;subst h;exact ⟨tC_ok,by decide,by decide⟩)).mono ?_
 rintro e w' ⟨hb,h⟩
 rw [exC_parse] at h
 rcases h with ⟨-,v,rfl,ht⟩|⟨hn,-⟩
 ·obtain ⟨a,c,rfl,⟨A4,c4,rfl,h1⟩,⟨A5,c5,rfl,h2⟩⟩:=ht
  exact ⟨((Below.refl _ W).alloc (Nat.le_refl _) _).trans (hb.mono (by simp)),A4,c4,A5,c5,rfl,_,_,rfl,⟨A4,c4,rfl,h1⟩,⟨A5,c5,rfl,h2⟩⟩
 ·exact absurd (congrArg Prod.fst tC_c) hn
theorem exD_any (W:World) (hG:Gl W):Calls Tryz.prog 13 #[.slice (some ⟨W.heap.size,0,none⟩) 7 7] (W.alloc (.cells #[.int .u8 40,.int .u8 63,.int .u8 60,.int .u8 61,.int .u8 97,.int .u8 42,.int .u8 41] 5 (7,8))) fun e w'=>Below W.heap.size W w'∧e=.returned (.tuple #[.agg #[.slice none 0 0,.int .i64 0,.slice none 0 0],.int .i64 41,.int .i64 0]):=by
 refine (all_of exD _ 7 (W.alloc (.cells #[.int .u8 40,.int .u8 63,.int .u8 60,.int .u8 61,.int .u8 97,.int .u8 42,.int .u8 41] 5 (7,8))) (lit_pvP W exD #[.int .u8 40,.int .u8 63,.int .u8 60,.int .u8 61,.int .u8 97,.int .u8 42,.int .u8 41] (7,8) rfl (by decide)) (hG.below ((Below.refl _ _).alloc (Nat.le_refl _) _)) (fun t h=>by rw [exD_parse] at h;injection h with h;subst h;exact ⟨tD_ok,by decide,by decide⟩)).mono ?_
 rintro e w' ⟨hb,h⟩
 rw [exD_parse] at h
 rcases h with ⟨h0,-⟩|⟨-,rfl⟩
 ·rw [tD_c] at h0
  exact absurd h0 (by decide)
 ·exact ⟨((Below.refl _ W).alloc (Nat.le_refl _) _).trans (hb.mono (by simp)),by rw [tD_c]⟩
theorem anchor_any (w:World) (hG:Gl w):Calls Tryz.prog 6 #[] w fun e w'=>e=.returned (.bool true)∧Below w.heap.size w w':=by
 have kc:=fun (w:World) (C:Array Value) (n c:Nat)=>Lib.run_convert_bytes_const (P:=Tryz.prog) w 43 5 C n c Tryz.underlying43 Tryz.underlying5
 have CE:=hide exC_any
 have CQ:=hide exD_any
 have HG:=hide hG
 clear hG
 go_enter Tryz.func6,Tryz.ntmps6
 go_wp2_with fail
 refine (CE.1 _ HG.1).mono ?_
 rintro e w1 ⟨hB1,A4,c4,A5,c5,rfl,ht⟩
 have hX1:=hB1.alloc hB1.size (.cells #[.slice A4 5 c4,.int .i64 0,.slice A5 1 c5] 25)
 have hXX:Below w1.heap.size w1 (w1.alloc (.cells #[.slice A4 5 c4,.int .i64 0,.slice A5 1 c5] 25)):=(Below.refl _ w1).alloc (Nat.le_refl _) _
 have HK1:=hide (Blk.new w1 25 #[.slice A4 5 c4,.int .i64 0,.slice A5 1 c5])
 have HT1:=hide ((ht.below hXX).more hXX.size)
 have HX1:=hide hX1
 clear hB1 CE hX1 hXX ht
 obtain ⟨X1,hx1⟩:∃ X,w1.alloc (.cells #[.slice A4 5 c4,.int .i64 0,.slice A5 1 c5] 25)=X:=⟨_,rfl⟩
 rw [hx1] at HK1 HT1 HX1
 have CQ1:=hide (CQ.1 X1 (HG.1.below HX1.1))
 have HH:=hide hx1
 go_upto_region 2 with fail
 clear hx1 CQ HG
 go_wp2_with fail
 refine CQ1.1.mono ?_
 rintro e w2 ⟨hB2,rfl⟩
 have hb3:Below X1.heap.size X1 (w2.alloc (.cells #[.slice none 0 0,.int .i64 0,.slice none 0 0] 25)):=hB2.alloc hB2.size _
 have hk3:=HK1.1.below hb3 HK1.1.lt
 have ht3:=(HT1.1.below hb3).more hb3.size
 have HB3:=hide (HX1.1.trans (hb3.mono HX1.1.size))
 have CW:=hide (widths_any tC _ _ _ (Nat.le_refl _) (by decide) tC_ok ht3)
 obtain ⟨⟨a0,a1,a2⟩,-⟩:=cells3 hk3
 clear hB2 hb3 hk3 ht3 CQ1 HX1 HT1
 go_upto_region 3 with fail
 generalize w2.alloc (.cells #[.slice none 0 0,.int .i64 0,.slice none 0 0] 25)=X3 at *
 go_wp2_with fail
 refine CW.1.mono ?_
 rintro e w4 ⟨v4,rfl,hcut⟩
 rw [tC_w] at hcut
 obtain ⟨A6,c6,rfl,hl6,h61,h62⟩:=Rs.own_lst2 hcut.1
 have hcut2:=hide (HB3.1.trans (hcut.2.mono HB3.1.size))
 obtain ⟨b6,o6,rfl,hb6,hc6⟩:=hl6 (by decide)
 have k1:=(hc6 1 (1,3) rfl).1
 have k2:=(hc6 1 (1,3) rfl).2
 clear hcut hl6 hc6 a0 a1 a2 CW HB3
 go_wp2_with fail
 go_ret
 exact ⟨rfl,hcut2.1⟩
end
end Go.Proofs.YtmlbklcmblofkaaGreatDoor.We
