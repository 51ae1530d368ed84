/-
  The library's slices.Grow (by its contract) and slices.Concat at lists of ranges, and rset.Or, walked.
-/
import Derived.Test.YtmlbklcmblofkaaGreatDoorMRsF
import Derived.Deep.RegionWith
import Derived.Deep.CutRange
import Derived.Shelf.Spec.SlicesGrow
import Derived.Ground.Names8Prog
set_option linter.unusedSimpArgs false
set_option linter.unusedVariables false
set_option maxHeartbeats 8000000
set_option maxRecDepth 100000
namespace Go.Proofs.YtmlbklcmblofkaaGreatDoor.Rs
open Go.RowKit Mem
attribute [local go_sem] run_not_true run_not_false
variable {W wr:World} {x y:R} {v:Value} {ns:Nat} {s:List R}
def lenV:Value→Nat
 | .slice _ n _=>n
 | _=>0
def ARel (ma mb:List R) (W:World) (va vb v:Value) (wr:World):Prop:=
 ∃ (la lb g:List R) (A B:Option Addr) (ca cb:Nat),va=.slice A la.length ca∧vb=.slice B lb.length cb∧la.length≤ca∧lb.length≤cb∧ca≤maxLen∧cb≤maxLen∧Lst W W.heap.size A la∧Lst W W.heap.size B lb ∧
  andF ma mb=g++andF la lb∧g.length+la.length+lb.length≤ma.length+mb.length∧Cut W g v wr
theorem andF_step {F g:List R} (s t:List R) (q:R) (hq:ovR x y=q) (h:F=g++andF (x :: s) (y :: t)) :
  (¬ q.1≤q.2→(x.2<y.2→F=g++andF s (y :: t))∧(¬ x.2<y.2→F=g++andF (x :: s) t)) ∧
  (q.1≤q.2→(x.2<y.2→F=(g++[q])++andF s (y :: t))∧(¬ x.2<y.2→F=(g++[q])++andF (x :: s) t)):=by
 subst hq
 rw [andF_cons] at h
 unfold ov1 at h
 refine ⟨fun h1=>⟨fun h2=>?_,fun h2=>?_⟩,fun h1=>⟨fun h2=>?_,fun h2=>?_⟩⟩<;>rw [h]<;>simp [h1,h2]
def AMid (wr:World) (q:R) (v:Value) (wx:World):Prop:=∃ g6,v=.pointer (some ⟨g6,0,none⟩)∧wr.heap.size≤g6∧Blk wx g6 56 #[.int .i64 q.1,.int .i64 q.2]∧Below wr.heap.size wr wx
theorem cut_drewN {w:World} {g:List R} (h:Cut W g v w) (n:Nat):Cut W g v (w.drewN n):=⟨h.1,below_drewN h.2 n⟩
theorem Lst.tail' {b o cl:Nat} (hsl:(x :: s).length=ns) (hk:ns≤cl) (hb:b<W.heap.size)
  (hx:∀ k r,(x :: s)[k]?=some r→W.cell? ⟨b,o+k*2,none⟩=some (.int .i64 r.1)∧W.cell? ⟨b,o+k*2+1,none⟩=some (.int .i64 r.2)) :
  Lst W W.heap.size (if cl=1 then some ⟨b,o,none⟩ else some ⟨b,o+2,none⟩) s:=by
 by_cases h1:cl=1
 ·have:s=[]:=List.eq_nil_of_length_eq_zero (by simp only [List.length_cons] at hsl;omega)
  subst this
  exact Lst.nil
 ·rw [if_neg h1];exact Lst.tail hx hb
theorem arel_a {ma mb g:List R} {wx:World} {t:List R} {b1 o1 cla b2 o2 clb nt:Nat} (hsl:(x :: s).length=ns) (htl:(y :: t).length=nt) (hka:ns≤cla) (hkb:nt≤clb) (hma:cla≤maxLen) (hmb:clb≤maxLen)
  (hb1:b1<W.heap.size) (hb2:b2<W.heap.size)
  (hx:∀ k r,(x :: s)[k]?=some r→W.cell? ⟨b1,o1+k*2,none⟩=some (.int .i64 r.1)∧W.cell? ⟨b1,o1+k*2+1,none⟩=some (.int .i64 r.2))
  (hy:∀ k r,(y :: t)[k]?=some r→W.cell? ⟨b2,o2+k*2,none⟩=some (.int .i64 r.1)∧W.cell? ⟨b2,o2+k*2+1,none⟩=some (.int .i64 r.2))
  (hand:andF ma mb=g++andF s (y :: t)) (hgl:g.length+ns+nt≤ma.length+mb.length+1) (hcut:Cut W g v wx) :
  ARel ma mb W (.slice (if cla=1 then some ⟨b1,o1,none⟩ else some ⟨b1,o1+2,none⟩) (ns-1) (cla-1)) (.slice (some ⟨b2,o2,none⟩) nt clb) v wx∧lenV (.slice (if cla=1 then some ⟨b1,o1,none⟩ else some ⟨b1,o1+2,none⟩) (ns-1) (cla-1))+lenV (.slice (some ⟨b2,o2,none⟩) nt clb)<lenV (.slice (some ⟨b1,o1,none⟩) ns cla)+lenV (.slice (some ⟨b2,o2,none⟩) nt clb):=by
 have hs:ns-1=s.length:=by simp only [List.length_cons] at hsl;omega
 refine ⟨⟨s,y :: t,g,_,_,cla-1,clb,by rw [hs],by rw [htl],by omega,by omega,by omega,hmb,Lst.tail' hsl hka hb1 hx,fun _=>⟨b2,o2,rfl,hb2,hy⟩,hand,by simp only [List.length_cons] at hsl htl ⊢;omega,hcut⟩,?_⟩
 simp only [lenV]
 simp only [List.length_cons] at hsl
 omega
theorem arel_b {ma mb g:List R} {wx:World} {t:List R} {b1 o1 cla b2 o2 clb nt:Nat} (hsl:(x :: s).length=ns) (htl:(y :: t).length=nt) (hka:ns≤cla) (hkb:nt≤clb) (hma:cla≤maxLen) (hmb:clb≤maxLen)
  (hb1:b1<W.heap.size) (hb2:b2<W.heap.size)
  (hx:∀ k r,(x :: s)[k]?=some r→W.cell? ⟨b1,o1+k*2,none⟩=some (.int .i64 r.1)∧W.cell? ⟨b1,o1+k*2+1,none⟩=some (.int .i64 r.2))
  (hy:∀ k r,(y :: t)[k]?=some r→W.cell? ⟨b2,o2+k*2,none⟩=some (.int .i64 r.1)∧W.cell? ⟨b2,o2+k*2+1,none⟩=some (.int .i64 r.2))
  (hand:andF ma mb=g++andF (x :: s) t) (hgl:g.length+ns+nt≤ma.length+mb.length+1) (hcut:Cut W g v wx) :
  ARel ma mb W (.slice (some ⟨b1,o1,none⟩) ns cla) (.slice (if clb=1 then some ⟨b2,o2,none⟩ else some ⟨b2,o2+2,none⟩) (nt-1) (clb-1)) v wx∧lenV (.slice (some ⟨b1,o1,none⟩) ns cla)+lenV (.slice (if clb=1 then some ⟨b2,o2,none⟩ else some ⟨b2,o2+2,none⟩) (nt-1) (clb-1))<lenV (.slice (some ⟨b1,o1,none⟩) ns cla)+lenV (.slice (some ⟨b2,o2,none⟩) nt clb):=by
 have ht:nt-1=t.length:=by simp only [List.length_cons] at htl;omega
 refine ⟨⟨x :: s,t,g,_,_,cla,clb-1,by rw [hsl],by rw [ht],by omega,by omega,hma,by omega,fun _=>⟨b1,o1,rfl,hb1,hx⟩,Lst.tail' htl hkb hb2 hy,hand,by simp only [List.length_cons] at hsl htl ⊢;omega,hcut⟩,?_⟩
 simp only [lenV]
 simp only [List.length_cons] at htl
 omega
theorem AMid.of_same {w w':World} {q:R} (h:AMid wr q v w) (h1:w'.heap=w.heap) (h2:w'.os=w.os) (h3:w'.tape=w.tape) (h4:w'.output=w.output):AMid wr q v w':=by
 obtain ⟨g6,e,hg,hb,hbl⟩:=h
 refine ⟨g6,e,hg,by unfold Blk;rw [h1];exact hb,h2.trans hbl.os,h3.trans hbl.tape,h4.trans hbl.output,by rw [h1];exact hbl.size,fun k hk=>by rw [h1];exact hbl.block k hk⟩
theorem mid_before {w3:World} (q:R) (hb:Below W.heap.size W w3) (hH:W.heap=(wr.alloc (.cells fz 56)).heap) (h2:W.os=wr.os) (h3:W.tape=wr.tape) (h4:W.output=wr.output) :
  AMid wr q (.pointer (some ⟨wr.heap.size,0,none⟩)) ((w3.setCell ⟨wr.heap.size,0,none⟩ (.int .i64 q.1)).setCell ⟨wr.heap.size,1,none⟩ (.int .i64 q.2)):=by
 have hsz:W.heap.size=wr.heap.size+1:=by rw [hH];simp
 have hw:Below wr.heap.size wr W:=⟨h2,h3,h4,by omega,fun k hk=>by rw [hH];exact Below.heap_alloc _ _ _ hk⟩
 exact ⟨_,rfl,Nat.le_refl _,((blk_of_heap hb hH).set_ 0 _).set_ 1 _,((hw.trans (hb.mono (by omega))).setCell (Nat.le_refl _) _).setCell (Nat.le_refl _) _⟩
theorem mid_after {w3:World} (q:R) (hb:Below W.heap.size W w3) (hH:W.heap=wr.heap) (h2:W.os=wr.os) (h3:W.tape=wr.tape) (h4:W.output=wr.output) :
  AMid wr q (.pointer (some ⟨w3.heap.size,0,none⟩)) (w3.alloc (.cells #[.int .i64 q.1,.int .i64 q.2] 56)):=by
 have hw:Below wr.heap.size wr W:=⟨h2,h3,h4,by rw [hH];exact Nat.le_refl _,fun k hk=>by rw [hH]⟩
 have hw3:Below wr.heap.size wr w3:=hw.trans (hb.mono (by rw [hH];exact Nat.le_refl _))
 exact ⟨_,rfl,hw3.size,Blk.new w3 _ _,below_al hw3 hw3.size _⟩
theorem and_any (a b:List R) (A B:Option Addr) (ca cb:Nat) (w:World) (hla:a.length≤100000) (hlb:b.length≤100000) (hca:a.length≤ca) (hcb:b.length≤cb) (ha:Lst w w.heap.size A a) (hb:Lst w w.heap.size B b) :
  Calls Tryz.prog 92 #[.slice A a.length ca,.slice B b.length cb] w fun e w'=>∃ v,e=.returned v∧Cut w (andL a b) v w':=by
 have HA:=hide ha
 have HB:=hide hb
 clear ha hb
 obtain ⟨i0,hi,hz0,hz1,hz2⟩:=info_parts info_range
 go_enter Tryz.func92,Tryz.ntmps92
 go_wp2_with fail
 refine (make_any a A ca w (by omega) hca HA.1).mono ?_
 rintro e w1 ⟨v1,rfl,hcut1⟩
 obtain ⟨A1,ca1,rfl,hl1,hc1,hcm1⟩:=own_lst hcut1.1
 have HW1:=hide hcut1.2
 have HL1:=hide hl1
 clear hcut1 hl1
 go_wp2_with fail
 refine (make_any b B cb w1 (by omega) hcb (HB.1.below HW1.1 |>.more HW1.1.size)).mono ?_
 rintro e w2 ⟨v2,rfl,hcut2⟩
 obtain ⟨B1,cb1,rfl,hl2,hc2,hcm2⟩:=own_lst hcut2.1
 have HW2:=hide (HW1.1.trans (hcut2.2.mono HW1.1.size))
 have HL1':=hide (HL1.1.below hcut2.2 |>.more hcut2.2.size)
 have HL2:=hide hl2
 have hml1:=mk_len a
 have hml2:=mk_len b
 have HFIN:=hide (show andL a b=andF (mk a) (mk b) from rfl)
 clear hcut2 hl2 HL1
 generalize mk a=ma at *
 generalize mk b=mb at *
 go_wp2
 go_loopw [0,1,5] (fun va vb v wr=>ARel ma mb w2 va vb v wr) (fun va vb _ _=>lenV va+lenV vb)
 case atStart=>exact ⟨ma,mb,[],A1,B1,ca1,cb1,rfl,rfl,hc1,hc2,hcm1,hcm2,HL1'.1,HL2.1,rfl,by simp,World.ownsRow_nil _ _ _ _,Below.refl _ _⟩
 case round=>
  obtain ⟨la,lb,g,Aa,Bb,cla,clb,rfl,rfl,hka,hkb,hma,hmb,hLa,hLb,hand,hgl,hcut⟩:=hrel
  cases la with
  | nil=>
   rw [andF_nil,List.append_nil] at hand
   have HAND:=hide hand
   have HCUT:=hide hcut
   clear hand hcut
   go_wp2
   go_ret
   refine ⟨_,rfl,own_lower (?_:World.ownsRow _ w2.heap.size _ _ _ _ _) HW2.1.size,HW2.1.trans (HCUT.1.2.mono HW2.1.size)⟩
   rw [HFIN.1,HAND.1]
   exact HCUT.1.1
  | cons x s=>
   cases lb with
   | nil=>
    rw [andF_nil',List.append_nil] at hand
    have HAND:=hide hand
    have HCUT:=hide hcut
    clear hand hcut
    go_wp2
    go_ret
    refine ⟨_,rfl,own_lower (?_:World.ownsRow _ w2.heap.size _ _ _ _ _) HW2.1.size,HW2.1.trans (HCUT.1.2.mono HW2.1.size)⟩
    rw [HFIN.1,HAND.1]
    exact HCUT.1.1
   | cons y t=>
    obtain ⟨b1,o1,rfl,hb1,hx⟩:=hLa (by simp)
    obtain ⟨b2,o2,rfl,hb2,hy⟩:=hLb (by simp)
    have hsz:=hcut.2.size
    have x1:wr.cell? ⟨b1,o1,none⟩=some (.int .i64 x.1):=(hcut.2.cell (p:=⟨b1,o1,none⟩) hb1).trans (by simpa using (hx 0 x rfl).1)
    have x2:wr.cell? ⟨b1,o1+1,none⟩=some (.int .i64 x.2):=(hcut.2.cell (p:=⟨b1,o1+1,none⟩) hb1).trans (by simpa using (hx 0 x rfl).2)
    have y1:wr.cell? ⟨b2,o2,none⟩=some (.int .i64 y.1):=(hcut.2.cell (p:=⟨b2,o2,none⟩) hb2).trans (by simpa using (hy 0 y rfl).1)
    have y2:wr.cell? ⟨b2,o2+1,none⟩=some (.int .i64 y.2):=(hcut.2.cell (p:=⟨b2,o2+1,none⟩) hb2).trans (by simpa using (hy 0 y rfl).2)
    have ax1:∀ o,(wr.alloc o).cell? ⟨b1,o1,none⟩=some (.int .i64 x.1):=fun o=>(World.cell?_alloc_lt wr o ⟨b1,o1,none⟩ (Nat.lt_of_lt_of_le hb1 hsz)).trans x1
    have ax2:∀ o,(wr.alloc o).cell? ⟨b1,o1+1,none⟩=some (.int .i64 x.2):=fun o=>(World.cell?_alloc_lt wr o ⟨b1,o1+1,none⟩ (Nat.lt_of_lt_of_le hb1 hsz)).trans x2
    have ay1:∀ o,(wr.alloc o).cell? ⟨b2,o2,none⟩=some (.int .i64 y.1):=fun o=>(World.cell?_alloc_lt wr o ⟨b2,o2,none⟩ (Nat.lt_of_lt_of_le hb2 hsz)).trans y1
    have ay2:∀ o,(wr.alloc o).cell? ⟨b2,o2+1,none⟩=some (.int .i64 y.2):=fun o=>(World.cell?_alloc_lt wr o ⟨b2,o2+1,none⟩ (Nat.lt_of_lt_of_le hb2 hsz)).trans y2
    have hs0:(0:Int)<((x :: s).length:Int):=by simp
    have ht0:(0:Int)<((y :: t).length:Int):=by simp
    have HCUT:=hide hcut
    have HAND:=hide hand
    have HX:=hide hx
    have HY:=hide hy
    generalize hsl:(x :: s).length=ns at *
    generalize htl:(y :: t).length=nt at *
    have HSL:=hide hsl
    have HTL:=hide htl
    have hn1:0<ns:=by omega
    have hn2:0<nt:=by omega
    have hd1:decide (0<ns)=true:=by simpa using hs0
    have hd2:decide (0<nt)=true:=by simpa using ht0
    clear hcut hand hx hy hLa hLb hsl htl
    go_upto_region 4 with fail
    go_cut [6] from 11 to 45 (fun v wx=>AMid wr (ovR x y) v wx)
    case first=>
     go_region_with (go_at_call 108;refine (overlap_any x y _).mono ?_;rintro e w3 ⟨rfl,hb3⟩;(first|(have hbk:=blk_of_heap (wr:=wr) (T:=56) (cs:=fz) hb3 rfl;have e0:=hbk.cell 0;have e1:=hbk.cell 1;have f0:=hbk.frozen 0;have f1:=hbk.frozen 1)|(have hbk:=Blk.new w3 56 fz;have e0:=hbk.cell 0;have e1:=hbk.cell 1;have f0:=hbk.frozen 0;have f1:=hbk.frozen 1)))
     all_goals go_wp2_with fail
     all_goals go_meet
     all_goals first|exact AMid.of_same (mid_before _ hb3 rfl rfl rfl rfl) rfl rfl rfl rfl|exact AMid.of_same (mid_after _ hb3 rfl rfl rfl rfl) rfl rfl rfl rfl
    case rest=>
     obtain ⟨g6,rfl,hg6,hblk,hbel⟩:=hcut
     have HRS:=hide (andF_step s t (ovR x y) rfl HAND.1)
     generalize hq:ovR x y=q at *
     have HQ:=hide hq
     have hcutc:Cut w2 g u5 wc:=⟨own_below HCUT.1.1 hbel,HCUT.1.2.trans (hbel.mono hsz)⟩
     have d0:=hblk.cell 0
     have d1:=hblk.cell 1
     have z1:wc.cell? ⟨b1,o1+1,none⟩=some (.int .i64 x.2):=(hbel.cell (p:=⟨b1,o1+1,none⟩) (Nat.lt_of_lt_of_le hb1 hsz)).trans x2
     have z2:wc.cell? ⟨b2,o2+1,none⟩=some (.int .i64 y.2):=(hbel.cell (p:=⟨b2,o2+1,none⟩) (Nat.lt_of_lt_of_le hb2 hsz)).trans y2
     have Z1:=hide z1
     have Z2:=hide z2
     have HCC:=hide hcutc
     have HBK:=hide hblk
     have HSZ:=hide hsz
     have hszc:=hcutc.2.size
     clear x1 x2 y1 y2 ax1 ax2 ay1 ay2 z1 z2 hcutc hblk hbel hq hsz hg6
     go_wp2_with fail
     refine (empty_any q wc).mono ?_
     rintro e w4 ⟨rfl,hb4⟩
     have hbk:=HBK.1.below hb4 HBK.1.lt
     have e0:=hbk.cell 0
     have e1:=hbk.cell 1
     have z1:w4.cell? ⟨b1,o1+1,none⟩=some (.int .i64 x.2):=(hb4.cell (p:=⟨b1,o1+1,none⟩) (cell_lt Z1.1)).trans Z1.1
     have z2:w4.cell? ⟨b2,o2+1,none⟩=some (.int .i64 y.2):=(hb4.cell (p:=⟨b2,o2+1,none⟩) (cell_lt Z2.1)).trans Z2.1
     have hcut4:Cut w2 g u5 w4:=⟨own_below HCC.1.1 hb4,HCC.1.2.trans (hb4.mono hszc)⟩
     have hsz4:=hcut4.2.size
     have H4:=hide hcut4
     have BL1:=hide hb1
     have BL2:=hide hb2
     clear d0 d1 hb4 hbk hcut4
     by_cases hqe:q.2<q.1
     ·rw [decide_eq_true hqe]
      have HRS2:=hide (HRS.1.1 (by omega))
      clear hqe
      go_wp2_with fail
      go_quiet (fail)
      by_cases hxy:x.2<y.2
      ·go_wp2
       exact arel_a HSL.1 HTL.1 hka hkb hma hmb BL1.1 BL2.1 HX.1 HY.1 (HRS2.1.1 hxy) (by omega) (cut_drewN H4.1 _)
      ·go_wp2
       exact arel_b HSL.1 HTL.1 hka hkb hma hmb BL1.1 BL2.1 HX.1 HY.1 (HRS2.1.2 (by omega)) (by omega) (cut_drewN H4.1 _)
     ·rw [decide_eq_false hqe]
      have HRS2:=hide (HRS.1.2 (by omega))
      have hmx:g.length+1≤maxLen:=by unfold maxLen;omega
      have hone:∀ u∈(#[.int .i64 q.1,.int .i64 q.2]:Array Value).toList,u.oneCell'=true:=by simp [Value.oneCell']
      have X2:=hide (show w2.cell? ⟨b1,o1+1,none⟩=some (.int .i64 x.2) by simpa using (HX.1 0 x rfl).2)
      have Y2:=hide (show w2.cell? ⟨b2,o2+1,none⟩=some (.int .i64 y.2) by simpa using (HY.1 0 y rfl).2)
      clear hqe z1 z2
      go_wp2_with (at_builtin;refine wpList_append_any _ rfl (.tmp 29) (.tmp 31) 46 rfl w2.heap.size 56 i0 (.agg #[.int .i64 0,.int .i64 0]) 2 16 Tryz.underlying46 hi hz0 hz1 hz2 rfl (by decide) _ g.length _ rfl (H4.1.1.alloc _) _ _ 1 1 _ rfl (reads_new w4 #[.int .i64 q.1,.int .i64 q.2] 56 1 2 rfl) hone hmx (by omega) (by rw [World.size_alloc];omega) ?_;intro v5 w5 ho5 hg5 hn5;have hb5:=below_app H4.1.2 H4.1.1 hg5;have z1:w5.cell? ⟨b1,o1+1,none⟩=some (.int .i64 x.2):=(hb5.cell (p:=⟨b1,o1+1,none⟩) BL1.1).trans X2.1;have z2:w5.cell? ⟨b2,o2+1,none⟩=some (.int .i64 y.2):=(hb5.cell (p:=⟨b2,o2+1,none⟩) BL2.1).trans Y2.1;have HO5:=hide ho5;have HB5:=hide hb5;clear ho5 hg5 hn5 hb5 e0 e1)
      have H5:=hide (show Cut w2 (g++[q]) v5 w5 from ⟨by rw [flat_append,List.length_append];exact HO5.1,HB5.1⟩)
      go_quiet (fail)
      by_cases hxy:x.2<y.2
      ·go_wp2
       exact arel_a HSL.1 HTL.1 hka hkb hma hmb BL1.1 BL2.1 HX.1 HY.1 (HRS2.1.1 hxy) (by simp;omega) (cut_drewN H5.1 _)
      ·go_wp2
       exact arel_b HSL.1 HTL.1 hka hkb hma hmb BL1.1 BL2.1 HX.1 HY.1 (HRS2.1.2 (by omega)) (by simp;omega) (cut_drewN H5.1 _)
end Go.Proofs.YtmlbklcmblofkaaGreatDoor.Rs
namespace Go.Proofs
shelf_lay_g Lays8.n4 Nm8 4 at Tryz 129 as Tryz.growRg
end Go.Proofs
namespace Go.Proofs.YtmlbklcmblofkaaGreatDoor.Rs
open Go.Shelf Go.RowKit Mem
theorem grow_nil (n:Nat) (w:World) (hn:n≤1000000) :
  Calls Tryz.prog 129 #[.slice none 0 0,.int .i64 n] w fun e w'=>∃ v,e=.returned v∧Cut w [] v w':=by
 by_cases h0:n=0
 ·subst h0
  have hcon:=Any8.slices_Grow_room Tryz.growRg none 0 0 0 w (Nat.le_refl _) (by omega) (by omega) (by omega)
  change Calls Tryz.prog 129 _ _ _ at hcon
  refine hcon.mono ?_
  rintro e w' ⟨rfl,rfl⟩
  exact ⟨_,rfl,World.ownsRow_nil _ _ _ _,Below.refl _ _⟩
 ·obtain ⟨i0,hi,hz0,hz1,hz2⟩:=info_parts info_range
  have hcon:=Any8.slices_Grow_grow Tryz.growRg i0 _ hi hz0 (by omega) none 0 0 n [] w (Nat.le_refl _) (by omega) (by rw [hz2];omega) (by omega) (by simp) (fun _=>rfl) (fun a h=>by cases h)
  change Calls Tryz.prog 129 _ _ _ at hcon
  refine hcon.mono ?_
  rintro e w' ⟨rfl,rfl⟩
  have hge:=grownCap_ge w (0+n) 0 56
  have hle:=grownCap_le_maxLen w (0+n) 0 56 (by unfold maxLen;omega)
  refine ⟨_,rfl,⟨rfl,.inr ⟨w.heap.size,_,_,rfl,Nat.le_refl _,heap_alloc_new w.drew _,Nat.zero_le _,hle,?_,rfl⟩⟩,(Below.refl _ _).drew.alloc (Nat.le_refl _) _⟩
  have e36:Tryz.growRg_ren.t 25=56:=rfl
  rw [e36]
  generalize grownCap w (0+n) 0 56=G at hge hle ⊢
  simp only [Array.size_append,size_zeroCells,Value.cells]
  simp
  omega
abbrev Ls:=List (Option Addr×List R×Nat)
def tot (ls:Ls):Nat:=(ls.map fun x=>x.2.1.length).sum
def cat (ls:Ls):List R:=ls.flatMap fun x=>x.2.1
theorem tot_snoc (ls:Ls) (x:Option Addr×List R×Nat):tot (ls++[x])=tot ls+x.2.1.length:=by simp [tot]
theorem cat_snoc (ls:Ls) (x:Option Addr×List R×Nat):cat (ls++[x])=cat ls++x.2.1:=by simp [cat]
theorem cat_len:∀ ls:Ls,(cat ls).length=tot ls
 | []=>rfl
 | x :: ls=>by
  have:=cat_len ls
  simp [cat,tot] at this ⊢
theorem tot_le (M:Nat):∀ (ls:Ls),(∀ x∈ls,x.2.1.length≤M)→tot ls≤ls.length*M
 | [],_=>by simp [tot]
 | x :: ls,h=>by
  have h1:=tot_le M ls (fun y hy=>h y (by simp [hy]))
  have h2:=h x (by simp)
  have e:tot (x :: ls)=x.2.1.length+tot ls:=by simp [tot]
  rw [e,List.length_cons,Nat.succ_mul]
  omega
theorem tot_take (ls:Ls) (h:∀ x∈ls,x.2.1.length≤100000) (k:Nat):tot (ls.take k)≤ls.length*100000:=by
 refine Nat.le_trans (tot_le 100000 (ls.take k) fun x hx=>h x (List.mem_of_mem_take hx)) ?_
 exact Nat.mul_le_mul_right _ (List.length_take_le' _ _)
def C1 (ls:Ls) (w:World) (sz i:Value) (wr:World):Prop:=∃ k:Nat,i=.int .i64 k∧k≤ls.length∧sz=.int .i64 (tot (ls.take k):Nat)∧w=wr
def C2 (ls:Ls) (w:World) (v i:Value) (wr:World):Prop:=∃ k:Nat,i=.int .i64 k∧k≤ls.length∧Cut w (cat (ls.take k)) v wr
theorem concat_any (ls:Ls) (g cap:Nat) (w:World) (hn:ls.length≤10) (hg:g<w.heap.size)
  (hc:∀ k x,ls[k]?=some x→w.cell? ⟨g,k,none⟩=some (.slice x.1 x.2.1.length x.2.2)) (hl:∀ x∈ls,Lst w w.heap.size x.1 x.2.1) (hl2:∀ x∈ls,x.2.1.length≤100000) :
  Calls Tryz.prog 114 #[.slice (some ⟨g,0,none⟩) ls.length cap] w fun e w'=>∃ v,e=.returned v∧Cut w (cat ls) v w':=by
 have HC:=hide hc
 have HL:=hide hl
 have HL2:=hide hl2
 have HG:=hide hg
 clear hc hl hl2 hg
 obtain ⟨i0,hi,hz0,hz1,hz2⟩:=info_parts info_range
 go_enter Tryz.func114,Tryz.ntmps114
 go_wp2
 go_loopw [3,11] (fun v i wr=>C1 ls w v i wr) (fun _ i _=>ls.length-(intOf i).toNat)
 case atStart=>exact ⟨0,rfl,Nat.zero_le _,rfl,rfl⟩
 case round=>
  obtain ⟨k,rfl,hk,rfl,rfl⟩:=hrel
  by_cases hlt:k<ls.length
  ·obtain ⟨x,hx⟩:∃ x,ls[k]?=some x:=⟨_,List.getElem?_eq_getElem hlt⟩
   have c1:=HC.1 k x hx
   have hxl:=HL2.1 x (List.mem_of_getElem? hx)
   have e:ls[k]=x:=by simpa [List.getElem?_eq_getElem hlt] using hx
   have htk:tot (ls.take (k+1))=tot (ls.take k)+x.2.1.length:=by rw [List.take_succ_eq_append_getElem hlt,e,tot_snoc]
   have htl:=tot_take ls HL2.1 k
   obtain ⟨A,l,cp⟩:=x
   dsimp only at c1 hxl htk
   have hlt':(k:Int)<(ls.length:Int):=by omega
   have HTK:=hide htk
   generalize tot (ls.take k)=t at *
   have hw1:IntKind.i64.wrap ((t:Int)+(l.length:Int))=(t:Int)+(l.length:Int):=wrap_id _ (by omega) (by omega)
   have hnn:¬ ((t:Int)+(l.length:Int)<0):=by omega
   have hd0:decide ((t:Int)+(l.length:Int)<0)=false:=by simpa using hnn
   clear hx e htk
   go_wp2
   first|go_roundw|refine ⟨⟨_,_,_,?rel,rfl,rfl,rfl⟩,?measure⟩
   case rel=>exact ⟨k+1,by go_num,by omega,by rw [HTK.1];simp,rfl⟩
   case measure=>simp [intOf];omega
  ·obtain rfl:k=ls.length:=by omega
   have htl:=tot_take ls HL2.1 ls.length
   rw [List.take_length] at htl ⊢
   have hcl:=cat_len ls
   generalize hT:tot ls=T at *
   go_wp2_with fail
   refine (grow_nil T w (by omega)).mono ?_
   rintro e w1 ⟨v1,rfl,hcut⟩
   have HCUT:=hide hcut
   clear hcut
   go_wp2
   go_loopw [6,27] (fun v i wx=>C2 ls w v i wx) (fun _ i _=>ls.length-(intOf i).toNat)
   case atStart=>exact ⟨0,rfl,Nat.zero_le _,HCUT.1⟩
   case round=>
    obtain ⟨k,rfl,hk,hcut⟩:=hrel
    by_cases hlt:k<ls.length
    ·obtain ⟨x,hx⟩:∃ x,ls[k]?=some x:=⟨_,List.getElem?_eq_getElem hlt⟩
     have c1:=(hcut.2.cell (p:=⟨g,k,none⟩) HG.1).trans (HC.1 k x hx)
     have hlst:=(HL.1 x (List.mem_of_getElem? hx)).below hcut.2
     have hxl:=HL2.1 x (List.mem_of_getElem? hx)
     have e:ls[k]=x:=by simpa [List.getElem?_eq_getElem hlt] using hx
     have htk:cat (ls.take (k+1))=cat (ls.take k)++x.2.1:=by rw [List.take_succ_eq_append_getElem hlt,e,cat_snoc]
     have htl:=tot_take ls HL2.1 k
     rw [← cat_len] at htl
     obtain ⟨A,l,cp⟩:=x
     dsimp only at c1 hlst hxl htk
     have hlt':(k:Int)<(ls.length:Int):=by omega
     have hwz:=hcut.2.size
     generalize cat (ls.take k)=pre at *
     have hmx:pre.length+l.length≤maxLen:=by unfold maxLen;omega
     have HTK:=hide htk
     have HR:=hide hlst.reads
     have HCUT2:=hide hcut
     clear hx e htk hlst hcut
     go_wp2_with (at_builtin;refine wpList_append_any _ rfl (.tmp 31) (.tmp 32) 46 rfl w.heap.size 56 i0 (.agg #[.int .i64 0,.int .i64 0]) 2 16 Tryz.underlying46 hi hz0 hz1 hz2 rfl (by decide) _ pre.length _ rfl HCUT2.1.1 _ _ _ _ (flat l) rfl HR.1 (flat_one l) hmx (by omega) hwz ?_;intro v5 w5 ho5 hg5 hn5;have HO5:=hide ho5;have HG5:=hide hg5;clear ho5 hg5 hn5)
     first|go_roundw|refine ⟨⟨_,_,_,?rel,rfl,rfl,rfl⟩,?measure⟩
     case rel=>
      refine ⟨k+1,by go_num,by omega,?_⟩
      rw [HTK.1]
      exact ⟨by rw [flat_append,List.length_append];exact HO5.1,below_app' HCUT2.1.2 HCUT2.1.1 HG5.1⟩
     case measure=>simp [intOf];omega
    ·obtain rfl:k=ls.length:=by omega
     rw [List.take_length] at hcut
     have HCUT2:=hide hcut
     clear hcut
     go_wp2
     go_ret
     exact ⟨_,rfl,HCUT2.1⟩
theorem or_any (a b:List R) (A B:Option Addr) (ca cb:Nat) (w:World) (hla:a.length≤50000) (hlb:b.length≤50000) (ha:Lst w w.heap.size A a) (hb:Lst w w.heap.size B b) :
  Calls Tryz.prog 95 #[.slice A a.length ca,.slice B b.length cb] w fun e w'=>∃ v,e=.returned v∧Cut w (orL a b) v w':=by
 have hbl:=below_al (Below.refl w.heap.size w) (Nat.le_refl _) (.cells #[.slice A a.length ca,.slice B b.length cb] 46)
 have hcc:=concat_any [(A,a,ca),(B,b,cb)] w.heap.size 2 (w.alloc (.cells #[.slice A a.length ca,.slice B b.length cb] 46)) (by simp) (by simp)
  (fun k x hx=>by
   rw [World.cell?_alloc_new]
   match k,hx with
   | 0,hx=>simp at hx;subst hx;rfl
   | 1,hx=>simp at hx;subst hx;rfl
   | k+2,hx=>simp at hx)
  (fun x hx=>by
   simp at hx
   rcases hx with rfl|rfl
   ·exact (ha.below hbl).more (by simp)
   ·exact (hb.below hbl).more (by simp))
  (fun x hx=>by
   simp at hx
   rcases hx with rfl|rfl<;>simp only<;>omega)
 have HCC:=hide hcc
 have HBL:=hide hbl
 clear hcc hbl ha hb
 go_enter Tryz.func95,Tryz.ntmps95
 go_wp2_with fail
 refine HCC.1.mono ?_
 rintro e w1 ⟨v1,rfl,hcut⟩
 have ec:cat [(A,a,ca),(B,b,cb)]=a++b:=by simp [cat]
 rw [ec] at hcut
 obtain ⟨A1,c1,rfl,hl1,hc1,hcm1⟩:=own_lst hcut.1
 have hb1:Below w.heap.size w w1:=HBL.1.trans (hcut.2.mono (by simp))
 have HB1:=hide hb1
 have HL1:=hide hl1
 clear hcut hl1 hb1 HCC
 have hll:(a++b).length≤100000:=by simp;omega
 have HOR:=hide (show orL a b=mk (a++b) from rfl)
 generalize a++b=ab at *
 go_wp2_with fail
 refine (make_any ab A1 c1 w1 (by omega) hc1 HL1.1).mono ?_
 rintro e w2 ⟨v2,rfl,hcut2⟩
 have HC2:=hide hcut2
 clear hcut2
 go_wp2
 go_ret
 exact ⟨_,rfl,by rw [HOR.1];exact own_lower HC2.1.1 HB1.1.size,HB1.1.trans (HC2.1.2.mono HB1.1.size)⟩
end Go.Proofs.YtmlbklcmblofkaaGreatDoor.Rs
