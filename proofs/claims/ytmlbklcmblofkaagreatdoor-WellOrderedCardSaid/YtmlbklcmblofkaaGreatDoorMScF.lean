/-
  scan.Class, walked: the class that stands at a place, or its first error.
-/
import Derived.Test.YtmlbklcmblofkaaGreatDoorMScPart
import Derived.Test.YtmlbklcmblofkaaGreatDoorMFoD
set_option linter.unusedSimpArgs false
set_option linter.unusedVariables false
set_option maxHeartbeats 8000000
set_option maxRecDepth 100000
namespace Go.Proofs.YtmlbklcmblofkaaGreatDoor.Sc
section
open Go.RowKit Mem
open Rs (R Lst notL)
attribute [local go_sem] build_i0 build_i3 build_in build_is Rs.run_not_true Rs.run_not_false
open Rs (mk)
open Fo (closeL)
theorem closeL_len (l:List R):(closeL l).length≤l.length+6000:=by
 have h1:=Fo.and_sum l
 have h2:=Fo.same_len (Rs.andL_least l Fo.spansL).ok
 have h3:=Rs.mk_len (l++Fo.sameL (Rs.andL l Fo.spansL))
 rw [List.length_append] at h3
 show (mk (l++Fo.sameL (Rs.andL l Fo.spansL))).length≤_
 omega
def GivesW (l:List R) (w:World) (e:Ending) (w':World):Prop:=∃ v,e=.returned v∧Lies w.heap.size l v w'∧Below w.heap.size w w'
theorem GivesW.cut {l:List R} {v:Value} {w0 w w':World} (h:Rs.Cut w l v w') (hb:Below w0.heap.size w0 w):GivesW l w0 (.returned v) w':=by
 obtain ⟨h1,h2⟩:=Lies.of (Cl.cut_gives' h)
 exact ⟨v,rfl,h1.mono hb.size,hb.trans (h2.mono hb.size)⟩
theorem whole_ff (l:List R) (A:Option Addr) (cap:Nat) (w:World) (hlen:l.length≤24576) (hcap:l.length≤cap) (hl:Lst w w.heap.size A l) (hG:Gl w) :
  Calls Tryz.prog 85 #[.slice A l.length cap,.bool false,.bool false] w (GivesW (wholeL l false false) w):=by
 show Calls _ _ _ _ (GivesW ((mk l)) w)
 have HG:=hide hG
 have C1:=hide (Rs.make_any l A cap w (by omega) hcap hl)
 have hk:=Rs.mk_len l
 clear hl hG
 go_enter Tryz.func85,Tryz.ntmps85
 go_wp2_with fail
 refine C1.1.mono ?_
 rintro e w1 ⟨v1,rfl,hcut⟩
 obtain ⟨A1,c1,rfl,hl1,hc1,-⟩:=Rs.own_lst hcut.1
 have HC1:=hide hcut
 have HB1:=hide hcut.2
 clear hcut hl1
 generalize mk l=l3 at *
 go_wp2_with fail
 go_ret
 exact GivesW.cut HC1.1 (Below.refl _ _)
theorem whole_ft (l:List R) (A:Option Addr) (cap:Nat) (w:World) (hlen:l.length≤24576) (hcap:l.length≤cap) (hl:Lst w w.heap.size A l) (hG:Gl w) :
  Calls Tryz.prog 85 #[.slice A l.length cap,.bool false,.bool true] w (GivesW (wholeL l false true) w):=by
 show Calls _ _ _ _ (GivesW (notL (mk l)) w)
 have HG:=hide hG
 have C1:=hide (Rs.make_any l A cap w (by omega) hcap hl)
 have hk:=Rs.mk_len l
 clear hl hG
 go_enter Tryz.func85,Tryz.ntmps85
 go_wp2_with fail
 refine C1.1.mono ?_
 rintro e w1 ⟨v1,rfl,hcut⟩
 obtain ⟨A1,c1,rfl,hl1,hc1,-⟩:=Rs.own_lst hcut.1
 have HC1:=hide hcut
 have HB1:=hide hcut.2
 have C3:=hide (Rs.not_any (mk l) A1 c1 w1 (by omega) hc1 hl1)
 clear hcut hl1
 generalize mk l=l3 at *
 go_wp2_with fail
 refine C3.1.mono ?_
 rintro e w3 ⟨v3,rfl,hcut⟩
 have HC3:=hide hcut
 clear hcut
 go_wp2_with fail
 go_ret
 exact GivesW.cut HC3.1 HB1.1
theorem whole_tf (l:List R) (A:Option Addr) (cap:Nat) (w:World) (hlen:l.length≤24576) (hcap:l.length≤cap) (hl:Lst w w.heap.size A l) (hG:Gl w) :
  Calls Tryz.prog 85 #[.slice A l.length cap,.bool true,.bool false] w (GivesW (wholeL l true false) w):=by
 show Calls _ _ _ _ (GivesW ((closeL (mk l))) w)
 have HG:=hide hG
 have C1:=hide (Rs.make_any l A cap w (by omega) hcap hl)
 have hk:=Rs.mk_len l
 clear hl hG
 go_enter Tryz.func85,Tryz.ntmps85
 go_wp2_with fail
 refine C1.1.mono ?_
 rintro e w1 ⟨v1,rfl,hcut⟩
 obtain ⟨A1,c1,rfl,hl1,hc1,-⟩:=Rs.own_lst hcut.1
 have HC1:=hide hcut
 have HB1:=hide hcut.2
 obtain ⟨tb,tof,tc,hT⟩:=HG.1.rows
 have C2:=hide (Fo.pclose_any (mk l) A1 c1 w1 (hT.below hcut.2 (Nat.le_refl _)) (by omega) hc1 hl1)
 have hk2:=closeL_len (mk l)
 clear hT hcut hl1 HG C1
 generalize mk l=l2 at *
 go_wp2_with fail
 refine C2.1.mono ?_
 rintro e w2 ⟨v2,rfl,hcut⟩
 obtain ⟨A2,c2,rfl,hl2,hc2,-⟩:=Rs.own_lst hcut.1
 have HC2:=hide hcut
 have HB2:=hide (HB1.1.trans (hcut.2.mono HB1.1.size))
 clear hcut hl2
 generalize closeL l2=l3 at *
 go_wp2_with fail
 go_ret
 exact GivesW.cut HC2.1 HB1.1
theorem whole_tt (l:List R) (A:Option Addr) (cap:Nat) (w:World) (hlen:l.length≤24576) (hcap:l.length≤cap) (hl:Lst w w.heap.size A l) (hG:Gl w) :
  Calls Tryz.prog 85 #[.slice A l.length cap,.bool true,.bool true] w (GivesW (wholeL l true true) w):=by
 show Calls _ _ _ _ (GivesW (notL (closeL (mk l))) w)
 have HG:=hide hG
 have C1:=hide (Rs.make_any l A cap w (by omega) hcap hl)
 have hk:=Rs.mk_len l
 clear hl hG
 go_enter Tryz.func85,Tryz.ntmps85
 go_wp2_with fail
 refine C1.1.mono ?_
 rintro e w1 ⟨v1,rfl,hcut⟩
 obtain ⟨A1,c1,rfl,hl1,hc1,-⟩:=Rs.own_lst hcut.1
 have HC1:=hide hcut
 have HB1:=hide hcut.2
 obtain ⟨tb,tof,tc,hT⟩:=HG.1.rows
 have C2:=hide (Fo.pclose_any (mk l) A1 c1 w1 (hT.below hcut.2 (Nat.le_refl _)) (by omega) hc1 hl1)
 have hk2:=closeL_len (mk l)
 clear hT hcut hl1 HG C1
 generalize mk l=l2 at *
 go_wp2_with fail
 refine C2.1.mono ?_
 rintro e w2 ⟨v2,rfl,hcut⟩
 obtain ⟨A2,c2,rfl,hl2,hc2,-⟩:=Rs.own_lst hcut.1
 have HC2:=hide hcut
 have HB2:=hide (HB1.1.trans (hcut.2.mono HB1.1.size))
 have C3:=hide (Rs.not_any (closeL l2) A2 c2 w2 (by omega) hc2 hl2)
 clear hcut hl2
 generalize closeL l2=l3 at *
 go_wp2_with fail
 refine C3.1.mono ?_
 rintro e w3 ⟨v3,rfl,hcut⟩
 have HC3:=hide hcut
 clear hcut
 go_wp2_with fail
 go_ret
 exact GivesW.cut HC3.1 HB2.1
theorem whole_any (l:List R) (fo ng:Bool) (A:Option Addr) (cap:Nat) (w:World) (hlen:l.length≤24576) (hcap:l.length≤cap) (hl:Lst w w.heap.size A l) (hG:Gl w) :
  Calls Tryz.prog 85 #[.slice A l.length cap,.bool fo,.bool ng] w (GivesW (wholeL l fo ng) w):=by
 cases fo<;>cases ng
 ·exact whole_ff l A cap w hlen hcap hl hG
 ·exact whole_ft l A cap w hlen hcap hl hG
 ·exact whole_tf l A cap w hlen hcap hl hG
 ·exact whole_tt l A cap w hlen hcap hl hG
end
section
open Go.RowKit Mem
open Sy (g)
attribute [local go_sem] build_i0 build_i3 build_in build_is Rs.run_not_true Rs.run_not_false
variable {bs:List UInt8} {k f m:Nat} {acc:List Part}
def GivesK (x:Except (Nat×Nat) (List Part×Nat)) (fo ng:Bool) (w:World) (e:Ending) (w':World):Prop:=match x with
 | .error (c,pl)=>e=.returned (.tuple #[.slice none 0 0,.int .i64 0,.int .i64 (c:Int),.int .i64 (pl:Int)])∧Below w.heap.size w w'
 | .ok (l,q)=>∃ v,e=.returned (.tuple #[v,.int .i64 (q:Int),.int .i64 0,.int .i64 0])∧Lies w.heap.size (wholeL (allL l) fo ng) v w'∧Below w.heap.size w w'
def KRel (bs:List UInt8) (k f:Nat) (w:World) (v i:Value) (wr:World):Prop:=∃ (m:Nat) (acc:List Part),i=.int .i64 m∧f≤m∧m≤bs.length∧clsP bs k=clsF bs k f m acc∧(allL acc).length≤6*(m-f)∧Rs.Cut w (allL acc) v wr
theorem clsF_end (h:bs.length≤m):clsF bs k f m acc=.error (33,k):=by rw [clsF,dif_neg (by omega)]
theorem clsF_stop (h:m<bs.length) (h1:m≠f) (h2:g bs m=93):clsF bs k f m acc=.ok (acc,m+1):=by rw [clsF,dif_pos h,if_pos ⟨h1,h2⟩]
theorem clsF_err {e:Nat×Nat} (h:m<bs.length) (h1:¬ (m≠f∧g bs m=93)) (h2:partP bs m=.error e):clsF bs k f m acc=.error e:=by rw [clsF,dif_pos h,if_neg h1,h2]
theorem clsF_on {q:Nat} {p:Part} (h:m<bs.length) (h1:¬ (m≠f∧g bs m=93)) (h2:partP bs m=.ok (p,q)) (hq:m<q):clsF bs k f m acc=clsF bs k f q (acc++[p]):=by
 rw [clsF,dif_pos h,if_neg h1,h2]
 simp only []
 rw [dif_pos hq]
theorem allL_snoc (l:List Part) (p:Part):allL (l++[p])=allL l++partL p:=by simp [allL]
theorem class_in (bs:List UInt8) (A:Option Addr) (cap k:Nat) (fo:Bool) (w:World) (hP:PV bs A cap w) (hG:Gl w) (hk:k<bs.length) (hl:bs.length≤4096) (h1:g bs k=91) :
  Calls Tryz.prog 71 #[.slice A bs.length cap,.int .i64 (k:Int),.bool fo] w (GivesK (clsP bs k) fo (decide (g bs (k+1)=94)) w):=by
 have HP:=hide hP
 have HG:=hide hG
 have hroom:=hP.room
 have htop:=hP.top
 have hli:(bs.length:Int)≤4096:=by omega
 have hki:(k:Int)+1≤(bs.length:Int):=by omega
 have C1:=hide (stands_b hP (k:=k) (c:=91) (b:=true) (by omega) (by simp [h1]))
 obtain ⟨i0,hi0,hz0,hz1,hz2⟩:=info_parts Rs.info_range
 clear hP hG
 by_cases h2:g bs (k+1)=94
 ·have C2:=hide (stands_e HP.1 (i:=(k:Int)+1) (k:=k+1) (c:=94) (b:=true) (by omega) (by push_cast;rfl) (by simp [h2]))
  have hk2:=g_in (bs:=bs) (k:=k+1) (by omega)
  have hki2:(k:Int)+2≤(bs.length:Int):=by omega
  rw [decide_eq_true h2]
  obtain ⟨f,hf⟩:∃ f,k+2=f:=⟨_,rfl⟩
  have hfi:(k:Int)+1+1=(f:Int):=by omega
  have hfl:f≤bs.length:=by omega
  have HFP:=hide (show clsP bs k=clsF bs k f f [] by unfold clsP fsP;rw [if_pos h2,hf])
  have HFL:=hide hfl
  clear hk2 h1 h2 hf hfl
  go_enter Tryz.func71,Tryz.ntmps71
  go_wp2_with fail
  refine C1.1.mono ?_
  rintro e w1 ⟨rfl,hw1⟩
  obtain rfl:_=w1:=hw1.symm
  go_wp2_with fail
  refine C2.1.mono ?_
  rintro e w1 ⟨rfl,hw1⟩
  obtain rfl:_=w1:=hw1.symm
  go_wp2_with fail
  go_loopw [12,13] (fun v i wr=>KRel bs k f w v i wr) (fun _ i _=>bs.length-(intOf i).toNat)
  case atStart=>exact ⟨f,[],rfl,Nat.le_refl _,HFL.1,HFP.1,by simp [allL],World.ownsRow_nil _ _ _ _,Below.refl _ _⟩
  case round=>
   obtain ⟨m,acc,rfl,hfm,hm,hF,hal,hcut⟩:=hrel
   go_hideQ
   have HF:=hide hF
   have HCUT:=hide hcut
   have hmi:(m:Int)≤(bs.length:Int):=by omega
   clear hF hcut
   by_cases hmf:m=f
   ·have e1:((m:Int)==(f:Int))=true:=by rw [beq_iff_eq];omega
    have hno:¬ (m≠f∧g bs m=93):=fun h=>h.1 hmf
    clear hmf
    by_cases hin:m<bs.length
    ·have hin':(m:Int)<(bs.length:Int):=by omega
     have hpi:=part_in hin
     have CP:=hide (part_any bs A cap m wr (HP.1.below HCUT.1.2) (HG.1.below HCUT.1.2) hin (by omega))
     have HE:=hide (fun e h=>HF.1.trans (clsF_err (acc:=acc) (e:=e) hin hno h))
     have HO:=hide (fun p q h hq=>HF.1.trans (clsF_on (acc:=acc) (p:=p) (q:=q) hin hno h hq))
     cases hp:partP bs m with
     | error e=>
      obtain ⟨c,pl⟩:=e
      rw [hp] at CP hpi
      have HQE:=hide (HE.1 _ hp)
      have e0:((c:Int) != 0)=true:=by have:=hpi.1;simp;omega
      unfold GivesP at CP
      simp only [] at CP
      clear hpi HE HO hp hno
      go_wp2_with fail
      refine CP.1.mono ?_
      rintro e w5 ⟨rfl,hB⟩
      have HB5:=hide (HCUT.1.2.trans (hB.mono HCUT.1.2.size))
      clear hB
      go_wp2_with fail
      (try simp only [Exit.inBlock,Exit.then])
      exact bodyPost_ret (v:=.tuple #[.slice none 0 0,.int .i64 0,.int .i64 (c:Int),.int .i64 (pl:Int)]) (by simp [results,Tryz.f71]) rfl (by rw [HQE.1];exact ⟨rfl,HB5.1⟩)
     | ok pq=>
      obtain ⟨p,q⟩:=pq
      rw [hp] at CP hpi
      obtain ⟨hq1,hq2,hpl⟩:=hpi
      have hQ:=HO.1 _ _ hp hq1
      unfold GivesP at CP
      simp only [] at CP
      have HSN:=hide (allL_snoc acc p)
      have HQ:=hide hQ
      have hwz:=HCUT.1.2.size
      generalize allL acc=pre at *
      generalize partL p=lp at *
      clear HE HO hQ hp hno
      go_wp2_with fail
      refine CP.1.mono ?_
      rintro e w5 ⟨v5,rfl,hl,hB⟩
      obtain ⟨A5,c5,rfl,hc5,hm5,hl5,-⟩:=hl
      have HR5:=hide hl5.reads
      have HOW:=hide (Rs.own_below HCUT.1.1 hB)
      have HB5:=hide (HCUT.1.2.trans (hB.mono hwz))
      have hwz5:=HB5.1.size
      have hmx:pre.length+lp.length≤maxLen:=by unfold maxLen;omega
      clear hl5 hB CP
      go_wp2_with (at_builtin;refine wpList_append_any _ rfl (.tmp 57) (.tmp 58) 46 rfl w.heap.size 56 i0 (.agg #[.int .i64 0,.int .i64 0]) 2 16 Tryz.underlying46 hi0 hz0 hz1 hz2 rfl (by decide) _ pre.length _ rfl HOW.1 _ _ _ _ (Rs.flat lp) rfl HR5.1 (Rs.flat_one lp) hmx (by omega) hwz5 ?_;intro v6 w6 ho6 hg6 hn6;have HO6:=hide ho6;have HG6:=hide hg6;clear ho6 hg6 hn6)
      have hR:KRel bs k f w v6 (.int .i64 (q:Int)) w6:=⟨q,acc++[p],rfl,by omega,hq2,HQ.1,by rw [HSN.1,List.length_append];omega,by
       rw [HSN.1]
       exact ⟨by rw [Rs.flat_append,List.length_append];exact HO6.1,Rs.below_app' HB5.1 HOW.1 HG6.1⟩⟩
      have HR:=hide hR
      clear hR
      first|exact ⟨HR.1,by simp [intOf];omega⟩|go_roundw
      all_goals first|exact HR.1|(simp [intOf];omega)
    ·have hin':(bs.length:Int)≤(m:Int):=by omega
     have HQE:=hide (HF.1.trans (clsF_end (acc:=acc) (by omega)))
     have HBW:=hide HCUT.1.2
     clear hno
     go_wp2_with fail
     (try simp only [Exit.inBlock,Exit.then])
     exact bodyPost_ret (v:=.tuple #[.slice none 0 0,.int .i64 0,.int .i64 33,.int .i64 (k:Int)]) (by simp [results,Tryz.f71]) rfl (by rw [HQE.1];exact ⟨rfl,HBW.1⟩)
   ·have e1:((m:Int)==(f:Int))=false:=by rw [beq_eq_false_iff_ne];omega
    have CS:=hide (fun b h=>stands_b (HP.1.below HCUT.1.2) (k:=m) (c:=93) (b:=b) (by omega) h)
    by_cases h93:g bs m=93
    ·have CS1:=hide (CS.1 true (by simp [h93]))
     have hin:=g_in (bs:=bs) (k:=m) (by omega)
     have hin':(m:Int)+1≤(bs.length:Int):=by omega
     have HQE:=hide (HF.1.trans (clsF_stop (acc:=acc) hin hmf h93))
     obtain ⟨A2,c2,rfl,hl2,hc2,-⟩:=Rs.own_lst HCUT.1.1
     have HWL:=hide (show ∀ w e w',GivesK (.ok (acc,m+1)) fo true w e w'=∃ v,e=.returned (.tuple #[v,.int .i64 ((m:Int)+1),.int .i64 0,.int .i64 0])∧Lies w.heap.size (wholeL (allL acc) fo true) v w'∧Below w.heap.size w w' from fun _ _ _=>rfl)
     have CW:=hide (whole_any (allL acc) fo true A2 c2 wr (by omega) hc2 hl2 (HG.1.below HCUT.1.2))
     have HBW:=hide HCUT.1.2
     clear CS h93 hin hl2 hc2 hmf HF HCUT
     generalize allL acc=pre at *
     go_wp2_with fail
     refine CS1.1.mono ?_
     rintro e w5 ⟨rfl,hw5⟩
     obtain rfl:_=w5:=hw5.symm
     go_wp2_with fail
     refine CW.1.mono ?_
     rintro e w6 ⟨v6,rfl,hl6,hB⟩
     have HL6:=hide (hl6.mono HBW.1.size)
     have HB6:=hide (HBW.1.trans (hB.mono HBW.1.size))
     clear hl6 hB CW
     go_wp2_with fail
     (try simp only [Exit.inBlock,Exit.then])
     exact bodyPost_ret (v:=.tuple #[v6,.int .i64 ((m:Int)+1),.int .i64 0,.int .i64 0]) (by simp [results,Tryz.f71]) rfl (by rw [HQE.1,HWL.1];exact ⟨v6,rfl,HL6.1,HB6.1⟩)
    ·have CS1:=hide (CS.1 false (by simp [h93]))
     clear CS
     have hno:¬ (m≠f∧g bs m=93):=fun h=>h93 h.2
     clear hmf
     by_cases hin:m<bs.length
     ·have hin':(m:Int)<(bs.length:Int):=by omega
      have hpi:=part_in hin
      have CP:=hide (part_any bs A cap m wr (HP.1.below HCUT.1.2) (HG.1.below HCUT.1.2) hin (by omega))
      have HE:=hide (fun e h=>HF.1.trans (clsF_err (acc:=acc) (e:=e) hin hno h))
      have HO:=hide (fun p q h hq=>HF.1.trans (clsF_on (acc:=acc) (p:=p) (q:=q) hin hno h hq))
      cases hp:partP bs m with
      | error e=>
       obtain ⟨c,pl⟩:=e
       rw [hp] at CP hpi
       have HQE:=hide (HE.1 _ hp)
       have e0:((c:Int) != 0)=true:=by have:=hpi.1;simp;omega
       unfold GivesP at CP
       simp only [] at CP
       clear hpi HE HO hp hno
       go_wp2_with fail
       refine CS1.1.mono ?_
       rintro e w4 ⟨rfl,hw4⟩
       obtain rfl:_=w4:=hw4.symm
       go_wp2_with fail
       refine CP.1.mono ?_
       rintro e w5 ⟨rfl,hB⟩
       have HB5:=hide (HCUT.1.2.trans (hB.mono HCUT.1.2.size))
       clear hB
       go_wp2_with fail
       (try simp only [Exit.inBlock,Exit.then])
       exact bodyPost_ret (v:=.tuple #[.slice none 0 0,.int .i64 0,.int .i64 (c:Int),.int .i64 (pl:Int)]) (by simp [results,Tryz.f71]) rfl (by rw [HQE.1];exact ⟨rfl,HB5.1⟩)
      | ok pq=>
       obtain ⟨p,q⟩:=pq
       rw [hp] at CP hpi
       obtain ⟨hq1,hq2,hpl⟩:=hpi
       have hQ:=HO.1 _ _ hp hq1
       unfold GivesP at CP
       simp only [] at CP
       have HSN:=hide (allL_snoc acc p)
       have HQ:=hide hQ
       have hwz:=HCUT.1.2.size
       generalize allL acc=pre at *
       generalize partL p=lp at *
       clear HE HO hQ hp hno
       go_wp2_with fail
       refine CS1.1.mono ?_
       rintro e w4 ⟨rfl,hw4⟩
       obtain rfl:_=w4:=hw4.symm
       go_wp2_with fail
       refine CP.1.mono ?_
       rintro e w5 ⟨v5,rfl,hl,hB⟩
       obtain ⟨A5,c5,rfl,hc5,hm5,hl5,-⟩:=hl
       have HR5:=hide hl5.reads
       have HOW:=hide (Rs.own_below HCUT.1.1 hB)
       have HB5:=hide (HCUT.1.2.trans (hB.mono hwz))
       have hwz5:=HB5.1.size
       have hmx:pre.length+lp.length≤maxLen:=by unfold maxLen;omega
       clear hl5 hB CP
       go_wp2_with (at_builtin;refine wpList_append_any _ rfl (.tmp 57) (.tmp 58) 46 rfl w.heap.size 56 i0 (.agg #[.int .i64 0,.int .i64 0]) 2 16 Tryz.underlying46 hi0 hz0 hz1 hz2 rfl (by decide) _ pre.length _ rfl HOW.1 _ _ _ _ (Rs.flat lp) rfl HR5.1 (Rs.flat_one lp) hmx (by omega) hwz5 ?_;intro v6 w6 ho6 hg6 hn6;have HO6:=hide ho6;have HG6:=hide hg6;clear ho6 hg6 hn6)
       have hR:KRel bs k f w v6 (.int .i64 (q:Int)) w6:=⟨q,acc++[p],rfl,by omega,hq2,HQ.1,by rw [HSN.1,List.length_append];omega,by
        rw [HSN.1]
        exact ⟨by rw [Rs.flat_append,List.length_append];exact HO6.1,Rs.below_app' HB5.1 HOW.1 HG6.1⟩⟩
       have HR:=hide hR
       clear hR
       first|exact ⟨HR.1,by simp [intOf];omega⟩|go_roundw
       all_goals first|exact HR.1|(simp [intOf];omega)
     ·have hin':(bs.length:Int)≤(m:Int):=by omega
      have HQE:=hide (HF.1.trans (clsF_end (acc:=acc) (by omega)))
      have HBW:=hide HCUT.1.2
      clear hno
      go_wp2_with fail
      refine CS1.1.mono ?_
      rintro e w4 ⟨rfl,hw4⟩
      obtain rfl:_=w4:=hw4.symm
      go_wp2_with fail
      (try simp only [Exit.inBlock,Exit.then])
      exact bodyPost_ret (v:=.tuple #[.slice none 0 0,.int .i64 0,.int .i64 33,.int .i64 (k:Int)]) (by simp [results,Tryz.f71]) rfl (by rw [HQE.1];exact ⟨rfl,HBW.1⟩)
 ·have C2:=hide (stands_e HP.1 (i:=(k:Int)+1) (k:=k+1) (c:=94) (b:=false) (by omega) (by push_cast;rfl) (by simp [h2]))
  rw [decide_eq_false h2]
  obtain ⟨f,hf⟩:∃ f,k+1=f:=⟨_,rfl⟩
  have hfi:(k:Int)+1=(f:Int):=by omega
  have hfl:f≤bs.length:=by omega
  have HFP:=hide (show clsP bs k=clsF bs k f f [] by unfold clsP fsP;rw [if_neg h2,hf])
  have HFL:=hide hfl
  rw [hfi] at C2
  clear h1 h2 hf hfl
  go_enter Tryz.func71,Tryz.ntmps71
  go_wp2_with fail
  refine C1.1.mono ?_
  rintro e w1 ⟨rfl,hw1⟩
  obtain rfl:_=w1:=hw1.symm
  go_wp2_with fail
  refine C2.1.mono ?_
  rintro e w1 ⟨rfl,hw1⟩
  obtain rfl:_=w1:=hw1.symm
  go_wp2_with fail
  go_loopw [12,13] (fun v i wr=>KRel bs k f w v i wr) (fun _ i _=>bs.length-(intOf i).toNat)
  case atStart=>exact ⟨f,[],rfl,Nat.le_refl _,HFL.1,HFP.1,by simp [allL],World.ownsRow_nil _ _ _ _,Below.refl _ _⟩
  case round=>
   obtain ⟨m,acc,rfl,hfm,hm,hF,hal,hcut⟩:=hrel
   go_hideQ
   have HF:=hide hF
   have HCUT:=hide hcut
   have hmi:(m:Int)≤(bs.length:Int):=by omega
   clear hF hcut
   by_cases hmf:m=f
   ·have e1:((m:Int)==(f:Int))=true:=by rw [beq_iff_eq];omega
    have hno:¬ (m≠f∧g bs m=93):=fun h=>h.1 hmf
    clear hmf
    by_cases hin:m<bs.length
    ·have hin':(m:Int)<(bs.length:Int):=by omega
     have hpi:=part_in hin
     have CP:=hide (part_any bs A cap m wr (HP.1.below HCUT.1.2) (HG.1.below HCUT.1.2) hin (by omega))
     have HE:=hide (fun e h=>HF.1.trans (clsF_err (acc:=acc) (e:=e) hin hno h))
     have HO:=hide (fun p q h hq=>HF.1.trans (clsF_on (acc:=acc) (p:=p) (q:=q) hin hno h hq))
     cases hp:partP bs m with
     | error e=>
      obtain ⟨c,pl⟩:=e
      rw [hp] at CP hpi
      have HQE:=hide (HE.1 _ hp)
      have e0:((c:Int) != 0)=true:=by have:=hpi.1;simp;omega
      unfold GivesP at CP
      simp only [] at CP
      clear hpi HE HO hp hno
      go_wp2_with fail
      refine CP.1.mono ?_
      rintro e w5 ⟨rfl,hB⟩
      have HB5:=hide (HCUT.1.2.trans (hB.mono HCUT.1.2.size))
      clear hB
      go_wp2_with fail
      (try simp only [Exit.inBlock,Exit.then])
      exact bodyPost_ret (v:=.tuple #[.slice none 0 0,.int .i64 0,.int .i64 (c:Int),.int .i64 (pl:Int)]) (by simp [results,Tryz.f71]) rfl (by rw [HQE.1];exact ⟨rfl,HB5.1⟩)
     | ok pq=>
      obtain ⟨p,q⟩:=pq
      rw [hp] at CP hpi
      obtain ⟨hq1,hq2,hpl⟩:=hpi
      have hQ:=HO.1 _ _ hp hq1
      unfold GivesP at CP
      simp only [] at CP
      have HSN:=hide (allL_snoc acc p)
      have HQ:=hide hQ
      have hwz:=HCUT.1.2.size
      generalize allL acc=pre at *
      generalize partL p=lp at *
      clear HE HO hQ hp hno
      go_wp2_with fail
      refine CP.1.mono ?_
      rintro e w5 ⟨v5,rfl,hl,hB⟩
      obtain ⟨A5,c5,rfl,hc5,hm5,hl5,-⟩:=hl
      have HR5:=hide hl5.reads
      have HOW:=hide (Rs.own_below HCUT.1.1 hB)
      have HB5:=hide (HCUT.1.2.trans (hB.mono hwz))
      have hwz5:=HB5.1.size
      have hmx:pre.length+lp.length≤maxLen:=by unfold maxLen;omega
      clear hl5 hB CP
      go_wp2_with (at_builtin;refine wpList_append_any _ rfl (.tmp 57) (.tmp 58) 46 rfl w.heap.size 56 i0 (.agg #[.int .i64 0,.int .i64 0]) 2 16 Tryz.underlying46 hi0 hz0 hz1 hz2 rfl (by decide) _ pre.length _ rfl HOW.1 _ _ _ _ (Rs.flat lp) rfl HR5.1 (Rs.flat_one lp) hmx (by omega) hwz5 ?_;intro v6 w6 ho6 hg6 hn6;have HO6:=hide ho6;have HG6:=hide hg6;clear ho6 hg6 hn6)
      have hR:KRel bs k f w v6 (.int .i64 (q:Int)) w6:=⟨q,acc++[p],rfl,by omega,hq2,HQ.1,by rw [HSN.1,List.length_append];omega,by
       rw [HSN.1]
       exact ⟨by rw [Rs.flat_append,List.length_append];exact HO6.1,Rs.below_app' HB5.1 HOW.1 HG6.1⟩⟩
      have HR:=hide hR
      clear hR
      first|exact ⟨HR.1,by simp [intOf];omega⟩|go_roundw
      all_goals first|exact HR.1|(simp [intOf];omega)
    ·have hin':(bs.length:Int)≤(m:Int):=by omega
     have HQE:=hide (HF.1.trans (clsF_end (acc:=acc) (by omega)))
     have HBW:=hide HCUT.1.2
     clear hno
     go_wp2_with fail
     (try simp only [Exit.inBlock,Exit.then])
     exact bodyPost_ret (v:=.tuple #[.slice none 0 0,.int .i64 0,.int .i64 33,.int .i64 (k:Int)]) (by simp [results,Tryz.f71]) rfl (by rw [HQE.1];exact ⟨rfl,HBW.1⟩)
   ·have e1:((m:Int)==(f:Int))=false:=by rw [beq_eq_false_iff_ne];omega
    have CS:=hide (fun b h=>stands_b (HP.1.below HCUT.1.2) (k:=m) (c:=93) (b:=b) (by omega) h)
    by_cases h93:g bs m=93
    ·have CS1:=hide (CS.1 true (by simp [h93]))
     have hin:=g_in (bs:=bs) (k:=m) (by omega)
     have hin':(m:Int)+1≤(bs.length:Int):=by omega
     have HQE:=hide (HF.1.trans (clsF_stop (acc:=acc) hin hmf h93))
     obtain ⟨A2,c2,rfl,hl2,hc2,-⟩:=Rs.own_lst HCUT.1.1
     have HWL:=hide (show ∀ w e w',GivesK (.ok (acc,m+1)) fo false w e w'=∃ v,e=.returned (.tuple #[v,.int .i64 ((m:Int)+1),.int .i64 0,.int .i64 0])∧Lies w.heap.size (wholeL (allL acc) fo false) v w'∧Below w.heap.size w w' from fun _ _ _=>rfl)
     have CW:=hide (whole_any (allL acc) fo false A2 c2 wr (by omega) hc2 hl2 (HG.1.below HCUT.1.2))
     have HBW:=hide HCUT.1.2
     clear CS h93 hin hl2 hc2 hmf HF HCUT
     generalize allL acc=pre at *
     go_wp2_with fail
     refine CS1.1.mono ?_
     rintro e w5 ⟨rfl,hw5⟩
     obtain rfl:_=w5:=hw5.symm
     go_wp2_with fail
     refine CW.1.mono ?_
     rintro e w6 ⟨v6,rfl,hl6,hB⟩
     have HL6:=hide (hl6.mono HBW.1.size)
     have HB6:=hide (HBW.1.trans (hB.mono HBW.1.size))
     clear hl6 hB CW
     go_wp2_with fail
     (try simp only [Exit.inBlock,Exit.then])
     exact bodyPost_ret (v:=.tuple #[v6,.int .i64 ((m:Int)+1),.int .i64 0,.int .i64 0]) (by simp [results,Tryz.f71]) rfl (by rw [HQE.1,HWL.1];exact ⟨v6,rfl,HL6.1,HB6.1⟩)
    ·have CS1:=hide (CS.1 false (by simp [h93]))
     clear CS
     have hno:¬ (m≠f∧g bs m=93):=fun h=>h93 h.2
     clear hmf
     by_cases hin:m<bs.length
     ·have hin':(m:Int)<(bs.length:Int):=by omega
      have hpi:=part_in hin
      have CP:=hide (part_any bs A cap m wr (HP.1.below HCUT.1.2) (HG.1.below HCUT.1.2) hin (by omega))
      have HE:=hide (fun e h=>HF.1.trans (clsF_err (acc:=acc) (e:=e) hin hno h))
      have HO:=hide (fun p q h hq=>HF.1.trans (clsF_on (acc:=acc) (p:=p) (q:=q) hin hno h hq))
      cases hp:partP bs m with
      | error e=>
       obtain ⟨c,pl⟩:=e
       rw [hp] at CP hpi
       have HQE:=hide (HE.1 _ hp)
       have e0:((c:Int) != 0)=true:=by have:=hpi.1;simp;omega
       unfold GivesP at CP
       simp only [] at CP
       clear hpi HE HO hp hno
       go_wp2_with fail
       refine CS1.1.mono ?_
       rintro e w4 ⟨rfl,hw4⟩
       obtain rfl:_=w4:=hw4.symm
       go_wp2_with fail
       refine CP.1.mono ?_
       rintro e w5 ⟨rfl,hB⟩
       have HB5:=hide (HCUT.1.2.trans (hB.mono HCUT.1.2.size))
       clear hB
       go_wp2_with fail
       (try simp only [Exit.inBlock,Exit.then])
       exact bodyPost_ret (v:=.tuple #[.slice none 0 0,.int .i64 0,.int .i64 (c:Int),.int .i64 (pl:Int)]) (by simp [results,Tryz.f71]) rfl (by rw [HQE.1];exact ⟨rfl,HB5.1⟩)
      | ok pq=>
       obtain ⟨p,q⟩:=pq
       rw [hp] at CP hpi
       obtain ⟨hq1,hq2,hpl⟩:=hpi
       have hQ:=HO.1 _ _ hp hq1
       unfold GivesP at CP
       simp only [] at CP
       have HSN:=hide (allL_snoc acc p)
       have HQ:=hide hQ
       have hwz:=HCUT.1.2.size
       generalize allL acc=pre at *
       generalize partL p=lp at *
       clear HE HO hQ hp hno
       go_wp2_with fail
       refine CS1.1.mono ?_
       rintro e w4 ⟨rfl,hw4⟩
       obtain rfl:_=w4:=hw4.symm
       go_wp2_with fail
       refine CP.1.mono ?_
       rintro e w5 ⟨v5,rfl,hl,hB⟩
       obtain ⟨A5,c5,rfl,hc5,hm5,hl5,-⟩:=hl
       have HR5:=hide hl5.reads
       have HOW:=hide (Rs.own_below HCUT.1.1 hB)
       have HB5:=hide (HCUT.1.2.trans (hB.mono hwz))
       have hwz5:=HB5.1.size
       have hmx:pre.length+lp.length≤maxLen:=by unfold maxLen;omega
       clear hl5 hB CP
       go_wp2_with (at_builtin;refine wpList_append_any _ rfl (.tmp 57) (.tmp 58) 46 rfl w.heap.size 56 i0 (.agg #[.int .i64 0,.int .i64 0]) 2 16 Tryz.underlying46 hi0 hz0 hz1 hz2 rfl (by decide) _ pre.length _ rfl HOW.1 _ _ _ _ (Rs.flat lp) rfl HR5.1 (Rs.flat_one lp) hmx (by omega) hwz5 ?_;intro v6 w6 ho6 hg6 hn6;have HO6:=hide ho6;have HG6:=hide hg6;clear ho6 hg6 hn6)
       have hR:KRel bs k f w v6 (.int .i64 (q:Int)) w6:=⟨q,acc++[p],rfl,by omega,hq2,HQ.1,by rw [HSN.1,List.length_append];omega,by
        rw [HSN.1]
        exact ⟨by rw [Rs.flat_append,List.length_append];exact HO6.1,Rs.below_app' HB5.1 HOW.1 HG6.1⟩⟩
       have HR:=hide hR
       clear hR
       first|exact ⟨HR.1,by simp [intOf];omega⟩|go_roundw
       all_goals first|exact HR.1|(simp [intOf];omega)
     ·have hin':(bs.length:Int)≤(m:Int):=by omega
      have HQE:=hide (HF.1.trans (clsF_end (acc:=acc) (by omega)))
      have HBW:=hide HCUT.1.2
      clear hno
      go_wp2_with fail
      refine CS1.1.mono ?_
      rintro e w4 ⟨rfl,hw4⟩
      obtain rfl:_=w4:=hw4.symm
      go_wp2_with fail
      (try simp only [Exit.inBlock,Exit.then])
      exact bodyPost_ret (v:=.tuple #[.slice none 0 0,.int .i64 0,.int .i64 33,.int .i64 (k:Int)]) (by simp [results,Tryz.f71]) rfl (by rw [HQE.1];exact ⟨rfl,HBW.1⟩)
theorem class_any (bs:List UInt8) (A:Option Addr) (cap:Nat) (i:Int) (fo:Bool) (w:World) (hP:PV bs A cap w) (hG:Gl w) (hl:bs.length≤4096) :
  Calls Tryz.prog 71 #[.slice A bs.length cap,.int .i64 i,.bool fo] w (GivesK (clsz bs i) fo (notz bs i) w):=by
 by_cases h1:gz bs i=91
 ·obtain ⟨k,rfl,hk,h2⟩:=gz_in (bs:=bs) (i:=i) (by omega)
  rw [h2] at h1
  have e:clsz bs (k:Int)=clsP bs k:=by unfold clsz;rw [h2,if_pos h1,Int.toNat_natCast]
  rw [e]
  exact class_in bs A cap k fo w hP hG hk hl h1
 ·have e:clsz bs i=.error (10,0):=by unfold clsz;rw [if_neg h1]
  rw [e]
  have C1:=hide (stands_any bs A cap w hP i 91 (by omega))
  rw [decide_eq_false h1] at C1
  clear h1 hP hG e
  go_enter Tryz.func71,Tryz.ntmps71
  go_wp2_with fail
  refine C1.1.mono ?_
  rintro e w1 ⟨rfl,rfl⟩
  go_wp2_with fail
  (try simp only [Exit.inBlock,Exit.then])
  exact bodyPost_ret (v:=_) (by simp [results,Tryz.f71]) rfl ⟨rfl,Below.refl _ _⟩
end
end Go.Proofs.YtmlbklcmblofkaaGreatDoor.Sc
