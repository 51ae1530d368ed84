/-
  scan.single, scan.ranges, walked.
-/
import Derived.Shelf.Bytes.SlCut
import Derived.Lib.SlBytesConst
import Derived.Ground.SlbtProg
import Derived.Test.YtmlbklcmblofkaaGreatDoorMScD
import Derived.Test.YtmlbklcmblofkaaGreatDoorMScBlank
set_option linter.unusedSimpArgs false
set_option linter.unusedVariables false
set_option maxHeartbeats 4000000
set_option maxRecDepth 100000
namespace Go.Proofs
shelf_lay SlLaysT.n4 Slbt 4 at Tryz as Tryz.cutBytes
end Go.Proofs
namespace Go.Proofs.YtmlbklcmblofkaaGreatDoor.Sc
section
open Go.RowKit Mem
open Sy (g)
open Rs (notL)
open Cl (Gives2 nameL isName)
attribute [local go_sem] build_i0 build_i3 build_in build_is Rs.run_not_true Rs.run_not_false
open Go.Shelf
def hit2 (bs:List UInt8) (i:Nat):Prop:=g bs i=58∧g bs (i+1)=93
theorem fnd2_spec (bs:List UInt8) (k:Nat):(fnd2 bs k=none∧∀ i,k≤i→¬ hit2 bs i)∨∃ j,fnd2 bs k=some j∧k≤j∧hit2 bs j∧∀ i,k≤i→i<j→¬ hit2 bs i:=by
 by_cases hk:k<bs.length
 ·by_cases hh:g bs k=58∧g bs (k+1)=93
  ·exact .inr ⟨k,fnd2_hit hh.1 hh.2,Nat.le_refl _,hh,fun i h1 h2=>by omega⟩
  ·rw [fnd2_miss hk hh]
   have step:∀ i,k≤i→(k+1≤i→¬ hit2 bs i)→¬ hit2 bs i:=fun i h1 h2=>by
    by_cases e:i=k
    ·subst e;exact hh
    ·exact h2 (by omega)
   rcases fnd2_spec bs (k+1) with ⟨h1,h2⟩|⟨j,h1,h2,h3,h4⟩
   ·exact .inl ⟨h1,fun i hi=>step i hi (h2 i)⟩
   ·exact .inr ⟨j,h1,by omega,h3,fun i hi hj=>step i hi (fun h=>h4 i h hj)⟩
 ·refine .inl ⟨fnd2_end (by omega),fun i hi h=>?_⟩
  have:=g_in (bs:=bs) (k:=i) (by rw [h.1];omega)
  omega
termination_by bs.length-k
theorem occ_hit (bs:List UInt8) (m i:Nat):Lib.occAt (bs.drop m) [58,93] i=true↔hit2 bs (m+i):=by
 unfold Lib.occAt hit2
 rw [List.drop_drop]
 have e0:g bs (m+i)=g (bs.drop (m+i)) 0:=by rw [Sy.g_drop];rfl
 have e1:g bs (m+i+1)=g (bs.drop (m+i)) 1:=by rw [Sy.g_drop]
 rw [e0,e1]
 generalize bs.drop (m+i)=l
 match l with
 | []=>simp [Sy.g]
 | [x]=>simp [Sy.g]
 | x :: y :: l=>
  simp only [List.isPrefixOf,Bool.and_eq_true,beq_iff_eq,Bool.and_true]
  simp only [Sy.g,List.getElem?_cons_zero,List.getElem?_cons_succ,Option.getD_some]
  constructor
  ·rintro ⟨rfl,rfl⟩;exact ⟨rfl,rfl⟩
  ·rintro ⟨h1,h2⟩
   exact ⟨UInt8.toNat_inj.1 h1.symm,UInt8.toNat_inj.1 h2.symm⟩
theorem index_fnd (bs:List UInt8) (m:Nat):(Lib.index (bs.drop m) [58,93]=-1∧fnd2 bs m=none)∨∃ o:Nat,Lib.index (bs.drop m) [58,93]=o∧fnd2 bs m=some (m+o)∧m+o+1<bs.length:=by
 rcases fnd2_spec bs m with ⟨h1,h2⟩|⟨j,h1,h2,h3,h4⟩
 ·refine .inl ⟨Lib.index_none fun i hi=>?_,h1⟩
  rw [← Bool.not_eq_true,occ_hit]
  exact h2 _ (by omega)
 ·have hl:=g_in (bs:=bs) (k:=j+1) (by rw [h3.2];omega)
  refine .inr ⟨j-m,Lib.index_first (by rw [List.length_drop];omega) ((occ_hit bs m (j-m)).2 (by rw [show m+(j-m)=j by omega];exact h3)) fun i hi=>?_,by rw [show m+(j-m)=j by omega];exact h1,by omega⟩
  rw [← Bool.not_eq_true,occ_hit]
  exact h4 _ (by omega) (by omega)
theorem toNat_byte (l:List UInt8):∀ x∈l.map (fun c=>(c.toNat:Int)),0≤x∧x<256:=by
 intro x hx
 obtain ⟨c,-,rfl⟩:=List.mem_map.1 hx
 have:=c.toNat_lt
 omega
def tailA (b off cap m:Nat):Option Addr:=if cap=m then some ⟨b,off,none⟩ else some ⟨b,off+m,none⟩
theorem cut_any (bs:List UInt8) (b off m cap G:Nat) (w:World) (hP:PV bs (some ⟨b,off,none⟩) cap w) (hm:m≤bs.length) (hl:bs.length≤4096) (hM:Mx w) (h0:w.cell? ⟨G,0,none⟩=some (.int .u8 58)) (h1:w.cell? ⟨G,1,none⟩=some (.int .u8 93)) :
  Calls Tryz.prog 141 #[.slice (tailA b off cap m) (bs.length-m) (cap-m),.slice (some ⟨G,0,none⟩) 2 2] w fun e w'=>e=.returned (Lib.cutV (tailA b off cap m) (bs.length-m) (cap-m) 2 (Lib.index (bs.drop m) [58,93]))∧∃ q,w'=w.drewN q:=by
 obtain ⟨hM1,mx,hM2⟩:=hM
 have hroom:=hP.room
 have hcon:=Any.bytes_Cut_all Tryz.cutBytes (tailA b off cap m) (some ⟨G,0,none⟩) (bs.length-m) (cap-m) 2 2 ((bs.drop m).map fun c=>(c.toNat:Int)) [58,93] mx w (by rw [List.length_map,List.length_drop]) rfl (toNat_byte _)
  (fun y hy=>by simp only [List.mem_cons,List.mem_nil_iff,or_false] at hy;omega)
  (fun hn=>by
   obtain ⟨b',off',e,hb,hc⟩:=hP.cell (k:=m) (by omega)
   cases e
   refine ⟨b,off+m,by unfold tailA;rw [if_neg (by omega)],fun i hi=>?_⟩
   rw [Nat.add_assoc,hc (m+i) (by omega),drop_num (by omega)])
  (fun hn=>⟨G,0,rfl,fun i hi=>by
   match i,hi with
   | 0,_=>exact h0
   | 1,_=>exact h1⟩)
  (fun e=>by unfold tailA at e;split at e<;>cases e) (by omega) (by omega) (by omega) hM2
 rw [bytesOf_nums] at hcon
 exact hcon
theorem tail_str {bs:List UInt8} {b off cap m o:Nat} {w:World} (hP:PV bs (some ⟨b,off,none⟩) cap w) (hm:m+o≤bs.length) (c:Nat) :
  (convert 43 9 (.slice (tailA b off cap m) o c)).run Tryz.prog w=.ok (.string ⟨((bs.drop m).take o).toArray⟩) w:=by
 have hroom:=hP.room
 by_cases h0:o=0
 ·subst h0
  refine Str.conv_str _ w.heap.size 0 c _ w (by simp) ⟨by simp,fun h=>absurd h (by omega)⟩
 ·unfold tailA
  rw [if_neg (by omega)]
  have:=sub_str (k:=m) (m:=m+o) (j:=o) hP rfl hm (by omega) c
  rwa [show m+o-m=o by omega] at this
theorem named_any (bs:List UInt8) (A:Option Addr) (cap k:Nat) (w:World) (hP:PV bs A cap w) (hG:Gl w) (hk:k≤bs.length) (hk0:0<k) (hl:bs.length≤4096) :
  Calls Tryz.prog 122 #[.slice A bs.length cap,.int .i64 (k:Int)] w (GivesI (namedP bs k) w):=by
 have hb0:Below w.heap.size w (w.alloc (.cells iz 116)):=(Below.refl w.heap.size w).alloc (Nat.le_refl _) _
 have HP:=hide (hP.below hb0)
 have HG:=hide (hG.below hb0)
 have hroom:=hP.room
 have htop:=hP.top
 have HB0:=hide hb0
 have HK:=hide (Blk.new w 116 iz)
 have hsz:=HK.1.lt
 clear hP hG hb0
 obtain ⟨b,off,rfl,hb,-⟩:=HP.1.cell (k:=0) (by omega)
 by_cases h1:g bs k=94
 ·have CT:=hide (stands_b HP.1 (k:=k) (c:=94) (b:=true) (by omega) (by simp [h1]))
  have hk1:=g_in (bs:=bs) (k:=k) (by omega)
  have hnk:nkP bs k=k+1:=by unfold nkP;rw [if_pos h1]
  obtain ⟨m,hme⟩:∃ m,k+1=m:=⟨_,rfl⟩
  rw [hme] at hnk
  have hmi:(k:Int)+1=(m:Int):=by omega
  have hm:m≤bs.length:=by omega
  have hmii:(m:Int)≤(bs.length:Int):=by omega
  have hmc:(m:Int)≤(cap:Int):=by omega
  clear hme hk1
  have hbl:Below (w.alloc (.cells iz 116)).heap.size (w.alloc (.cells iz 116)) ((w.alloc (.cells iz 116)).alloc (.cells #[.int .u8 58,.int .u8 93] 5 (2,3))):=(Below.refl _ _).alloc (Nat.le_refl _) _
  have HPL:=hide (HP.1.below hbl)
  have HGL:=hide (HG.1.below hbl)
  have HKL:=hide (HK.1.alloc (.cells #[.int .u8 58,.int .u8 93] 5 (2,3)))
  have HBL:=hide (HB0.1.alloc HB0.1.size (.cells #[.int .u8 58,.int .u8 93] 5 (2,3)))
  have hszl:w.heap.size<((w.alloc (.cells iz 116)).alloc (.cells #[.int .u8 58,.int .u8 93] 5 (2,3))).heap.size:=Nat.lt_of_lt_of_le hsz hbl.size
  have hG0:((w.alloc (.cells iz 116)).alloc (.cells #[.int .u8 58,.int .u8 93] 5 (2,3))).cell? ⟨(w.alloc (.cells iz 116)).heap.size,0,none⟩=some (.int .u8 58):=by rw [World.cell?_alloc_mark];rfl
  have hG1:((w.alloc (.cells iz 116)).alloc (.cells #[.int .u8 58,.int .u8 93] 5 (2,3))).cell? ⟨(w.alloc (.cells iz 116)).heap.size,1,none⟩=some (.int .u8 93):=by rw [World.cell?_alloc_mark];rfl
  have kc:=Lib.run_convert_bytes_const (P:=Tryz.prog) (w.alloc (.cells iz 116)) 43 5 #[.int .u8 58,.int .u8 93] 2 2 Tryz.underlying43 Tryz.underlying5
  rw [World.size_alloc] at kc
  have CC:=hide (cut_any bs b off m cap _ _ HPL.1 hm hl HGL.1.mx hG0 hG1)
  rw [World.size_alloc] at CC
  have HST:=hide (fun o W (h:PV bs (some ⟨b,off,none⟩) cap W) (h2:m+o≤bs.length)=>tail_str (m:=m) (o:=o) h h2)
  clear hG0 hG1 hbl HP HG HK HB0
  by_cases hcm:cap=m
  ·have hml:m=bs.length:=by omega
   rcases index_fnd bs m with ⟨hi,hf⟩|⟨o,hi,hf,hfl⟩
   ·unfold tailA at CC HST
    simp only [if_pos hcm] at CC HST
    have hcm2:=hcm.symm
    subst hcm2
    clear hml hcm
    have hz:=show bs.length-m=0 by omega
    rw [hz,Nat.sub_self] at CC
    clear hz
    rw [show namedP bs k=.err 33 by unfold namedP;rw [hnk,hf]]
    rw [hi] at CC
    have hcv:∀ p n c,Lib.cutV p n c 2 (-1)=.tuple #[.slice p n c,.slice none 0 0,.bool false]:=fun p n c=>by unfold Lib.cutV;rw [if_neg (by omega)]
    simp only [hcv] at CC
    have hro:m+0≤bs.length:=by omega
    obtain ⟨s,hs⟩:∃ s,(bs.drop m).take 0=s:=⟨_,rfl⟩
    obtain ⟨p,hq⟩:∃ p,isName s=p:=⟨_,rfl⟩
    clear hi hf hnk hcv
    go_enter Tryz.func122,Tryz.ntmps122
    go_wp2_with fail
    refine CT.1.mono ?_
    rintro e w1 ⟨rfl,rfl⟩
    go_wp2_with fail
    refine CC.1.mono ?_
    rintro e w1 ⟨rfl,q,hw1⟩
    have hB:Below ((w.alloc (.cells iz 116)).alloc (.cells #[.int .u8 58,.int .u8 93] 5 (2,3))).heap.size ((w.alloc (.cells iz 116)).alloc (.cells #[.int .u8 58,.int .u8 93] 5 (2,3))) w1:=by rw [hw1];exact below_drewN (Below.refl _ _) q
    have HP1:=hide (HPL.1.below hB)
    have HG1:=hide (HGL.1.below hB)
    have HK1:=hide (HKL.1.below hB HKL.1.lt)
    have HB1:=hide (HBL.1.trans (hB.mono HBL.1.size))
    have hsz1:=Nat.lt_of_lt_of_le hszl hB.size
    have kc2:=HST.1 0 w1 HP1.1 hro
    have CN:=hide (Cl.named_any s w1 HG1.1.sets)
    rw [hq] at CN
    unfold Cl.Gives2 at CN
    clear hB hw1 HPL HGL HKL HBL CC HST
    rw [hs] at kc2
    go_wp2_with fail
    refine CN.1.mono ?_
    rintro e w5 ⟨v,rfl,hg⟩
    obtain ⟨hl,hB⟩:=Lies.of hg
    have HB5:=hide (HB1.1.trans (hB.mono HB1.1.size))
    have HK5:=hide (HK1.1.below hB HK1.1.lt)
    clear hs hq
    obtain ⟨A5,c5,rfl,-⟩:=hl
    clear hB hg HB1 HK1 CN
    obtain ⟨⟨d0,d1,d2,d3,d4⟩,f0,f1,f2,f3,f4⟩:=cells5 HK5.1
    go_wp2_with fail
    (try simp only [Exit.inBlock,Exit.then])
    exact bodyPost_ret (results_cell2 rfl _ _ w.heap.size _ _ _ rfl rfl (by first|exact set5 HK5.1 _ _ _ _ _|exact HK5.1) Tryz.underlying116 rfl (by kernel_rfl)) rfl ⟨_,rfl,Lies.nil _ _,(by first|exact bel5 HB5.1 (Nat.le_refl _) _ _ _ _ _|exact HB5.1)⟩
   ·omega
  ·rcases index_fnd bs m with ⟨hi,hf⟩|⟨o,hi,hf,hfl⟩
   ·unfold tailA at CC HST
    simp only [if_neg hcm] at CC HST
    rw [show namedP bs k=.err 33 by unfold namedP;rw [hnk,hf]]
    rw [hi] at CC
    have hcv:∀ p n c,Lib.cutV p n c 2 (-1)=.tuple #[.slice p n c,.slice none 0 0,.bool false]:=fun p n c=>by unfold Lib.cutV;rw [if_neg (by omega)]
    simp only [hcv] at CC
    have hro:m+(bs.length-m)≤bs.length:=by omega
    obtain ⟨s,hs⟩:∃ s,(bs.drop m).take (bs.length-m)=s:=⟨_,rfl⟩
    obtain ⟨p,hq⟩:∃ p,isName s=p:=⟨_,rfl⟩
    clear hi hf hnk hcv
    go_enter Tryz.func122,Tryz.ntmps122
    go_wp2_with fail
    refine CT.1.mono ?_
    rintro e w1 ⟨rfl,rfl⟩
    go_wp2_with fail
    refine CC.1.mono ?_
    rintro e w1 ⟨rfl,q,hw1⟩
    have hB:Below ((w.alloc (.cells iz 116)).alloc (.cells #[.int .u8 58,.int .u8 93] 5 (2,3))).heap.size ((w.alloc (.cells iz 116)).alloc (.cells #[.int .u8 58,.int .u8 93] 5 (2,3))) w1:=by rw [hw1];exact below_drewN (Below.refl _ _) q
    have HP1:=hide (HPL.1.below hB)
    have HG1:=hide (HGL.1.below hB)
    have HK1:=hide (HKL.1.below hB HKL.1.lt)
    have HB1:=hide (HBL.1.trans (hB.mono HBL.1.size))
    have hsz1:=Nat.lt_of_lt_of_le hszl hB.size
    have kc2:=HST.1 (bs.length-m) w1 HP1.1 hro
    have CN:=hide (Cl.named_any s w1 HG1.1.sets)
    rw [hq] at CN
    unfold Cl.Gives2 at CN
    clear hB hw1 HPL HGL HKL HBL CC HST
    rw [hs] at kc2
    go_wp2_with fail
    refine CN.1.mono ?_
    rintro e w5 ⟨v,rfl,hg⟩
    obtain ⟨hl,hB⟩:=Lies.of hg
    have HB5:=hide (HB1.1.trans (hB.mono HB1.1.size))
    have HK5:=hide (HK1.1.below hB HK1.1.lt)
    clear hs hq
    obtain ⟨A5,c5,rfl,-⟩:=hl
    clear hB hg HB1 HK1 CN
    obtain ⟨⟨d0,d1,d2,d3,d4⟩,f0,f1,f2,f3,f4⟩:=cells5 HK5.1
    go_wp2_with fail
    (try simp only [Exit.inBlock,Exit.then])
    exact bodyPost_ret (results_cell2 rfl _ _ w.heap.size _ _ _ rfl rfl (by first|exact set5 HK5.1 _ _ _ _ _|exact HK5.1) Tryz.underlying116 rfl (by kernel_rfl)) rfl ⟨_,rfl,Lies.nil _ _,(by first|exact bel5 HB5.1 (Nat.le_refl _) _ _ _ _ _|exact HB5.1)⟩
   ·unfold tailA at CC HST
    simp only [if_neg hcm] at CC HST
    have hfs:=hf
    have hcv:∀ p n c,Lib.cutV p n c 2 (o:Int)=.tuple #[.slice p o c,Lib.fromV p n c (o+2),.bool true]:=fun p n c=>by unfold Lib.cutV;rw [if_pos (by omega),Int.toNat_natCast]
    rw [hi] at CC
    simp only [hcv] at CC
    have hro:m+o≤bs.length:=by omega
    have hmo:(m:Int)+(o:Int)+2≤(bs.length:Int):=by omega
    have HQ:=hide (show namedP bs k=if isName ((bs.drop m).take o) then .nam ((bs.drop m).take o) true (m+o+2) else .err 33 by unfold namedP;rw [hnk,hf,decide_eq_true h1];simp only [Nat.add_sub_cancel_left])
    obtain ⟨s,hs⟩:∃ s,(bs.drop m).take o=s:=⟨_,rfl⟩
    rw [hs] at HQ
    have hlen4:=(Cl.nameL_len s).1
    generalize Lib.fromV (some ⟨b,off+m,none⟩) (bs.length-m) (cap-m) (o+2)=fv at *
    clear hi hf hfs hnk hcv hfl
    cases hq:isName s with
    | false=>
     rw [hq] at HQ
     rw [HQ.1,if_neg (by simp)]
     clear HQ
     go_enter Tryz.func122,Tryz.ntmps122
     go_wp2_with fail
     refine CT.1.mono ?_
     rintro e w1 ⟨rfl,rfl⟩
     go_wp2_with fail
     refine CC.1.mono ?_
     rintro e w1 ⟨rfl,q,hw1⟩
     have hB:Below ((w.alloc (.cells iz 116)).alloc (.cells #[.int .u8 58,.int .u8 93] 5 (2,3))).heap.size ((w.alloc (.cells iz 116)).alloc (.cells #[.int .u8 58,.int .u8 93] 5 (2,3))) w1:=by rw [hw1];exact below_drewN (Below.refl _ _) q
     have HP1:=hide (HPL.1.below hB)
     have HG1:=hide (HGL.1.below hB)
     have HK1:=hide (HKL.1.below hB HKL.1.lt)
     have HB1:=hide (HBL.1.trans (hB.mono HBL.1.size))
     have hsz1:=Nat.lt_of_lt_of_le hszl hB.size
     have kc2:=HST.1 o w1 HP1.1 hro
     have CN:=hide (Cl.named_any s w1 HG1.1.sets)
     rw [hq] at CN
     unfold Cl.Gives2 at CN
     clear hB hw1 HPL HGL HKL HBL CC HST
     rw [hs] at kc2
     go_wp2_with fail
     refine CN.1.mono ?_
     rintro e w5 ⟨v,rfl,hg⟩
     obtain ⟨hl,hB⟩:=Lies.of hg
     have HB5:=hide (HB1.1.trans (hB.mono HB1.1.size))
     have HK5:=hide (HK1.1.below hB HK1.1.lt)
     clear hs hq
     obtain ⟨A5,c5,rfl,-⟩:=hl
     clear hB hg HB1 HK1 CN
     obtain ⟨⟨d0,d1,d2,d3,d4⟩,f0,f1,f2,f3,f4⟩:=cells5 HK5.1
     go_wp2_with fail
     (try simp only [Exit.inBlock,Exit.then])
     exact bodyPost_ret (results_cell2 rfl _ _ w.heap.size _ _ _ rfl rfl (by first|exact set5 HK5.1 _ _ _ _ _|exact HK5.1) Tryz.underlying116 rfl (by kernel_rfl)) rfl ⟨_,rfl,Lies.nil _ _,(by first|exact bel5 HB5.1 (Nat.le_refl _) _ _ _ _ _|exact HB5.1)⟩
    | true=>
     rw [hq] at HQ
     rw [HQ.1,if_pos rfl]
     clear HQ
     go_enter Tryz.func122,Tryz.ntmps122
     go_wp2_with fail
     refine CT.1.mono ?_
     rintro e w1 ⟨rfl,rfl⟩
     go_wp2_with fail
     refine CC.1.mono ?_
     rintro e w1 ⟨rfl,q,hw1⟩
     have hB:Below ((w.alloc (.cells iz 116)).alloc (.cells #[.int .u8 58,.int .u8 93] 5 (2,3))).heap.size ((w.alloc (.cells iz 116)).alloc (.cells #[.int .u8 58,.int .u8 93] 5 (2,3))) w1:=by rw [hw1];exact below_drewN (Below.refl _ _) q
     have HP1:=hide (HPL.1.below hB)
     have HG1:=hide (HGL.1.below hB)
     have HK1:=hide (HKL.1.below hB HKL.1.lt)
     have HB1:=hide (HBL.1.trans (hB.mono HBL.1.size))
     have hsz1:=Nat.lt_of_lt_of_le hszl hB.size
     have kc2:=HST.1 o w1 HP1.1 hro
     have CN:=hide (Cl.named_any s w1 HG1.1.sets)
     rw [hq] at CN
     unfold Cl.Gives2 at CN
     clear hB hw1 HPL HGL HKL HBL CC HST
     rw [hs] at kc2
     go_wp2_with fail
     refine CN.1.mono ?_
     rintro e w5 ⟨v,rfl,hg⟩
     obtain ⟨hl,hB⟩:=Lies.of hg
     have HB5:=hide (HB1.1.trans (hB.mono HB1.1.size))
     have HK5:=hide (HK1.1.below hB HK1.1.lt)
     clear hs hq
     obtain ⟨A5,c5,rfl,hc5,hm5,hl5,-⟩:=hl
     have CNot:=hide (Rs.not_any (nameL s) A5 c5 w5 (by omega) hc5 hl5)
     clear hB hg CN hl5
     generalize (nameL s).length=z at *
     go_wp2_with fail
     refine CNot.1.mono ?_
     rintro e w6 ⟨v,rfl,hcut⟩
     obtain ⟨hl,hB⟩:=Lies.of (Cl.cut_gives' hcut)
     have hsz5:w.heap.size<w5.heap.size:=HK5.1.lt
     have HB5:=hide (HB5.1.trans (hB.mono HB5.1.size))
     have HK5:=hide (HK5.1.below hB HK5.1.lt)
     have HL:=hide (hl.set5 hsz5)
     obtain ⟨A6,c6,rfl,-⟩:=hl
     clear hB hcut HB1 HK1 CNot
     generalize (notL (nameL s)).length=z6 at *
     obtain ⟨⟨d0,d1,d2,d3,d4⟩,f0,f1,f2,f3,f4⟩:=cells5 HK5.1
     go_wp2_with fail
     (try simp only [Exit.inBlock,Exit.then])
     exact bodyPost_ret (results_cell2 rfl _ _ w.heap.size _ _ _ rfl rfl (by first|exact set5 HK5.1 _ _ _ _ _|exact HK5.1) Tryz.underlying116 rfl (by kernel_rfl)) rfl ⟨_,rfl,(HL.1 _ _ _ _ _).mono (Nat.le_of_lt hsz5),(by first|exact bel5 HB5.1 (Nat.le_refl _) _ _ _ _ _|exact HB5.1)⟩
 ·have CT:=hide (stands_b HP.1 (k:=k) (c:=94) (b:=false) (by omega) (by simp [h1]))
  have hnk:nkP bs k=k:=by unfold nkP;rw [if_neg h1]
  obtain ⟨m,hme⟩:∃ m,k=m:=⟨_,rfl⟩
  rw [hme] at hnk
  subst hme
  have hm:k≤bs.length:=by omega
  have hmii:(k:Int)≤(bs.length:Int):=by omega
  have hmc:(k:Int)≤(cap:Int):=by omega
  have hbl:Below (w.alloc (.cells iz 116)).heap.size (w.alloc (.cells iz 116)) ((w.alloc (.cells iz 116)).alloc (.cells #[.int .u8 58,.int .u8 93] 5 (2,3))):=(Below.refl _ _).alloc (Nat.le_refl _) _
  have HPL:=hide (HP.1.below hbl)
  have HGL:=hide (HG.1.below hbl)
  have HKL:=hide (HK.1.alloc (.cells #[.int .u8 58,.int .u8 93] 5 (2,3)))
  have HBL:=hide (HB0.1.alloc HB0.1.size (.cells #[.int .u8 58,.int .u8 93] 5 (2,3)))
  have hszl:w.heap.size<((w.alloc (.cells iz 116)).alloc (.cells #[.int .u8 58,.int .u8 93] 5 (2,3))).heap.size:=Nat.lt_of_lt_of_le hsz hbl.size
  have hG0:((w.alloc (.cells iz 116)).alloc (.cells #[.int .u8 58,.int .u8 93] 5 (2,3))).cell? ⟨(w.alloc (.cells iz 116)).heap.size,0,none⟩=some (.int .u8 58):=by rw [World.cell?_alloc_mark];rfl
  have hG1:((w.alloc (.cells iz 116)).alloc (.cells #[.int .u8 58,.int .u8 93] 5 (2,3))).cell? ⟨(w.alloc (.cells iz 116)).heap.size,1,none⟩=some (.int .u8 93):=by rw [World.cell?_alloc_mark];rfl
  have kc:=Lib.run_convert_bytes_const (P:=Tryz.prog) (w.alloc (.cells iz 116)) 43 5 #[.int .u8 58,.int .u8 93] 2 2 Tryz.underlying43 Tryz.underlying5
  rw [World.size_alloc] at kc
  have CC:=hide (cut_any bs b off k cap _ _ HPL.1 hm hl HGL.1.mx hG0 hG1)
  rw [World.size_alloc] at CC
  have HST:=hide (fun o W (h:PV bs (some ⟨b,off,none⟩) cap W) (h2:k+o≤bs.length)=>tail_str (m:=k) (o:=o) h h2)
  clear hG0 hG1 hbl HP HG HK HB0
  by_cases hcm:cap=k
  ·have hml:k=bs.length:=by omega
   rcases index_fnd bs k with ⟨hi,hf⟩|⟨o,hi,hf,hfl⟩
   ·unfold tailA at CC HST
    simp only [if_pos hcm] at CC HST
    have hcm2:=hcm.symm
    subst hcm2
    clear hml hcm
    have hz:=show bs.length-k=0 by omega
    rw [hz,Nat.sub_self] at CC
    clear hz
    rw [show namedP bs k=.err 33 by unfold namedP;rw [hnk,hf]]
    rw [hi] at CC
    have hcv:∀ p n c,Lib.cutV p n c 2 (-1)=.tuple #[.slice p n c,.slice none 0 0,.bool false]:=fun p n c=>by unfold Lib.cutV;rw [if_neg (by omega)]
    simp only [hcv] at CC
    have hro:k+0≤bs.length:=by omega
    obtain ⟨s,hs⟩:∃ s,(bs.drop k).take 0=s:=⟨_,rfl⟩
    obtain ⟨p,hq⟩:∃ p,isName s=p:=⟨_,rfl⟩
    clear hi hf hnk hcv
    go_enter Tryz.func122,Tryz.ntmps122
    go_wp2_with fail
    refine CT.1.mono ?_
    rintro e w1 ⟨rfl,rfl⟩
    go_wp2_with fail
    refine CC.1.mono ?_
    rintro e w1 ⟨rfl,q,hw1⟩
    have hB:Below ((w.alloc (.cells iz 116)).alloc (.cells #[.int .u8 58,.int .u8 93] 5 (2,3))).heap.size ((w.alloc (.cells iz 116)).alloc (.cells #[.int .u8 58,.int .u8 93] 5 (2,3))) w1:=by rw [hw1];exact below_drewN (Below.refl _ _) q
    have HP1:=hide (HPL.1.below hB)
    have HG1:=hide (HGL.1.below hB)
    have HK1:=hide (HKL.1.below hB HKL.1.lt)
    have HB1:=hide (HBL.1.trans (hB.mono HBL.1.size))
    have hsz1:=Nat.lt_of_lt_of_le hszl hB.size
    have kc2:=HST.1 0 w1 HP1.1 hro
    have CN:=hide (Cl.named_any s w1 HG1.1.sets)
    rw [hq] at CN
    unfold Cl.Gives2 at CN
    clear hB hw1 HPL HGL HKL HBL CC HST
    rw [hs] at kc2
    go_wp2_with fail
    refine CN.1.mono ?_
    rintro e w5 ⟨v,rfl,hg⟩
    obtain ⟨hl,hB⟩:=Lies.of hg
    have HB5:=hide (HB1.1.trans (hB.mono HB1.1.size))
    have HK5:=hide (HK1.1.below hB HK1.1.lt)
    clear hs hq
    obtain ⟨A5,c5,rfl,-⟩:=hl
    clear hB hg HB1 HK1 CN
    obtain ⟨⟨d0,d1,d2,d3,d4⟩,f0,f1,f2,f3,f4⟩:=cells5 HK5.1
    go_wp2_with fail
    (try simp only [Exit.inBlock,Exit.then])
    exact bodyPost_ret (results_cell2 rfl _ _ w.heap.size _ _ _ rfl rfl (by first|exact set5 HK5.1 _ _ _ _ _|exact HK5.1) Tryz.underlying116 rfl (by kernel_rfl)) rfl ⟨_,rfl,Lies.nil _ _,(by first|exact bel5 HB5.1 (Nat.le_refl _) _ _ _ _ _|exact HB5.1)⟩
   ·omega
  ·rcases index_fnd bs k with ⟨hi,hf⟩|⟨o,hi,hf,hfl⟩
   ·unfold tailA at CC HST
    simp only [if_neg hcm] at CC HST
    rw [show namedP bs k=.err 33 by unfold namedP;rw [hnk,hf]]
    rw [hi] at CC
    have hcv:∀ p n c,Lib.cutV p n c 2 (-1)=.tuple #[.slice p n c,.slice none 0 0,.bool false]:=fun p n c=>by unfold Lib.cutV;rw [if_neg (by omega)]
    simp only [hcv] at CC
    have hro:k+(bs.length-k)≤bs.length:=by omega
    obtain ⟨s,hs⟩:∃ s,(bs.drop k).take (bs.length-k)=s:=⟨_,rfl⟩
    obtain ⟨p,hq⟩:∃ p,isName s=p:=⟨_,rfl⟩
    clear hi hf hnk hcv
    go_enter Tryz.func122,Tryz.ntmps122
    go_wp2_with fail
    refine CT.1.mono ?_
    rintro e w1 ⟨rfl,rfl⟩
    go_wp2_with fail
    refine CC.1.mono ?_
    rintro e w1 ⟨rfl,q,hw1⟩
    have hB:Below ((w.alloc (.cells iz 116)).alloc (.cells #[.int .u8 58,.int .u8 93] 5 (2,3))).heap.size ((w.alloc (.cells iz 116)).alloc (.cells #[.int .u8 58,.int .u8 93] 5 (2,3))) w1:=by rw [hw1];exact below_drewN (Below.refl _ _) q
    have HP1:=hide (HPL.1.below hB)
    have HG1:=hide (HGL.1.below hB)
    have HK1:=hide (HKL.1.below hB HKL.1.lt)
    have HB1:=hide (HBL.1.trans (hB.mono HBL.1.size))
    have hsz1:=Nat.lt_of_lt_of_le hszl hB.size
    have kc2:=HST.1 (bs.length-k) w1 HP1.1 hro
    have CN:=hide (Cl.named_any s w1 HG1.1.sets)
    rw [hq] at CN
    unfold Cl.Gives2 at CN
    clear hB hw1 HPL HGL HKL HBL CC HST
    rw [hs] at kc2
    go_wp2_with fail
    refine CN.1.mono ?_
    rintro e w5 ⟨v,rfl,hg⟩
    obtain ⟨hl,hB⟩:=Lies.of hg
    have HB5:=hide (HB1.1.trans (hB.mono HB1.1.size))
    have HK5:=hide (HK1.1.below hB HK1.1.lt)
    clear hs hq
    obtain ⟨A5,c5,rfl,-⟩:=hl
    clear hB hg HB1 HK1 CN
    obtain ⟨⟨d0,d1,d2,d3,d4⟩,f0,f1,f2,f3,f4⟩:=cells5 HK5.1
    go_wp2_with fail
    (try simp only [Exit.inBlock,Exit.then])
    exact bodyPost_ret (results_cell2 rfl _ _ w.heap.size _ _ _ rfl rfl (by first|exact set5 HK5.1 _ _ _ _ _|exact HK5.1) Tryz.underlying116 rfl (by kernel_rfl)) rfl ⟨_,rfl,Lies.nil _ _,(by first|exact bel5 HB5.1 (Nat.le_refl _) _ _ _ _ _|exact HB5.1)⟩
   ·unfold tailA at CC HST
    simp only [if_neg hcm] at CC HST
    have hfs:=hf
    have hcv:∀ p n c,Lib.cutV p n c 2 (o:Int)=.tuple #[.slice p o c,Lib.fromV p n c (o+2),.bool true]:=fun p n c=>by unfold Lib.cutV;rw [if_pos (by omega),Int.toNat_natCast]
    rw [hi] at CC
    simp only [hcv] at CC
    have hro:k+o≤bs.length:=by omega
    have hmo:(k:Int)+(o:Int)+2≤(bs.length:Int):=by omega
    have HQ:=hide (show namedP bs k=if isName ((bs.drop k).take o) then .nam ((bs.drop k).take o) false (k+o+2) else .err 33 by unfold namedP;rw [hnk,hf,decide_eq_false h1];simp only [Nat.add_sub_cancel_left])
    obtain ⟨s,hs⟩:∃ s,(bs.drop k).take o=s:=⟨_,rfl⟩
    rw [hs] at HQ
    have hlen4:=(Cl.nameL_len s).1
    generalize Lib.fromV (some ⟨b,off+k,none⟩) (bs.length-k) (cap-k) (o+2)=fv at *
    clear hi hf hfs hnk hcv hfl
    cases hq:isName s with
    | false=>
     rw [hq] at HQ
     rw [HQ.1,if_neg (by simp)]
     clear HQ
     go_enter Tryz.func122,Tryz.ntmps122
     go_wp2_with fail
     refine CT.1.mono ?_
     rintro e w1 ⟨rfl,rfl⟩
     go_wp2_with fail
     refine CC.1.mono ?_
     rintro e w1 ⟨rfl,q,hw1⟩
     have hB:Below ((w.alloc (.cells iz 116)).alloc (.cells #[.int .u8 58,.int .u8 93] 5 (2,3))).heap.size ((w.alloc (.cells iz 116)).alloc (.cells #[.int .u8 58,.int .u8 93] 5 (2,3))) w1:=by rw [hw1];exact below_drewN (Below.refl _ _) q
     have HP1:=hide (HPL.1.below hB)
     have HG1:=hide (HGL.1.below hB)
     have HK1:=hide (HKL.1.below hB HKL.1.lt)
     have HB1:=hide (HBL.1.trans (hB.mono HBL.1.size))
     have hsz1:=Nat.lt_of_lt_of_le hszl hB.size
     have kc2:=HST.1 o w1 HP1.1 hro
     have CN:=hide (Cl.named_any s w1 HG1.1.sets)
     rw [hq] at CN
     unfold Cl.Gives2 at CN
     clear hB hw1 HPL HGL HKL HBL CC HST
     rw [hs] at kc2
     go_wp2_with fail
     refine CN.1.mono ?_
     rintro e w5 ⟨v,rfl,hg⟩
     obtain ⟨hl,hB⟩:=Lies.of hg
     have HB5:=hide (HB1.1.trans (hB.mono HB1.1.size))
     have HK5:=hide (HK1.1.below hB HK1.1.lt)
     clear hs hq
     obtain ⟨A5,c5,rfl,-⟩:=hl
     clear hB hg HB1 HK1 CN
     obtain ⟨⟨d0,d1,d2,d3,d4⟩,f0,f1,f2,f3,f4⟩:=cells5 HK5.1
     go_wp2_with fail
     (try simp only [Exit.inBlock,Exit.then])
     exact bodyPost_ret (results_cell2 rfl _ _ w.heap.size _ _ _ rfl rfl (by first|exact set5 HK5.1 _ _ _ _ _|exact HK5.1) Tryz.underlying116 rfl (by kernel_rfl)) rfl ⟨_,rfl,Lies.nil _ _,(by first|exact bel5 HB5.1 (Nat.le_refl _) _ _ _ _ _|exact HB5.1)⟩
    | true=>
     rw [hq] at HQ
     rw [HQ.1,if_pos rfl]
     clear HQ
     go_enter Tryz.func122,Tryz.ntmps122
     go_wp2_with fail
     refine CT.1.mono ?_
     rintro e w1 ⟨rfl,rfl⟩
     go_wp2_with fail
     refine CC.1.mono ?_
     rintro e w1 ⟨rfl,q,hw1⟩
     have hB:Below ((w.alloc (.cells iz 116)).alloc (.cells #[.int .u8 58,.int .u8 93] 5 (2,3))).heap.size ((w.alloc (.cells iz 116)).alloc (.cells #[.int .u8 58,.int .u8 93] 5 (2,3))) w1:=by rw [hw1];exact below_drewN (Below.refl _ _) q
     have HP1:=hide (HPL.1.below hB)
     have HG1:=hide (HGL.1.below hB)
     have HK1:=hide (HKL.1.below hB HKL.1.lt)
     have HB1:=hide (HBL.1.trans (hB.mono HBL.1.size))
     have hsz1:=Nat.lt_of_lt_of_le hszl hB.size
     have kc2:=HST.1 o w1 HP1.1 hro
     have CN:=hide (Cl.named_any s w1 HG1.1.sets)
     rw [hq] at CN
     unfold Cl.Gives2 at CN
     clear hB hw1 HPL HGL HKL HBL CC HST
     rw [hs] at kc2
     go_wp2_with fail
     refine CN.1.mono ?_
     rintro e w5 ⟨v,rfl,hg⟩
     obtain ⟨hl,hB⟩:=Lies.of hg
     have HB5:=hide (HB1.1.trans (hB.mono HB1.1.size))
     have HK5:=hide (HK1.1.below hB HK1.1.lt)
     clear hs hq
     have HL:=hide (hl.set5 hsz1)
     obtain ⟨A5,c5,rfl,-⟩:=hl
     clear hB hg HB1 HK1 CN
     obtain ⟨⟨d0,d1,d2,d3,d4⟩,f0,f1,f2,f3,f4⟩:=cells5 HK5.1
     generalize (nameL s).length=z at *
     go_wp2_with fail
     (try simp only [Exit.inBlock,Exit.then])
     exact bodyPost_ret (results_cell2 rfl _ _ w.heap.size _ _ _ rfl rfl (by first|exact set5 HK5.1 _ _ _ _ _|exact HK5.1) Tryz.underlying116 rfl (by kernel_rfl)) rfl ⟨_,rfl,(HL.1 _ _ _ _ _).mono (Nat.le_of_lt hsz1),(by first|exact bel5 HB5.1 (Nat.le_refl _) _ _ _ _ _|exact HB5.1)⟩
end
section
open Sy (g isS)
open Rs (R notL mk)
open Cl (nameL isName listOf isOf)
variable {bs:List UInt8} {k:Nat}
def InC (bs:List UInt8) (k:Nat):It→Prop
 | .err e=>e≠0∧e≠10
 | .lit n q=>k<q∧q≤bs.length∧n≤1114367
 | .cls c q=>k<q∧q≤bs.length∧isOf c=true∧c<128
 | .nam s t q=>k<q∧q≤bs.length∧isName s=true
 | _=>False
theorem InC.mono {j:Nat} {x:It} (h:InC bs k x) (hj:j≤k):InC bs j x:=by
 cases x<;>simp only [InC] at h ⊢ <;> first|exact h|exact ⟨by omega,h.2⟩
theorem notL_len (l:List R):(notL l).length≤l.length+1:=by
 have h1:=Cl.notF_short (mk l) 0
 have h2:=Rs.mk_len l
 unfold notL
 omega
theorem set_len (x:It):x.set.length≤6:=by
 cases x with
 | cls c q=>have:=(Cl.listOf_len c).1;show (listOf c).length≤6;omega
 | nam s t q=>
  have h1:=(Cl.nameL_len s).1
  have h2:=notL_len (nameL s)
  show (if t then notL (nameL s) else nameL s).length≤6
  cases t
  ·simp only [Bool.false_eq_true,if_false];omega
  ·simp only [if_true];omega
 | _=>exact Nat.zero_le _
theorem ctl_top {c n:Nat} (h:ctl c=some n):n≤27:=by
 unfold ctl at h
 repeat' split at h
 all_goals first|(injection h with h;omega)|cases h
theorem code_in (hk:k≤bs.length):InC bs k (codeP bs k)∨∃ e,codeP bs k=.err e∧e≠0∧e≠10:=by
 unfold codeP
 split
 ·rename_i h
  have hl:=g_in (bs:=bs) (k:=k) (by omega)
  have hi:=hexF_in bs 6 (k+1) 0
  generalize (hexF bs (k+1) 6 0).1=n at *
  generalize (hexF bs (k+1) 6 0).2=m at *
  split
  ·exact .inr ⟨32,rfl,by omega,by omega⟩
  ·rename_i h2
   have h3:¬ m=0∧g bs (k+1+m)=125∧isS (n:Int)=true:=by
    refine ⟨fun e=>h2 (.inl e),?_,?_⟩
    ·rcases Nat.decEq (g bs (k+1+m)) 125 with e|e
     ·exact absurd (.inr (.inl e)) h2
     ·exact e
    ·cases e:isS (n:Int) with
     | true=>rfl
     | false=>exact absurd (.inr (.inr e)) h2
   have h4:=g_in (bs:=bs) (k:=k+1+m) (by omega)
   have h5:=h3.2.2
   unfold isS at h5
   rw [decide_eq_true_eq] at h5
   exact .inl ⟨by omega,by omega,by omega⟩
 ·have hi:=hexF_in bs 2 k 0
  have ht:=hexF_top bs 2 k 0
  generalize (hexF bs k 2 0).1=n at *
  generalize (hexF bs k 2 0).2=m at *
  split
  ·exact .inr ⟨32,rfl,by omega,by omega⟩
  ·exact .inl ⟨by omega,by omega,by omega⟩
theorem com_in (hk:k≤bs.length):InC bs k (comP bs k):=by
 unfold comP
 split
 ·exact ⟨by omega,by omega⟩
 ·rename_i h0
  have hl:=sym_like (bs:=bs) (k:=k) (by omega)
  split
  ·rcases code_in (bs:=bs) (k:=k+1) (by omega) with h|⟨e,h,h2⟩
   ·exact h.mono (by omega)
   ·rw [h];exact h2
  ·split
   ·rename_i n hn
    have:=ctl_low hn
    have h1:=hl.2.2.2.2.1 this
    have h2:=hl.2.2.2.2.2
    have:=ctl_top hn
    exact ⟨by omega,by omega,by omega⟩
   ·split
    ·rename_i h
     refine ⟨by omega,by omega,h,?_⟩
     rcases Nat.lt_or_ge (g bs k) 128 with h1|h1
     ·exact h1
     ·rw [isOf_high h1] at h;cases h
    ·split
     ·exact ⟨by omega,by omega⟩
     ·have:=sym_top bs k
      exact ⟨by omega,by omega,this⟩
theorem named_in:InC bs k (namedP bs k):=by
 unfold namedP
 have hnk:k≤nkP bs k:=by unfold nkP;split<;>omega
 split
 ·exact ⟨by omega,by omega⟩
 ·rename_i j hj
  have:=fnd2_in _ hj
  split
  ·rename_i h
   exact ⟨by omega,by omega,h⟩
  ·exact ⟨by omega,by omega⟩
theorem piece_in (hk:k<bs.length):InC bs k (pieceP bs k):=by
 unfold pieceP
 split
 ·unfold escP
  rw [if_pos rfl]
  split
  ·rename_i h
   have:=g_in (bs:=bs) (k:=k+1) (by omega)
   exact ⟨by omega,by omega,by omega⟩
  ·exact (com_in (bs:=bs) (k:=k+1) (by omega)).mono (by omega)
 ·split
  ·exact named_in.mono (by omega)
  ·have:=sym_snd hk
   have:=sym_top bs k
   exact ⟨by omega,by omega,this⟩
theorem rg_in {q:Nat} (h:rgP bs q=true):g bs q=45∧q+1<bs.length∧g bs (q+1)≠93:=by
 unfold rgP at h
 simpa using h
theorem part_in {bs:List UInt8} {k:Nat} (hk:k<bs.length):match partP bs k with
  | .error (e,pl)=>e≠0∧e≠10∧pl≤bs.length
  | .ok (p,q)=>k<q∧q≤bs.length∧(partL p).length≤6:=by
 unfold partP
 have h:=piece_in hk
 cases hx:pieceP bs k with
 | err e=>rw [hx] at h;exact ⟨h.1,h.2,by omega⟩
 | lit n q=>
  rw [hx] at h
  obtain ⟨h1,h2,h3⟩:=h
  simp only []
  cases hr:rgP bs q with
  | false=>exact ⟨h1,h2,by simp [partL]⟩
  | true=>
   obtain ⟨-,h4,-⟩:=rg_in hr
   simp only [if_true]
   have h5:=piece_in h4
   cases hy:pieceP bs (q+1) with
   | err e=>rw [hy] at h5;exact ⟨h5.1,h5.2,by omega⟩
   | lit m q2=>
    rw [hy] at h5
    obtain ⟨h6,h7,h8⟩:=h5
    simp only []
    rcases Nat.lt_or_ge m n with hmn|hmn
    ·rw [if_pos hmn];exact ⟨by omega,by omega,by omega⟩
    ·rw [if_neg (by omega)];exact ⟨by omega,h7,by simp [partL]⟩
   | _=>exact ⟨by omega,by omega,by omega⟩
 | cls c q=>rw [hx] at h;exact ⟨h.1,h.2.1,set_len (.cls c q)⟩
 | nam s t q=>rw [hx] at h;exact ⟨h.1,h.2.1,set_len (.nam s t q)⟩
 | hld n q=>rw [hx] at h;exact h.elim
 | ref n q=>rw [hx] at h;exact h.elim
 | key s q=>rw [hx] at h;exact h.elim
end
section
open Go.RowKit Mem
open Sy (g)
attribute [local go_sem] build_i0 build_i3 build_in build_is Rs.run_not_true Rs.run_not_false
theorem single_any (bs:List UInt8) (A:Option Addr) (cap k:Nat) (w:World) (hP:PV bs A cap w) (hG:Gl w) (hk:k<bs.length) (hl:bs.length≤4096) :
  Calls Tryz.prog 103 #[.slice A bs.length cap,.int .i64 (k:Int)] w (GivesI (pieceP bs k) w):=by
 have hb0:Below w.heap.size w (w.alloc (.cells iz 116)):=(Below.refl w.heap.size w).alloc (Nat.le_refl _) _
 have HP:=hide (hP.below hb0)
 have HG:=hide (hG.below hb0)
 have hroom:=hP.room
 have htop:=hP.top
 have HB0:=hide hb0
 have HK:=hide (Blk.new w 116 iz)
 have hsz:=HK.1.lt
 clear hP hG hb0
 have hki:(k:Int)+1≤(bs.length:Int):=by omega
 have hli:(bs.length:Int)≤4096:=by omega
 by_cases h1:g bs k=92
 ·have C1:=hide (stands_b HP.1 (k:=k) (c:=92) (b:=true) (by omega) (by simp [h1]))
  have CX:=hide (inner_any bs A cap (k:Int) _ HP.1 HG.1)
  rw [escz_yes true h1] at CX
  rw [show pieceP bs k=escP bs true (k+1) by unfold pieceP;rw [if_pos h1]]
  generalize escP bs true (k+1)=y at *
  have HB1:=HB0
  have HK1:=HK
  have hsz1:=hsz
  clear h1
  go_enter Tryz.func103,Tryz.ntmps103
  go_wp2_with fail
  refine C1.1.mono ?_
  rintro e w1 ⟨rfl,rfl⟩
  go_wp2_with fail
  refine CX.1.mono ?_
  rintro e w5 ⟨v,rfl,hl,hB⟩
  have HL:=hide (hl.set5 hsz1)
  obtain ⟨A5,c5,rfl,-⟩:=hl
  have HB5:=hide (HB1.1.trans (hB.mono HB1.1.size))
  have HK5:=hide (HK1.1.below hB HK1.1.lt)
  clear hB HB1 HK1
  obtain ⟨⟨d0,d1,d2,d3,d4⟩,f0,f1,f2,f3,f4⟩:=cells5 HK5.1
  unfold itV
  go_wp2_with fail
  (try simp only [Exit.inBlock,Exit.then])
  exact bodyPost_ret (results_cell2 rfl _ _ w.heap.size _ _ _ rfl rfl (set5 HK5.1 _ _ _ _ _) Tryz.underlying116 rfl (by kernel_rfl)) rfl ⟨_,rfl,(HL.1 _ _ _ _ _).mono (Nat.le_of_lt hsz1),bel5 HB5.1 (Nat.le_refl _) _ _ _ _ _⟩
 ·have C1:=hide (stands_b HP.1 (k:=k) (c:=92) (b:=false) (by omega) (by simp [h1]))
  have HQ:=hide (show pieceP bs k=if g bs k=91∧g bs (k+1)=58 then namedP bs (k+2) else .lit (sym bs k).1 (k+(sym bs k).2) by unfold pieceP;rw [if_neg h1])
  have CA:=hide (at_nat bs A cap k _ HP.1 HG.1.tabs)
  have hs:=sym_snd hk
  by_cases h2:g bs k=91
  ·have C2:=hide (stands_b HP.1 (k:=k) (c:=91) (b:=true) (by omega) (by simp [h2]))
   by_cases h3:g bs (k+1)=58
   ·have C3:=hide (stands_e HP.1 (i:=(k:Int)+1) (k:=k+1) (c:=58) (b:=true) (by omega) (by push_cast;rfl) (by simp [h3]))
    have hk2:=g_in (bs:=bs) (k:=k+1) (by omega)
    have CX:=hide (named_any bs A cap (k+2) _ HP.1 HG.1 hk2 (by omega) hl)
    simp only [show ((k+2:Nat):Int)=(k:Int)+2 from rfl] at CX
    rw [HQ.1.trans (if_pos ⟨h2,h3⟩)]
    generalize namedP bs (k+2)=y at *
    have HB1:=HB0
    have HK1:=HK
    have hsz1:=hsz
    clear HQ h1 h2 h3 hs CA
    go_enter Tryz.func103,Tryz.ntmps103
    go_wp2_with fail
    refine C1.1.mono ?_
    rintro e w1 ⟨rfl,rfl⟩
    go_wp2_with fail
    refine C2.1.mono ?_
    rintro e w1 ⟨rfl,rfl⟩
    go_wp2_with fail
    refine C3.1.mono ?_
    rintro e w1 ⟨rfl,rfl⟩
    go_wp2_with fail
    refine CX.1.mono ?_
    rintro e w5 ⟨v,rfl,hl,hB⟩
    have HL:=hide (hl.set5 hsz1)
    obtain ⟨A5,c5,rfl,-⟩:=hl
    have HB5:=hide (HB1.1.trans (hB.mono HB1.1.size))
    have HK5:=hide (HK1.1.below hB HK1.1.lt)
    clear hB HB1 HK1
    obtain ⟨⟨d0,d1,d2,d3,d4⟩,f0,f1,f2,f3,f4⟩:=cells5 HK5.1
    unfold itV
    go_wp2_with fail
    (try simp only [Exit.inBlock,Exit.then])
    exact bodyPost_ret (results_cell2 rfl _ _ w.heap.size _ _ _ rfl rfl (set5 HK5.1 _ _ _ _ _) Tryz.underlying116 rfl (by kernel_rfl)) rfl ⟨_,rfl,(HL.1 _ _ _ _ _).mono (Nat.le_of_lt hsz1),bel5 HB5.1 (Nat.le_refl _) _ _ _ _ _⟩
   ·have C3:=hide (stands_e HP.1 (i:=(k:Int)+1) (k:=k+1) (c:=58) (b:=false) (by omega) (by push_cast;rfl) (by simp [h3]))
    rw [HQ.1.trans (if_neg (fun h=>h3 h.2))]
    generalize (sym bs k).1=x at *
    generalize (sym bs k).2=n at *
    have hkn:(k:Int)+(n:Int)≤(bs.length:Int):=by omega
    clear HQ h1 h2 h3 hs
    go_enter Tryz.func103,Tryz.ntmps103
    go_wp2_with fail
    refine C1.1.mono ?_
    rintro e w1 ⟨rfl,rfl⟩
    go_wp2_with fail
    refine C2.1.mono ?_
    rintro e w1 ⟨rfl,rfl⟩
    go_wp2_with fail
    refine C3.1.mono ?_
    rintro e w1 ⟨rfl,rfl⟩
    go_wp2_with fail
    refine CA.1.mono ?_
    rintro e w1 ⟨rfl,hB⟩
    have HB1:=hide (HB0.1.trans (hB.mono HB0.1.size))
    have HK1:=hide (HK.1.below hB HK.1.lt)
    have HP1:=hide (HP.1.below hB)
    have HG1:=hide (HG.1.below hB)
    have hsz1:w.heap.size<_:=Nat.lt_of_lt_of_le hsz hB.size
    clear hB HP HG HB0 HK
    obtain ⟨⟨d0,d1,d2,d3,d4⟩,f0,f1,f2,f3,f4⟩:=cells5 HK1.1
    clear CA
    go_wp2_with fail
    (try simp only [Exit.inBlock,Exit.then])
    exact bodyPost_ret (results_cell2 rfl _ _ w.heap.size _ _ _ rfl rfl (by first|exact set5 HK1.1 _ _ _ _ _|exact HK1.1|exact Blk.new _ _ _) Tryz.underlying116 rfl (by kernel_rfl)) rfl ⟨_,rfl,Lies.nil _ _,(by first|exact bel5 HB1.1 (Nat.le_refl _) _ _ _ _ _|exact HB1.1|exact (Below.refl _ _).alloc (Nat.le_refl _) _)⟩
  ·have C2:=hide (stands_b HP.1 (k:=k) (c:=91) (b:=false) (by omega) (by simp [h2]))
   rw [HQ.1.trans (if_neg (fun h=>h2 h.1))]
   generalize (sym bs k).1=x at *
   generalize (sym bs k).2=n at *
   have hkn:(k:Int)+(n:Int)≤(bs.length:Int):=by omega
   clear HQ h1 h2 hs
   go_enter Tryz.func103,Tryz.ntmps103
   go_wp2_with fail
   refine C1.1.mono ?_
   rintro e w1 ⟨rfl,rfl⟩
   go_wp2_with fail
   refine C2.1.mono ?_
   rintro e w1 ⟨rfl,rfl⟩
   go_wp2_with fail
   refine CA.1.mono ?_
   rintro e w1 ⟨rfl,hB⟩
   have HB1:=hide (HB0.1.trans (hB.mono HB0.1.size))
   have HK1:=hide (HK.1.below hB HK.1.lt)
   have HP1:=hide (HP.1.below hB)
   have HG1:=hide (HG.1.below hB)
   have hsz1:w.heap.size<_:=Nat.lt_of_lt_of_le hsz hB.size
   clear hB HP HG HB0 HK
   obtain ⟨⟨d0,d1,d2,d3,d4⟩,f0,f1,f2,f3,f4⟩:=cells5 HK1.1
   clear CA
   go_wp2_with fail
   (try simp only [Exit.inBlock,Exit.then])
   exact bodyPost_ret (results_cell2 rfl _ _ w.heap.size _ _ _ rfl rfl (by first|exact set5 HK1.1 _ _ _ _ _|exact HK1.1|exact Blk.new _ _ _) Tryz.underlying116 rfl (by kernel_rfl)) rfl ⟨_,rfl,Lies.nil _ _,(by first|exact bel5 HB1.1 (Nat.le_refl _) _ _ _ _ _|exact HB1.1|exact (Below.refl _ _).alloc (Nat.le_refl _) _)⟩
theorem pranges_any (bs:List UInt8) (A:Option Addr) (cap k:Nat) (w:World) (hP:PV bs A cap w) (hk:k≤bs.length) (hl:bs.length≤4096) :
  Calls Tryz.prog 104 #[.slice A bs.length cap,.int .i64 (k:Int)] w fun e w'=>e=.returned (.bool (rgP bs k))∧w'=w:=by
 have hroom:=hP.room
 have htop:=hP.top
 have hki:(k:Int)≤(bs.length:Int):=by omega
 have hli:(bs.length:Int)≤4096:=by omega
 have HQ:=hide (show rgP bs k=(decide (g bs k=45)&&(decide (k+1<bs.length)&&decide (g bs (k+1)≠93))) from rfl)
 by_cases h1:g bs k=45
 ·have C1:=hide (stands_b hP (k:=k) (c:=45) (b:=true) (by omega) (by simp [h1]))
  by_cases h2:k+1<bs.length
  ·have h2i:(k:Int)+1<(bs.length:Int):=by omega
   obtain ⟨b,off,rfl,hb,hc⟩:=hP.cell h2
   have c1:=hc (k+1) h2
   have HR:=hide (show ((g bs (k+1):Int) != 93)=rgP bs k by rw [HQ.1,decide_eq_true h1,decide_eq_true h2,Bool.eq_iff_iff];simp;omega)
   obtain ⟨m,hm⟩:∃ m,k+1=m:=⟨_,rfl⟩
   rw [hm] at c1 HR
   have hmi:(k:Int)+1=(m:Int):=by omega
   have hml:(m:Int)<(bs.length:Int):=by omega
   generalize g bs m=x at *
   clear hc HQ h1 h2 hP hm h2i
   go_enter Tryz.func104,Tryz.ntmps104
   go_wp2_with fail
   refine C1.1.mono ?_
   rintro e w1 ⟨rfl,rfl⟩
   go_wp2
   go_ret
   exact ⟨ret_b HR.1,rfl⟩
  ·have h2i:(bs.length:Int)≤(k:Int)+1:=by omega
   have HR:=hide (show false=rgP bs k by rw [HQ.1,decide_eq_false h2];simp)
   clear HQ h1 h2 hP
   go_enter Tryz.func104,Tryz.ntmps104
   go_wp2_with fail
   refine C1.1.mono ?_
   rintro e w1 ⟨rfl,rfl⟩
   go_wp2
   go_ret
   exact ⟨ret_b HR.1,rfl⟩
 ·have C1:=hide (stands_b hP (k:=k) (c:=45) (b:=false) (by omega) (by simp [h1]))
  have HR:=hide (show false=rgP bs k by rw [HQ.1,decide_eq_false h1];simp)
  clear HQ h1 hP
  go_enter Tryz.func104,Tryz.ntmps104
  go_wp2_with fail
  refine C1.1.mono ?_
  rintro e w1 ⟨rfl,rfl⟩
  go_wp2
  go_ret
  exact ⟨ret_b HR.1,rfl⟩
end
end Go.Proofs.YtmlbklcmblofkaaGreatDoor.Sc
