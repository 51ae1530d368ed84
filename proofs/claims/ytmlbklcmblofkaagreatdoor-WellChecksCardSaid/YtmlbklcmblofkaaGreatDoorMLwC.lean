/-
  WellChecks: any right tree is told to be well formed just if the document says so; else with the document's error, at its place: the given statement, its row and its card.
-/
import Derived.Test.YtmlbklcmblofkaaGreatDoorMRtB
import Derived.Test.YtmlbklcmblofkaaGreatDoorMWeD
import Derived.Test.YtmlbklcmblofkaaGreatDoorMAsQ
import Derived.Test.YtmlbklcmblofkaaGreatDoorMLdA
set_option linter.unusedSimpArgs false
set_option linter.unusedVariables false
set_option maxHeartbeats 8000000
set_option maxRecDepth 100000
namespace Go.Proofs.YtmlbklcmblofkaaGreatDoor.Rt
open Go.RowKit Mem Rs As We
attribute [local go_sem] run_not_true run_not_false
def KRel (t:Tr) (X:World) (i:Value) (wr:World):Prop:=∃ k:Nat,i=.int .i64 (k:Int)∧k≤t.nodes.length∧Below X.heap.size X wr∧∀ y∈t.nodes.take k,wrongB y t.groups (sumW (kidsW y.kids (widthsW t.nodes)))=0
theorem rcheck_any (t:Tr) (v:Value) (B:Nat) (w:World) (hlen:t.nodes.length≤1000) (hok:RtOk t) (hB:B≤w.heap.size) (hT:TreeV w B t v) :
  Calls Tryz.prog 12 #[v] w fun e w'=>e=.returned (.tuple #[.int .i64 (checkT t).1,.int .i64 (checkT t).2])∧Below w.heap.size w w':=by
 have HT0:=hide hT
 have hpos:=hok.laid.1
 obtain ⟨b,off,cap,An,cn,sv,kv,rfl,hbB,hc1,hc2,hL,hKV⟩:=tree_lies hT hpos
 have hb0:Below w.heap.size w (w.alloc (.cells #[.slice (some ⟨b,off,none⟩) t.nodes.length cap,.int .i64 t.groups,.slice An t.names.length cn] 30)):=(Below.refl _ _).alloc (Nat.le_refl _) _
 have HB0:=hide hb0
 have HBT0:=hide (Blk.new w 30 #[.slice (some ⟨b,off,none⟩) t.nodes.length cap,.int .i64 t.groups,.slice An t.names.length cn])
 have HL:=hide hL
 have HKV:=hide hKV
 have hbw:b<w.heap.size:=Nat.lt_of_lt_of_le hbB hB
 obtain ⟨t0,t1,t2⟩:=(cells3q HBT0.1).1
 clear hT hL hKV hb0
 go_enter Tryz.func12,Tryz.ntmps12
 go_wp2_with fail
 generalize w.alloc (.cells #[.slice (some ⟨b,off,none⟩) t.nodes.length cap,.int .i64 t.groups,.slice An t.names.length cn] 30)=X0 at *
 clear t0 t1 t2
 go_loopw [4] (fun i wr=>KRel t X0 i wr) (fun i _=>t.nodes.length-(intOf i).toNat)
 case atStart=>exact ⟨0,by go_num,Nat.zero_le _,Below.refl _ _,by simp⟩
 case round=>
  obtain ⟨k,rfl,hk,hbr,hz⟩:=hrel
  have hbrw:=HB0.1.trans (hbr.mono HB0.1.size)
  have hbt:=HBT0.1.below hbr HBT0.1.lt
  have HBR:=hide hbr
  have HBRW:=hide hbrw
  have HZ:=hide hz
  obtain ⟨⟨t0,t1,t2⟩,-⟩:=cells3q hbt
  go_hideQ
  by_cases hlt:k<t.nodes.length
  ·obtain ⟨nd,hnd⟩:∃ nd,t.nodes[k]?=some nd:=⟨_,List.getElem?_eq_getElem hlt⟩
   obtain ⟨x,hx⟩:∃ x,(widthsW t.nodes)[k]?=some x:=⟨_,List.getElem?_eq_getElem (by rw [widths_len];exact hlt)⟩
   obtain ⟨d0,d1,d2,d3,d4,d5,d6,d7,d8,d9⟩:=(HL.1.keep (hbrw.block b hbw)) k nd hnd
   have hkv:=HKV.1 k nd hnd
   have hal:=hok.alone nd (List.mem_of_getElem? hnd)
   have hki:(k:Int)<(t.nodes.length:Int):=by omega
   have hk0:(0:Int)≤(k:Int):=by omega
   generalize kv k=kx at *
   generalize sv k=sx at *
   obtain ⟨ka,kn,kc⟩:=kx
   obtain ⟨sa,sn,sc⟩:=sx
   obtain ⟨A9,cap9,e9,k1,k2,k3⟩:=hkv
   simp only [Value.slice.injEq] at e9
   obtain ⟨rfl,rfl,rfl⟩:=e9
   have hbx:Below wr.heap.size wr (wr.alloc (.cells (ndq nd (.slice sa sn sc) (.slice ka nd.kids.length kc)) 54)):=(Below.refl _ _).alloc (Nat.le_refl _) _
   have HBX:=hide (hbr.trans (hbx.mono hbr.size))
   have HBXW:=hide (hbrw.trans (hbx.mono hbrw.size))
   have HBN:=hide (Blk.new wr 54 (ndq nd (.slice sa sn sc) (.slice ka nd.kids.length kc)))
   have HBT:=hide (hbt.alloc (.cells (ndq nd (.slice sa sn sc) (.slice ka nd.kids.length kc)) 54))
   have HND:=hide hnd
   have HAL:=hide hal
   have HK3:=hide k3
   obtain ⟨x0,x1,x2,x3,x4,x5,x6,x7,x8,x9⟩:=cellsQ HBN.1
   obtain ⟨⟨y0,y1,y2⟩,-⟩:=cells3q HBT.1
   have HW:=hide (show ∀ z,wrongB nd t.groups (sumW (kidsW nd.kids (widthsW t.nodes)))=z→z≠0→checkT t=(z,nd.from_) from fun z hz hz0=>by
    unfold checkT
    rw [chk_at HND.1 HZ.1 (by rw [hz];exact hz0),hz])
   have HW0:=hide (show wrongB nd t.groups (sumW (kidsW nd.kids (widthsW t.nodes)))=0→∀ y∈t.nodes.take (k+1),wrongB y t.groups (sumW (kidsW y.kids (widthsW t.nodes)))=0 from fun h0 y hy=>by
    rw [List.take_succ_eq_append_getElem hlt,List.mem_append] at hy
    rcases hy with hy|hy
    ·exact HZ.1 y hy
    ·have e1:t.nodes[k]=nd:=by have:=HND.1;rw [List.getElem?_eq_getElem hlt] at this;simpa using this
     rw [List.mem_singleton,e1] at hy
     subst hy
     exact h0)
   obtain ⟨ks,hxe,hkl,hko,hkm⟩:=node_w hok hlen hnd hx
   have HKM:=hide hkm
   have HKL:=hide hkl
   clear hkm hkl hxe hnd hx hal k3 hbx hbr hbrw hbt hz hko
   by_cases h4:nd.kind=4
   ·have q4:(nd.kind==4)=true:=beq_iff_eq.2 h4
    have q10:(nd.kind==10)=false:=by rw [beq_eq_false_iff_ne];omega
    by_cases h1:nd.num<1
    ·have q1:decide (nd.num<1)=true:=decide_eq_true h1
     have HE:=hide (HW.1 38 (by unfold wrongB;rw [if_pos ⟨h4,.inl h1⟩]) (by decide))
     clear h4 h1
     go_wp2_with fail
     go_quiet (fail)
     go_wp2_with fail
     go_ret2
     exact ⟨by rw [HE.1];rfl,below_drewN HBXW.1 _⟩
    have q1:decide (nd.num<1)=false:=decide_eq_false h1
    by_cases h2:t.groups<nd.num
    ·have q2:decide (t.groups<nd.num)=true:=decide_eq_true h2
     have HE:=hide (HW.1 38 (by unfold wrongB;rw [if_pos ⟨h4,.inr h2⟩]) (by decide))
     clear h4 h1 h2
     go_wp2_with fail
     go_quiet (fail)
     go_wp2_with fail
     go_ret2
     exact ⟨by rw [HE.1];rfl,below_drewN HBXW.1 _⟩
    have q2:decide (t.groups<nd.num)=false:=decide_eq_false h2
    have hR:KRel t X0 (.int .i64 ((k:Int)+1)) _:=⟨k+1,by go_num,by omega,HBX.1,HW0.1 (by unfold wrongB behB;rw [if_neg (by omega),if_neg (by rw [q10];simp)])⟩
    have HR:=hide hR
    clear h4 h1 h2 hR
    go_wp2_with fail
    have hR:=HR.1
    first|go_roundw|refine ⟨?rel,?measure⟩
    case rel=>exact hR
    case measure=>simp [intOf];omega
   have q4:(nd.kind==4)=false:=by rw [beq_eq_false_iff_ne];exact h4
   have hw4:∀ z,wrongB nd t.groups z=if behB nd=true∧(unb z=true∨255<z.2) then 41 else 0:=fun z=>by unfold wrongB;rw [if_neg (by omega)]
   by_cases h10:nd.kind=10∧3≤nd.num
   ·have q10:(nd.kind==10)=true:=beq_iff_eq.2 h10.1
    have q3:decide (3≤nd.num)=true:=decide_eq_true h10.2
    have hl4:=(HAL.1.look h10.1).2
    have hbe:behB nd=true:=by
     unfold behB
     rw [q10,Bool.true_and,Bool.or_eq_true,beq_iff_eq,beq_iff_eq];omega
    have hone:=HAL.1.one (by omega)
    obtain ⟨qb,qo,rfl,hqb,hqc⟩:=kids_at2 HK3.1 (by omega)
    obtain ⟨m0,hm,hm1,hm2,u0,hu0,hw0⟩:=HKM.1 0 _ (List.getElem?_eq_getElem (by omega))
    have hks:kidsW nd.kids (widthsW t.nodes)=[u0]:=by
     have hall:∀ y∈nd.kids,∃ m:Nat,y=(m:Int)∧m<(widthsW t.nodes).length:=fun y hy=>by
      obtain ⟨j,e,h1,h2,-⟩:=hok.laid.kid HND.1 hy
      exact ⟨j,e,by rw [widths_len];exact h2⟩
     obtain ⟨a1,a2⟩:=kidsW_at hall
     have e0:=a2 0 m0 (by rw [List.getElem?_eq_getElem (by omega),hm])
     obtain ⟨z,hz⟩:=List.length_eq_one_iff.1 (a1.trans hone)
     rw [hz] at e0 ⊢
     rw [hw0] at e0
     simpa using e0
    have hu:OkW u0:=widths_ok t.nodes (rt_nds hok hlen).rep u0 (List.mem_of_getElem? hw0)
    have hsum:sumW [u0]=u0:=add_zero2 hu
    have hub:=unb_lt hu
    have HWR:=hide (show wrongB nd t.groups (sumW (kidsW nd.kids (widthsW t.nodes)))=if u0.2<0∨255<u0.2 then 41 else 0 from by
     rw [hks,hsum,hw4]
     by_cases hh:u0.2<0∨255<u0.2
     ·rw [if_pos hh,if_pos ⟨hbe,by rw [hub];exact hh⟩]
     ·rw [if_neg hh,if_neg (fun h=>hh (by have:=h.2;rw [hub] at this;exact this))])
    have HONE:=hide hone
    have hpi:(0:Int)<(nd.kids.length:Int):=by omega
    have hpn:0<nd.kids.length:=by omega
    have hc0:w.cell? ⟨qb,qo+0,none⟩=some (.int .i64 (m0:Int)):=by rw [hqc 0 _ (List.getElem?_eq_getElem (by omega)),hm]
    rw [Nat.add_zero] at hc0
    have hqw:qb<w.heap.size:=Nat.lt_of_lt_of_le hqb hB
    have HM:=hide hw0
    clear hm hm1 hm2 hu0 hks hu hsum hub hqc hqb hl4 hbe hw4 h10 h4 hone
    go_wp2_with fail
    all_goals try (rename_i hg1 hg2 hg3 hg4;cases hg1;done)
    generalize wr.alloc (.cells (ndq nd (.slice sa sn sc) (.slice (some ⟨qb,qo,none⟩) nd.kids.length kc)) 54)=X at *
    clear d0 d1 d2 d3 d4 d5 d6 d7 d8 d9 t0 t1 t2 x0 x1 x2 x3 x4 x5 x6 x7 x8 x9 y0 y1 y2
    have HKC:=hide (fun wx (hb:Below X.heap.size X wx)=>(((HBXW.1.trans (hb.mono HBXW.1.size))).cell (p:=⟨qb,qo,none⟩) hqw).trans hc0)
    have CALL:=hide (fun wx (hb:Below X.heap.size X wx)=>high_any t _ B hlen hok t.nodes.length m0 u0 wx (by omega) HM.1 (Nat.le_trans hB (HBXW.1.trans (hb.mono HBXW.1.size)).size) (HT0.1.keep fun p hp=>(HBXW.1.trans (hb.mono HBXW.1.size)).cell (by omega)))
    clear hc0
    refine wp_region_noPanic ?_
    refine wp_region_held_drew (S:=fun wx=>Hd (Below X.heap.size X wx)) (by kernel_rfl) (show Hd (Below X.heap.size X _) from hide (Below.refl _ _).drew) (fun hS=>?_)
    refine tkH 0 (some 44) ?va0 rfl ?ya0 hS ?ra0
    case ya0=>(intro w hSw;(try dsimp only at hSw);have h0:=(HBT.1.below hSw.1 HBT.1.lt).cell 0;have h1:=(HBT.1.below hSw.1 HBT.1.lt).cell 1;have h2:=(HBT.1.below hSw.1 HBT.1.lt).cell 2;go_simp;try with_reducible rfl)
    try simp only [aP]
    refine tkH 1 (some 45) ?va1 rfl ?ya1 hS ?ra1
    case ya1=>(intro w hSw;(try dsimp only at hSw);go_simp;try with_reducible rfl)
    try simp only [aP]
    refine tkH 2 (some 46) ?va2 rfl ?ya2 hS ?ra2
    case ya2=>(intro w hSw;(try dsimp only at hSw);have h0:=(HBN.1.below hSw.1 HBN.1.lt).cell 0;have h1:=(HBN.1.below hSw.1 HBN.1.lt).cell 1;have h2:=(HBN.1.below hSw.1 HBN.1.lt).cell 2;have h3:=(HBN.1.below hSw.1 HBN.1.lt).cell 3;have h4:=(HBN.1.below hSw.1 HBN.1.lt).cell 4;have h5:=(HBN.1.below hSw.1 HBN.1.lt).cell 5;have h6:=(HBN.1.below hSw.1 HBN.1.lt).cell 6;have h7:=(HBN.1.below hSw.1 HBN.1.lt).cell 7;have h8:=(HBN.1.below hSw.1 HBN.1.lt).cell 8;have h9:=(HBN.1.below hSw.1 HBN.1.lt).cell 9;go_simp;try with_reducible rfl)
    try simp only [aP]
    refine tkH 3 (some 47) ?va3 rfl ?ya3 hS ?ra3
    case ya3=>(intro w hSw;(try dsimp only at hSw);go_simp;try with_reducible rfl)
    try simp only [aP]
    refine tkH 4 (some 48) ?va4 rfl ?ya4 hS ?ra4
    case ya4=>(intro w hSw;(try dsimp only at hSw);have h0:=HKC.1 _ hSw.1;go_simp;try with_reducible rfl)
    try simp only [aP]
    refine wpAnyH_ready (rs:=[5]) (by kernel_rfl) (by simp) ?_
    refine AllReadyH.cons (o:=⟨some 49,_,_,_,_,_⟩) rfl (fun K hK=>?_) AllReadyH.nil
    go_simp
    refine ((CALL.1 _ hS.1)).mono ?_
    rintro e w5 ⟨rfl,hb⟩
    have HS5:=hide (hS.1.trans (hb.mono hS.1.size))
    clear hb
    go_wp2_with fail
    refine hK.out _ _ HS5 (fun hS=>?_)
    clear hK K
    try simp only [aP]
    refine tkH 6 (some 6) ?va6 rfl ?ya6 hS ?ra6
    case ya6=>(intro w hSw;(try dsimp only at hSw);go_simp;try with_reducible rfl)
    try simp only [aP]
    refine wpAnyH_done (by kernel_rfl) ?_ _
    refine NoPanic.normal ?_
    have HB5:=hide (HBX.1.trans (HS5.1.mono HBX.1.size))
    have HB5W:=hide (HBXW.1.trans (HS5.1.mono HBXW.1.size))
    obtain ⟨x0,x1,x2,x3,x4,x5,x6,x7,x8,x9⟩:=cellsQ (HBN.1.below HS5.1 HBN.1.lt)
    obtain ⟨⟨y0,y1,y2⟩,-⟩:=cells3q (HBT.1.below HS5.1 HBT.1.lt)
    clear hS HS5 CALL HKC
    by_cases g1:u0.2<0
    ·have r1:decide (u0.2<0)=true:=decide_eq_true g1
     have HE:=hide (HW.1 41 (by rw [HWR.1,if_pos (.inl g1)]) (by decide))
     clear g1
     go_wp2_with fail
     go_quiet (fail)
     go_wp2_with fail
     go_ret2
     exact ⟨by rw [HE.1];rfl,below_drewN HB5W.1 _⟩
    have r1:decide (u0.2<0)=false:=decide_eq_false g1
    by_cases g2:255<u0.2
    ·have r2:decide (255<u0.2)=true:=decide_eq_true g2
     have HE:=hide (HW.1 41 (by rw [HWR.1,if_pos (.inr g2)]) (by decide))
     clear g1 g2
     go_wp2_with fail
     go_quiet (fail)
     go_wp2_with fail
     go_ret2
     exact ⟨by rw [HE.1];rfl,below_drewN HB5W.1 _⟩
    have r2:decide (255<u0.2)=false:=decide_eq_false g2
    have hR:KRel t X0 (.int .i64 ((k:Int)+1)) w5:=⟨k+1,by go_num,by omega,HB5.1,HW0.1 (by rw [HWR.1,if_neg (by omega)])⟩
    have HR:=hide hR
    clear g1 g2 hR
    go_wp2_with fail
    have hR:=HR.1
    first|go_roundw|refine ⟨?rel,?measure⟩
    case rel=>exact hR
    case measure=>simp [intOf];omega
   ·have hbe:behB nd=false:=by
     unfold behB
     rw [Bool.and_eq_false_iff,beq_eq_false_iff_ne,Bool.or_eq_false_iff,beq_eq_false_iff_ne,beq_eq_false_iff_ne]
     omega
    have hR:KRel t X0 (.int .i64 ((k:Int)+1)) _:=⟨k+1,by go_num,by omega,HBX.1,HW0.1 (by rw [hw4,if_neg (by rw [hbe];simp)])⟩
    have HR:=hide hR
    clear hR hbe hw4
    by_cases g10:nd.kind=10
    ·have q10:(nd.kind==10)=true:=beq_iff_eq.2 g10
     have q3:decide (3≤nd.num)=false:=decide_eq_false (by omega)
     clear g10 h10 h4
     go_wp2_with fail
     all_goals exact ⟨HR.1,by simp [intOf];omega⟩
    ·have q10:(nd.kind==10)=false:=by rw [beq_eq_false_iff_ne];exact g10
     clear g10 h10 h4
     go_wp2_with fail
     all_goals exact ⟨HR.1,by simp [intOf];omega⟩
  ·obtain rfl:k=t.nodes.length:=by omega
   have HE:=hide (show checkT t=(0,0) from chk_no (by have:=hz;rwa [List.take_length] at this))
   clear hz hbr hbrw hbt
   go_wp2_with fail
   go_ret2
   exact ⟨by rw [HE.1];rfl,HBRW.1⟩
end Go.Proofs.YtmlbklcmblofkaaGreatDoor.Rt
namespace Go.Proofs.YtmlbklcmblofkaaGreatDoor.We
open Go.RowKit Mem Rs As Rt
open Pa (cells3)
open Sc (Gl)
open Wo (lawof_any)
theorem walkChecks (t:Tr) (A N:Option Addr) (cap cn:Nat) (w:World) (hT:TreeV w w.heap.size t (.agg #[.slice A t.nodes.length cap,.int .i64 t.groups,.slice N t.names.length cn])) (hset:∀ nd∈t.nodes,nd.set.length≤8796093021952) (hin:TrIn t) (hc:t.nodes.length≤cap∧cap≤9223372036854775807) (hG:Gl w) :
  Calls Tryz.prog 4 #[.agg #[.slice A t.nodes.length cap,.int .i64 t.groups,.slice N t.names.length cn]] w fun e w'=>e=.returned (.bool true)∧Below w.heap.size w w':=by
 have hb0:Below w.heap.size w (w.alloc (.cells #[.slice A t.nodes.length cap,.int .i64 t.groups,.slice N t.names.length cn] 25)):=(Below.refl _ _).alloc (Nat.le_refl _) _
 have HT0:=hide hT
 have HB0:=hide hb0
 have HK0:=hide (Blk.new w 25 #[.slice A t.nodes.length cap,.int .i64 t.groups,.slice N t.names.length cn])
 have CA:=hide (anchor_any _ (hG.below hb0))
 have HSET:=hide hset
 have HIN:=hide (show (∀ nd∈t.nodes,NdIn1 nd) from fun nd hnd=>⟨hset nd hnd,(hin.1 nd hnd).2.2.2.2.2.2.2.1⟩)
 have HGI:=hide hin.2
 obtain ⟨hc1,hc2⟩:=hc
 clear hT hb0 hset hin hG
 go_enter Tryz.func4,Tryz.ntmps4
 go_wp2_with fail
 refine CA.1.mono ?_
 rintro e w1 ⟨rfl,hb⟩
 have HB1:=hide (HB0.1.trans (hb.mono HB0.1.size))
 have hk:=HK0.1.below hb (by simp)
 obtain ⟨⟨k0,k1,k2⟩,-⟩:=cells3 hk
 have HK1:=hide hk
 clear hb hk HB0 HK0 CA
 by_cases hlong:(150:Int)<(t.nodes.length:Int)
 ·have d0:decide ((150:Int)<(t.nodes.length:Int))=true:=decide_eq_true hlong
  clear hlong
  go_wp2_with fail
  go_ret
  exact ⟨rfl,HB1.1⟩
 have d0:decide ((150:Int)<(t.nodes.length:Int))=false:=decide_eq_false hlong
 have hlen:t.nodes.length≤1000:=by omega
 have HLEN:=hide hlen
 have CO:=hide (lawof_any t _ w.heap.size hlen HSET.1 w1 HB1.1.size (HT0.1.keep fun p hp=>HB1.1.cell hp))
 clear hlong hlen
 go_wp2_with fail
 refine CO.1.mono ?_
 rintro e w2 ⟨v2,rfl,hT2,hb⟩
 have HB2:=hide (HB1.1.trans (hb.mono HB1.1.size))
 have hk:=HK1.1.below hb HK1.1.lt
 clear k0 k1 k2
 obtain ⟨⟨k0,k1,k2⟩,-⟩:=cells3 hk
 have HK2:=hide hk
 have CR:=hide (rightR_any t v2 w2.heap.size w2 (Nat.le_refl _) HLEN.1 HIN.1 HGI.1 hT2)
 clear hb hk HB1 HK1 CO hT2
 go_wp2_with fail
 refine CR.1.mono ?_
 rintro e w3 ⟨⟨b,rfl,hbt⟩,hb⟩
 have HB3:=hide (HB2.1.trans (hb.mono HB2.1.size))
 have hk:=HK2.1.below hb HK2.1.lt
 clear k0 k1 k2
 obtain ⟨⟨k0,k1,k2⟩,-⟩:=cells3 hk
 have HK3:=hide hk
 clear hb hk HB2 HK2 CR
 cases b with
 | false=>
  clear hbt
  go_wp2_with fail
  go_ret
  exact ⟨rfl,HB3.1⟩
 | true=>
  have hok:=hbt rfl
  have CC:=hide (check_any t _ w.heap.size w3 HB3.1.size hok.laid.1 (rt_nds hok HLEN.1) (HT0.1.keep fun p hp=>HB3.1.cell hp))
  have HOK:=hide hok
  clear hok hbt
  go_wp2_with fail
  refine CC.1.mono ?_
  rintro e w4 ⟨rfl,hb⟩
  have HB4:=hide (HB3.1.trans (hb.mono HB3.1.size))
  have hk:=HK3.1.below hb HK3.1.lt
  clear k0 k1 k2
  obtain ⟨⟨k0,k1,k2⟩,-⟩:=cells3 hk
  have HK4:=hide hk
  have CO:=hide (lawof_any t _ w.heap.size HLEN.1 HSET.1 w4 HB4.1.size (HT0.1.keep fun p hp=>HB4.1.cell hp))
  clear hb hk HB3 HK3 CC
  go_wp2_with fail
  refine CO.1.mono ?_
  rintro e w5 ⟨v5,rfl,hT5,hb⟩
  have HB5:=hide (HB4.1.trans (hb.mono HB4.1.size))
  have CQ:=hide (rcheck_any t v5 w5.heap.size w5 HLEN.1 HOK.1 (Nat.le_refl _) hT5)
  clear k0 k1 k2 hb HB4 HK4 CO hT5
  go_wp2_with fail
  refine CQ.1.mono ?_
  rintro e w6 ⟨rfl,hb⟩
  have HB6:=hide (HB5.1.trans (hb.mono HB5.1.size))
  clear hb HB5 CQ
  generalize checkT t=r
  obtain ⟨r1,r2⟩:=r
  have e1:(r1==r1)=true:=beq_self_eq_true _
  have e2:(r2==r2)=true:=beq_self_eq_true _
  go_wp2_with fail
  go_ret
  exact ⟨rfl,HB6.1⟩
end Go.Proofs.YtmlbklcmblofkaaGreatDoor.We
namespace Go.Proofs.YtmlbklcmblofkaaGreatDoor.WeLawChecks
open Go.ChangeShapes Go.WideShapes Go.ChangeAt Go.RowKit Go.ChangeMaps Sc We As Go.Deep
theorem lifted (os:Os) (started:os.Started) (H:Type) (enc:TypeId×Value→H) :
  ReturnsInHanded {} Tryz.checked os 4 .any (fun w args=>(Rows.wellChecksSpec.pre enc Tryz.prog Tryz.f4 [] false w args∧laidMetH Tryz.prog list w)∧sizedMet enc Tryz.prog Tryz.f4 (OpenSpec.ofChange Rows.wellChecksSpec) false w args)
   (Rows.wellChecksSpec.post enc Tryz.prog Tryz.f4 false true false false):=by
 refine bothS list Gl (fun _ h hs=>gl_of h hs) started (by kernel_rfl) Tryz.func4
  (ChangeSpec.witness_shaped (enc:=enc) (C:=Tryz.checked) (os:=os) (X:=fun w _=>laidMetH Tryz.prog list w) false (World.laidAll Tryz.prog os list) #[.agg #[.slice none 0 0,.int .i64 0,.slice none 0 0]] 8 (World.laidAll_os _ _ _)
   (World.shaped_of_ZipB (by kernel_rfl) (by kernel_rfl)) (by kernel_rfl) (by kernel_rfl) (by kernel_rfl)
   (by rw [MakeChecks.laidMetH_plain _ _ _ (by kernel_rfl)];exact laidMet_laidAll _ (by kernel_rfl) (by kernel_rfl))) ?_
 intro W base args ds gs before hval0 hW hsz0 hGl
 have hval:∀ (j:Nat) t v,Tryz.f4.params[j]?=some t→args[j]?=some v→Value.okWide Tryz.prog W .any base t v:=hval0
 have hsz:(DataW.weightsEach Tryz.prog (Tryz.f4.params.toList++Rows.wellChecksSpec.plain.varTypes Tryz.prog) (ds++gs)).all (·≤reachBytes)=true:=hsz0
 have hW':=hW
 obtain ⟨p,q,hA0,hV,rfl,hfz,hnd⟩:=hW
 have hA:DataW.TrodAll enc Tryz.prog W 0 (fun _=>true) true Tryz.f4.params.toList args.toList ds p:=hA0
 rw [Tryz.params4] at hA hval hsz
 obtain ⟨v0,vs0,d0,ds0,p0,q0,hargs,rfl,rfl,h0,r0⟩:=trodAll_cons hA
 obtain ⟨rfl,rfl,rfl⟩:=trodAll_nil r0
 obtain rfl:args=#[v0]:=by cases args;simp_all
 obtain ⟨rfl,rfl⟩:=trodVars_none hV
 have k0:=h0
 have lt0:∀ x∈p0,x.block<W.heap.size:=by obtain ⟨m,hm⟩:=k0;exact DataW.trod_lt m _ _ _ hm
 obtain ⟨t0,hT0,hin0,hz0⟩:=tree_of (hval 0 25 v0 rfl rfl) h0
 have hs0:=hz0 (fun n hn=>of_decide_eq_true (List.all_eq_true.1 hsz n (DataW.weights_mem_each (j:=0) (t:=25) rfl rfl n hn)))
 have hV0:=hT0
 obtain ⟨_,_,rfl,⟨A0,cap0,rfl,hc0,hm0,-⟩,N0,cn0,rfl,hd0,he0,-⟩:=hT0
 clear hA0 hval0
 simp only [List.append_nil,List.nil_append] at hW'
 refine (walkChecks t0 A0 N0 cap0 cn0 W hV0 hs0 hin0 ⟨hc0,hm0⟩ hGl ).mono fun e W' ⟨he,bel⟩=>?_
 subst he
 exact ⟨_,rfl,_,_,_,[],_,[],hW',trodAll_mk1 (shut_bool Tryz.underlying4 _),(trodAll_cons_mk (Below.trod laidOut (by kernel_rfl) (of_decide_eq_true (by kernel_rfl)) k0 bel lt0) trodAll_mk0),rfl,bel.frame _,fun h=>by cases h⟩
theorem said:Rows.WellChecksSaid:=
 OpenClaim.holds_of_wide 4 Tryz.f4 rfl rfl rfl rfl rfl rfl rfl ⟨rfl,rfl,rfl,rfl,rfl⟩ rfl rfl rfl rfl rfl (by kernel_rfl) Tryz.func4 (by kernel_rfl)
  (of_decide_eq_true (by kernel_rfl)) (by unfold Func.isWrapper;first|(rw [if_pos (by decide +kernel)];kernel_rfl)|(rw [if_neg (by decide +kernel)];exact ⟨rfl,rfl⟩))
  (fun os started H enc _=>lifted os started H enc)
theorem plain (f:FuncId) (fn:Func) (hf:Tryz.pinned.checked.prog.funcNamed "clew/clewlaw09.WellChecks"=some f) (hfn:Tryz.pinned.checked.prog.funcs[f]?=some fn) :
  false=Tryz.pinned.checked.prog.looks []∧∀ (j:Nat) t,fn.params[j]?=some t→Tryz.pinned.checked.prog.wantsStandIn t=false:=by
 obtain rfl:f=4:=Option.some.inj ((show Tryz.prog.funcNamed "clew/clewlaw09.WellChecks"=some 4 by kernel_rfl).symm.trans hf) |>.symm
 obtain rfl:fn=Tryz.f4:=(Option.some.inj (Tryz.func4.symm.trans hfn)).symm
 refine ⟨by kernel_rfl,fun j t ht=>?_⟩
 rw [Tryz.params4] at ht
 have hm:t∈[25]:=by simpa using Array.mem_of_getElem? ht
 have hall:([25].all fun u=>!Tryz.prog.wantsStandIn u)=true:=by kernel_rfl
 exact (show Tryz.prog.wantsStandIn t=false by simpa using List.all_eq_true.1 hall t hm)
theorem card:Rows.WellChecksCardSaid:=
 Claim7.holds_tied_plain_at .later [] _ _ _ _ said (fun _ h=>by cases h) (by kernel_rfl) (fun _ h=>by cases h) wellChecks_row_tie rfl ⟨rfl,rfl⟩ (by kernel_rfl) rfl plain (by kernel_rfl)
end Go.Proofs.YtmlbklcmblofkaaGreatDoor.WeLawChecks
