/-
  WellWidths: any right tree's widths are the document's: the given statement, its row and its card.
-/
import Derived.Test.YtmlbklcmblofkaaGreatDoorMRtB
import Derived.Test.YtmlbklcmblofkaaGreatDoorMWeD
import Derived.Test.YtmlbklcmblofkaaGreatDoorMAsQ
import Derived.Test.YtmlbklcmblofkaaGreatDoorMLdA
set_option linter.unusedSimpArgs false
set_option linter.unusedVariables false
set_option maxHeartbeats 8000000
set_option maxRecDepth 100000
namespace Go.Proofs.YtmlbklcmblofkaaGreatDoor.Rt
open Go.RowKit Mem Rs As We
theorem width_any (t:Tr) (v:Value) (B:Nat) (hlen:t.nodes.length≤1000) (hok:RtOk t) (i:Nat) (x:Wd) (w:World) (hx:(widthsW t.nodes)[i]?=some x) (hB:B≤w.heap.size) (hT:TreeV w B t v) :
  Calls Tryz.prog 10 #[v,.int .i64 (i:Int)] w fun e w'=>e=.returned (.tuple #[.int .i64 x.1,.int .i64 x.2])∧Below w.heap.size w w':=by
 have HT0:=hide hT
 obtain ⟨av,cv,rfl,⟨A,cap,rfl,hc1,hc2,hn⟩,An,cn,rfl,hc3,hc4,hnn⟩:=hT
 have hb0:Below w.heap.size w (w.alloc (.cells #[.slice A t.nodes.length cap,.int .i64 t.groups,.slice An t.names.length cn] 30)):=(Below.refl _ _).alloc (Nat.le_refl _) _
 have HBX:=hide hb0
 have HBT:=hide (Blk.new w 30 #[.slice A t.nodes.length cap,.int .i64 t.groups,.slice An t.names.length cn])
 have HX:=hide hx
 have HOK:=hide hok
 clear hn hnn hb0 hx hok
 go_enter Tryz.func10,Tryz.ntmps10
 go_wp2_with fail
 generalize w.alloc (.cells #[.slice A t.nodes.length cap,.int .i64 t.groups,.slice An t.names.length cn] 30)=X at *
 have CL:=hide (fun wx (hb:Below X.heap.size X wx)=>low_any t _ B hlen HOK.1 t.nodes.length i x wx (by omega) HX.1 (Nat.le_trans hB (HBX.1.trans (hb.mono HBX.1.size)).size) (HT0.1.keep fun p hp=>(HBX.1.trans (hb.mono HBX.1.size)).cell (by omega)))
 have CH:=hide (fun wx (hb:Below X.heap.size X wx)=>high_any t _ B hlen HOK.1 t.nodes.length i x wx (by omega) HX.1 (Nat.le_trans hB (HBX.1.trans (hb.mono HBX.1.size)).size) (HT0.1.keep fun p hp=>(HBX.1.trans (hb.mono HBX.1.size)).cell (by omega)))
 refine wp_region_noPanic ?_
 refine wp_region_held_drew (S:=fun wx=>Hd (Below X.heap.size X wx)) (by kernel_rfl) (show Hd (Below X.heap.size X _) from hide (Below.refl _ _).drew) (fun hS=>?_)
 refine tkH 0 (some 6) ?va0 rfl ?ya0 hS ?ra0
 case ya0=>(intro w hSw;(try dsimp only at hSw);have h0:=(HBT.1.below hSw.1 HBT.1.lt).cell 0;have h1:=(HBT.1.below hSw.1 HBT.1.lt).cell 1;have h2:=(HBT.1.below hSw.1 HBT.1.lt).cell 2;go_simp;try with_reducible rfl)
 try simp only [aP]
 refine tkH 1 (some 7) ?va1 rfl ?ya1 hS ?ra1
 case ya1=>(intro w hSw;(try dsimp only at hSw);go_simp;try with_reducible rfl)
 try simp only [aP]
 refine tkH 3 (some 9) ?va3 rfl ?ya3 hS ?ra3
 case ya3=>(intro w hSw;(try dsimp only at hSw);have h0:=(HBT.1.below hSw.1 HBT.1.lt).cell 0;have h1:=(HBT.1.below hSw.1 HBT.1.lt).cell 1;have h2:=(HBT.1.below hSw.1 HBT.1.lt).cell 2;go_simp;try with_reducible rfl)
 try simp only [aP]
 refine tkH 4 (some 10) ?va4 rfl ?ya4 hS ?ra4
 case ya4=>(intro w hSw;(try dsimp only at hSw);go_simp;try with_reducible rfl)
 try simp only [aP]
 refine wpAnyH_ready (rs:=[2]) (by kernel_rfl) (by simp) ?_
 refine AllReadyH.cons (o:=⟨some 8,_,_,_,_,_⟩) rfl (fun K hK=>?_) AllReadyH.nil
 go_simp
 refine (CL.1 _ hS.1).mono ?_
 rintro e w5 ⟨rfl,hb⟩
 have HS5:=hide (hS.1.trans (hb.mono hS.1.size))
 clear hb
 go_wp2_with fail
 refine hK.out _ _ HS5 (fun hS=>?_)
 clear hK K HS5
 try simp only [aP]
 refine wpAnyH_ready (rs:=[5]) (by kernel_rfl) (by simp) ?_
 refine AllReadyH.cons (o:=⟨some 11,_,_,_,_,_⟩) rfl (fun K hK=>?_) AllReadyH.nil
 go_simp
 refine (CH.1 _ hS.1).mono ?_
 rintro e w5 ⟨rfl,hb⟩
 have HS5:=hide (hS.1.trans (hb.mono hS.1.size))
 clear hb
 go_wp2_with fail
 refine hK.out _ _ HS5 (fun hS=>?_)
 clear hK K HS5
 try simp only [aP]
 refine tkH 6 (some 4) ?vb6 rfl ?yb6 hS ?rb6
 case yb6=>(intro w hSw;(try dsimp only at hSw);go_simp;try with_reducible rfl)
 try simp only [aP]
 refine tkH 7 (some 5) ?vb7 rfl ?yb7 hS ?rb7
 case yb7=>(intro w hSw;(try dsimp only at hSw);go_simp;try with_reducible rfl)
 try simp only [aP]
 refine wpAnyH_done (by kernel_rfl) ?_ _
 refine NoPanic.normal ?_
 have HS5:=hide hS
 clear hS
 go_wp2_with fail
 go_ret2
 exact ⟨rfl,HBX.1.trans ((HS5.1.1).mono HBX.1.size)⟩
end Go.Proofs.YtmlbklcmblofkaaGreatDoor.Rt
namespace Go.Proofs.YtmlbklcmblofkaaGreatDoor.We
open Go.RowKit Mem Rs As Rt
open Pa (cells3)
open Sc (Gl)
open Wo (lawof_any)
def WRel (n:Nat) (w5:World) (i:Value) (wr:World):Prop:=∃ k:Nat,i=.int .i64 (k:Int)∧k≤n∧Below w5.heap.size w5 wr
theorem walkWidths (t:Tr) (A N:Option Addr) (cap cn:Nat) (w:World) (hT:TreeV w w.heap.size t (.agg #[.slice A t.nodes.length cap,.int .i64 t.groups,.slice N t.names.length cn])) (hset:∀ nd∈t.nodes,nd.set.length≤8796093021952) (hin:TrIn t) (hc:t.nodes.length≤cap∧cap≤9223372036854775807) (hG:Gl w) :
  Calls Tryz.prog 3 #[.agg #[.slice A t.nodes.length cap,.int .i64 t.groups,.slice N t.names.length cn]] w fun e w'=>e=.returned (.bool true)∧Below w.heap.size w w':=by
 have hb0:Below w.heap.size w (w.alloc (.cells #[.slice A t.nodes.length cap,.int .i64 t.groups,.slice N t.names.length cn] 25)):=(Below.refl _ _).alloc (Nat.le_refl _) _
 have HT0:=hide hT
 have HB0:=hide hb0
 have HK0:=hide (Blk.new w 25 #[.slice A t.nodes.length cap,.int .i64 t.groups,.slice N t.names.length cn])
 have CA:=hide (anchor_any _ (hG.below hb0))
 have HSET:=hide hset
 have HIN:=hide (show (∀ nd∈t.nodes,NdIn1 nd) from fun nd hnd=>⟨hset nd hnd,(hin.1 nd hnd).2.2.2.2.2.2.2.1⟩)
 have HGI:=hide hin.2
 obtain ⟨hc1,hc2⟩:=hc
 clear hT hb0 hset hin hG
 go_enter Tryz.func3,Tryz.ntmps3
 go_wp2_with fail
 refine CA.1.mono ?_
 rintro e w1 ⟨rfl,hb⟩
 have HB1:=hide (HB0.1.trans (hb.mono HB0.1.size))
 have hk:=HK0.1.below hb (by simp)
 obtain ⟨⟨k0,k1,k2⟩,-⟩:=cells3 hk
 have HK1:=hide hk
 clear hb hk HB0 HK0 CA
 by_cases hlong:(150:Int)<(t.nodes.length:Int)
 ·have d0:decide ((150:Int)<(t.nodes.length:Int))=true:=decide_eq_true hlong
  clear hlong
  go_wp2_with fail
  go_ret
  exact ⟨rfl,HB1.1⟩
 have d0:decide ((150:Int)<(t.nodes.length:Int))=false:=decide_eq_false hlong
 have hlen:t.nodes.length≤1000:=by omega
 have HLEN:=hide hlen
 have CO:=hide (lawof_any t _ w.heap.size hlen HSET.1 w1 HB1.1.size (HT0.1.keep fun p hp=>HB1.1.cell hp))
 clear hlong hlen
 go_wp2_with fail
 refine CO.1.mono ?_
 rintro e w2 ⟨v2,rfl,hT2,hb⟩
 have HB2:=hide (HB1.1.trans (hb.mono HB1.1.size))
 have hk:=HK1.1.below hb HK1.1.lt
 clear k0 k1 k2
 obtain ⟨⟨k0,k1,k2⟩,-⟩:=cells3 hk
 have HK2:=hide hk
 have CR:=hide (rightR_any t v2 w2.heap.size w2 (Nat.le_refl _) HLEN.1 HIN.1 HGI.1 hT2)
 clear hb hk HB1 HK1 CO hT2
 go_wp2_with fail
 refine CR.1.mono ?_
 rintro e w3 ⟨⟨b,rfl,hbt⟩,hb⟩
 have HB3:=hide (HB2.1.trans (hb.mono HB2.1.size))
 have hk:=HK2.1.below hb HK2.1.lt
 clear k0 k1 k2
 obtain ⟨⟨k0,k1,k2⟩,-⟩:=cells3 hk
 have HK3:=hide hk
 clear hb hk HB2 HK2 CR
 cases b with
 | false=>
  clear hbt
  go_wp2_with fail
  go_ret
  exact ⟨rfl,HB3.1⟩
 | true=>
  have hok:=hbt rfl
  have CW:=hide (widths_any t _ w.heap.size w3 HB3.1.size hok.laid.1 (rt_nds hok HLEN.1) (HT0.1.keep fun p hp=>HB3.1.cell hp))
  have HOK:=hide hok
  have HWL:=hide (widths_len t.nodes)
  clear hok hbt
  go_wp2_with fail
  refine CW.1.mono ?_
  rintro e w5 ⟨v5,rfl,hcut⟩
  obtain ⟨A6,c6,rfl,hl6,h61,h62⟩:=own_lst2 hcut.1
  have HB5:=hide (HB3.1.trans (hcut.2.mono HB3.1.size))
  have hk5:=HK3.1.below hcut.2 HK3.1.lt
  clear k0 k1 k2
  obtain ⟨⟨k0,k1,k2⟩,-⟩:=cells3 hk5
  have HK5:=hide hk5
  rw [HWL.1] at h61 ⊢
  have HL6:=hide hl6
  have hne:((t.nodes.length:Int) != (t.nodes.length:Int))=false:=by simp
  clear hcut hl6 hk5 HB3 HK3 CW
  obtain ⟨WL,hWL⟩:∃ WL,widthsW t.nodes=WL:=⟨_,rfl⟩
  have HWX:=hide (fun (k:Nat) (r:Wd) (h:WL[k]?=some r)=>(show (widthsW t.nodes)[k]?=some r from hWL ▸ h))
  rw [hWL] at HL6 HWL
  clear hWL
  go_wp2_with fail
  go_loopw [30] (fun i wr=>WRel t.nodes.length w5 i wr) (fun i _=>t.nodes.length-(intOf i).toNat)
  case atStart=>exact ⟨0,by go_num,Nat.zero_le _,Below.refl _ _⟩
  case round=>
   obtain ⟨k,rfl,hk,hbr⟩:=hrel
   have HBW:=hide (HB5.1.trans (hbr.mono HB5.1.size))
   have HBR:=hide hbr
   go_hideQ
   by_cases hlt:k<t.nodes.length
   ·obtain ⟨r,hr⟩:∃ r,WL[k]?=some r:=⟨_,List.getElem?_eq_getElem (by have:=HWL.1;omega)⟩
    have hki:(k:Int)<(t.nodes.length:Int):=by omega
    have hk0:(0:Int)≤(k:Int):=by omega
    obtain ⟨b6,o6,rfl,hb6,hc6⟩:=HL6.1 (by have:=HWL.1;omega)
    have x0:=(hbr.cell (p:=⟨b6,o6+k*2,none⟩) hb6).trans (hc6 k r hr).1
    have x1:=(hbr.cell (p:=⟨b6,o6+k*2+1,none⟩) hb6).trans (hc6 k r hr).2
    have hx:Below wr.heap.size wr (wr.alloc (.cells #[.int .i64 r.1,.int .i64 r.2] 35)):=(Below.refl _ wr).alloc (Nat.le_refl _) _
    have HXR:=hide (hbr.trans (hx.mono hbr.size))
    have HXW:=hide (HBW.1.trans (hx.mono HBW.1.size))
    have HKT:=hide ((HK5.1.below (hbr.trans (hx.mono hbr.size)) HK5.1.lt))
    have HKW:=hide (Blk.new wr 35 #[.int .i64 r.1,.int .i64 r.2])
    have HR:=hide (HWX.1 k r hr)
    have x0':=(hx.cell (cell_lt x0)).trans x0
    have x1':=(hx.cell (cell_lt x1)).trans x1
    clear k0 k1 k2
    obtain ⟨⟨k0,k1,k2⟩,-⟩:=cells3 HKT.1
    have w0:=HKW.1.cell 0
    have w1':=HKW.1.cell 1
    clear hr hc6 hb6 hbr hx
    go_wp2_with fail
    generalize wr.alloc (.cells #[.int .i64 r.1,.int .i64 r.2] 35)=X at *
    have CO:=hide (lawof_any t _ w.heap.size HLEN.1 HSET.1 X HXW.1.size (HT0.1.keep fun p hp=>HXW.1.cell hp))
    clear x0 x1 x0' x1'
    refine CO.1.mono ?_
    rintro e w7 ⟨v7,rfl,hT7,hb⟩
    have HB7:=hide (HXW.1.trans (hb.mono HXW.1.size))
    have HR7:=hide (HXR.1.trans (hb.mono HXR.1.size))
    have HK7:=hide (HKW.1.below hb HKW.1.lt)
    have CD:=hide (width_any t v7 w7.heap.size HLEN.1 HOK.1 k r w7 HR.1 (Nat.le_refl _) hT7)
    clear hb hT7 CO w0 w1' k0 k1 k2 HKW HKT HXW HXR
    go_wp2_with fail
    refine CD.1.mono ?_
    rintro e w8 ⟨rfl,hb⟩
    have HB8:=hide (HB7.1.trans (hb.mono HB7.1.size))
    have HR8:=hide (HR7.1.trans (hb.mono HR7.1.size))
    have w0:=(HK7.1.below hb HK7.1.lt).cell 0
    have w1':=(HK7.1.below hb HK7.1.lt).cell 1
    have e1:(r.1 != r.1)=false:=by simp
    have e2:(r.2 != r.2)=false:=by simp
    have hR:WRel t.nodes.length w5 (.int .i64 ((k:Int)+1)) w8:=⟨k+1,by go_num,by omega,HR8.1⟩
    have HRR:=hide hR
    clear hb CD hR HB7 HR7 HK7
    go_wp2_with fail
    have hR:=HRR.1
    first|go_roundw|refine ⟨?rel,?measure⟩
    case rel=>exact hR
    case measure=>simp [intOf];omega
   ·obtain rfl:k=t.nodes.length:=by omega
    clear hbr
    go_wp2
    go_ret
    exact ⟨rfl,HBW.1⟩
end Go.Proofs.YtmlbklcmblofkaaGreatDoor.We
namespace Go.Proofs.YtmlbklcmblofkaaGreatDoor.WeLawWidths
open Go.ChangeShapes Go.WideShapes Go.ChangeAt Go.RowKit Go.ChangeMaps Sc We As Go.Deep
theorem lifted (os:Os) (started:os.Started) (H:Type) (enc:TypeId×Value→H) :
  ReturnsInHanded {} Tryz.checked os 3 .any (fun w args=>(Rows.wellWidthsSpec.pre enc Tryz.prog Tryz.f3 [] false w args∧laidMetH Tryz.prog list w)∧sizedMet enc Tryz.prog Tryz.f3 (OpenSpec.ofChange Rows.wellWidthsSpec) false w args)
   (Rows.wellWidthsSpec.post enc Tryz.prog Tryz.f3 false true false false):=by
 refine bothS list Gl (fun _ h hs=>gl_of h hs) started (by kernel_rfl) Tryz.func3
  (ChangeSpec.witness_shaped (enc:=enc) (C:=Tryz.checked) (os:=os) (X:=fun w _=>laidMetH Tryz.prog list w) false (World.laidAll Tryz.prog os list) #[.agg #[.slice none 0 0,.int .i64 0,.slice none 0 0]] 8 (World.laidAll_os _ _ _)
   (World.shaped_of_ZipB (by kernel_rfl) (by kernel_rfl)) (by kernel_rfl) (by kernel_rfl) (by kernel_rfl)
   (by rw [MakeChecks.laidMetH_plain _ _ _ (by kernel_rfl)];exact laidMet_laidAll _ (by kernel_rfl) (by kernel_rfl))) ?_
 intro W base args ds gs before hval0 hW hsz0 hGl
 have hval:∀ (j:Nat) t v,Tryz.f3.params[j]?=some t→args[j]?=some v→Value.okWide Tryz.prog W .any base t v:=hval0
 have hsz:(DataW.weightsEach Tryz.prog (Tryz.f3.params.toList++Rows.wellWidthsSpec.plain.varTypes Tryz.prog) (ds++gs)).all (·≤reachBytes)=true:=hsz0
 have hW':=hW
 obtain ⟨p,q,hA0,hV,rfl,hfz,hnd⟩:=hW
 have hA:DataW.TrodAll enc Tryz.prog W 0 (fun _=>true) true Tryz.f3.params.toList args.toList ds p:=hA0
 rw [Tryz.params3] at hA hval hsz
 obtain ⟨v0,vs0,d0,ds0,p0,q0,hargs,rfl,rfl,h0,r0⟩:=trodAll_cons hA
 obtain ⟨rfl,rfl,rfl⟩:=trodAll_nil r0
 obtain rfl:args=#[v0]:=by cases args;simp_all
 obtain ⟨rfl,rfl⟩:=trodVars_none hV
 have k0:=h0
 have lt0:∀ x∈p0,x.block<W.heap.size:=by obtain ⟨m,hm⟩:=k0;exact DataW.trod_lt m _ _ _ hm
 obtain ⟨t0,hT0,hin0,hz0⟩:=tree_of (hval 0 25 v0 rfl rfl) h0
 have hs0:=hz0 (fun n hn=>of_decide_eq_true (List.all_eq_true.1 hsz n (DataW.weights_mem_each (j:=0) (t:=25) rfl rfl n hn)))
 have hV0:=hT0
 obtain ⟨_,_,rfl,⟨A0,cap0,rfl,hc0,hm0,-⟩,N0,cn0,rfl,hd0,he0,-⟩:=hT0
 clear hA0 hval0
 simp only [List.append_nil,List.nil_append] at hW'
 refine (walkWidths t0 A0 N0 cap0 cn0 W hV0 hs0 hin0 ⟨hc0,hm0⟩ hGl ).mono fun e W' ⟨he,bel⟩=>?_
 subst he
 exact ⟨_,rfl,_,_,_,[],_,[],hW',trodAll_mk1 (shut_bool Tryz.underlying4 _),(trodAll_cons_mk (Below.trod laidOut (by kernel_rfl) (of_decide_eq_true (by kernel_rfl)) k0 bel lt0) trodAll_mk0),rfl,bel.frame _,fun h=>by cases h⟩
theorem said:Rows.WellWidthsSaid:=
 OpenClaim.holds_of_wide 3 Tryz.f3 rfl rfl rfl rfl rfl rfl rfl ⟨rfl,rfl,rfl,rfl,rfl⟩ rfl rfl rfl rfl rfl (by kernel_rfl) Tryz.func3 (by kernel_rfl)
  (of_decide_eq_true (by kernel_rfl)) (by unfold Func.isWrapper;first|(rw [if_pos (by decide +kernel)];kernel_rfl)|(rw [if_neg (by decide +kernel)];exact ⟨rfl,rfl⟩))
  (fun os started H enc _=>lifted os started H enc)
theorem plain (f:FuncId) (fn:Func) (hf:Tryz.pinned.checked.prog.funcNamed "clew/clewlaw09.WellWidths"=some f) (hfn:Tryz.pinned.checked.prog.funcs[f]?=some fn) :
  false=Tryz.pinned.checked.prog.looks []∧∀ (j:Nat) t,fn.params[j]?=some t→Tryz.pinned.checked.prog.wantsStandIn t=false:=by
 obtain rfl:f=3:=Option.some.inj ((show Tryz.prog.funcNamed "clew/clewlaw09.WellWidths"=some 3 by kernel_rfl).symm.trans hf) |>.symm
 obtain rfl:fn=Tryz.f3:=(Option.some.inj (Tryz.func3.symm.trans hfn)).symm
 refine ⟨by kernel_rfl,fun j t ht=>?_⟩
 rw [Tryz.params3] at ht
 have hm:t∈[25]:=by simpa using Array.mem_of_getElem? ht
 have hall:([25].all fun u=>!Tryz.prog.wantsStandIn u)=true:=by kernel_rfl
 exact (show Tryz.prog.wantsStandIn t=false by simpa using List.all_eq_true.1 hall t hm)
theorem card:Rows.WellWidthsCardSaid:=
 Claim7.holds_tied_plain_at .later [] _ _ _ _ said (fun _ h=>by cases h) (by kernel_rfl) (fun _ h=>by cases h) wellWidths_row_tie rfl ⟨rfl,rfl⟩ (by kernel_rfl) rfl plain (by kernel_rfl)
end Go.Proofs.YtmlbklcmblofkaaGreatDoor.WeLawWidths
