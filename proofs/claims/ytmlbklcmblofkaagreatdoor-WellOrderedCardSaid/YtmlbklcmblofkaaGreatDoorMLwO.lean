/-
  WellOrdered: what a node takes at least is no more than what it takes at most; a first node takes no less than any of its kids: the given statement, its row and its card.
-/
import Derived.Test.YtmlbklcmblofkaaGreatDoorMWeD
import Derived.Test.YtmlbklcmblofkaaGreatDoorMLdA
set_option linter.unusedSimpArgs false
set_option linter.unusedVariables false
set_option maxHeartbeats 8000000
set_option maxRecDepth 100000
namespace Go.Proofs.YtmlbklcmblofkaaGreatDoor.We
open Go.RowKit Mem Rs As
open Pa (parseP cells3 parse_right parse_fit)
open Sc (PV Gl)
attribute [local go_sem] build_w
def ORel (n:Nat) (w5:World) (i:Value) (wr:World):Prop:=∃ k:Nat,i=.int .i64 (k:Int)∧k≤n∧Below w5.heap.size w5 wr
def OKel (n:Nat) (W:World) (i:Value) (wr:World):Prop:=∃ k:Nat,i=.int .i64 (k:Int)∧k≤n∧Below W.heap.size W wr
theorem walkOrdered (A:Option Addr) (cap:Nat) (bs:List UInt8) (w:World) (hG:Gl w) (hP:PV bs A cap w) :
  Calls Tryz.prog 5 #[.slice A bs.length cap] w fun e w'=>e=.returned (.bool true)∧Below w.heap.size w w':=by
 have CA:=hide (anchor_any w hG)
 have CP:=hide (fun W (hb:Below w.heap.size w W)=>all_any bs A cap W (hP.below hb) (hG.below hb))
 have hcap:bs.length≤9223372036854775807:=Nat.le_trans hP.room hP.top
 have HRI:=hide (fun t (h:parseP bs=.ok t)=>(⟨parse_right h,parse_fit h⟩:_∧_))
 clear hG hP
 go_enter Tryz.func5,Tryz.ntmps5
 go_wp2_with fail
 refine CA.1.mono ?_
 rintro e w1 ⟨rfl,hB⟩
 have CP:=hide (CP.1 w1 hB)
 have HB:=hide hB
 clear hB CA
 by_cases hlong:(1000:Int)<(bs.length:Int)
 ·have d0:decide ((1000:Int)<(bs.length:Int))=true:=decide_eq_true hlong
  clear CP HRI
  go_wp2_with fail
  go_ret
  exact ⟨rfl,HB.1⟩
 have d0:decide ((1000:Int)<(bs.length:Int))=false:=decide_eq_false hlong
 clear hlong
 go_wp2_with fail
 refine CP.1.mono ?_
 rintro e w2 ⟨hB2,h⟩
 have hb2:=HB.1.trans (hB2.mono HB.1.size)
 have HB2:=hide hb2
 clear hB2 CP HB d0
 have key:∀ c pl:Int,c≠0→((c:Int) != 0)=true:=fun c pl h=>by simp [h]
 cases hr:parseP bs with
 | error t=>
  obtain ⟨c,pl⟩:=t
  rw [hr] at h
  obtain ⟨hc,rfl⟩:=h
  have e0:=key c pl (by omega)
  have HB3:=hide (hb2.alloc hb2.size (.cells #[.slice none 0 0,.int .i64 0,.slice none 0 0] 25))
  clear hr hc HRI hb2 key
  go_wp2_with fail
  go_ret
  exact ⟨rfl,HB3.1⟩
 | ok t=>
  rw [hr] at h
  obtain ⟨⟨hri,-⟩,hfit⟩:=HRI.1 t hr
  clear hr HRI
  rcases h with ⟨-,v,rfl,ht⟩|⟨hne,rfl⟩
  ·obtain ⟨hok,hn0⟩:=right_ok hri hfit.1
   obtain ⟨b,off,tcap,An,cn,sv,kv,rfl,hb,h1,h2,hL,hK⟩:=tree_lies ht hn0
   have hb3:Below w2.heap.size w2 (w2.alloc (.cells #[.slice (some ⟨b,off,none⟩) t.nodes.length tcap,.int .i64 t.groups,.slice An t.names.length cn] 25)):=(Below.refl _ w2).alloc (Nat.le_refl _) _
   have CW:=hide (widths_any t _ _ (w2.alloc (.cells #[.slice (some ⟨b,off,none⟩) t.nodes.length tcap,.int .i64 t.groups,.slice An t.names.length cn] 25)) hb3.size hn0 hok (ht.below hb3))
   have HKT:=hide (Blk.new w2 25 #[.slice (some ⟨b,off,none⟩) t.nodes.length tcap,.int .i64 t.groups,.slice An t.names.length cn])
   have HB3:=hide (hb2.trans (hb3.mono hb2.size))
   have HB23:=hide hb3
   have hlen:=hfit.1
   have HOW:=hide (widths_ok t.nodes hok.rep)
   have HWL:=hide (widths_len t.nodes)
   have HKID:=hide (fun (j k:Nat) nd w v=>widths_kid (N:=t.nodes) hok.rep (right_kids hri) (j:=j) (k:=k) (nd:=nd) (w:=w) (v:=v))
   have HLK:=hide (fun (i:Nat) nd (hn:t.nodes[i]?=some nd) (y:Int) (hy:y∈nd.kids)=>(right_laid hri).kid hn hy)
   have HL:=hide hL
   have HKV:=hide hK
   obtain ⟨⟨a0,a1,a2⟩,-⟩:=cells3 HKT.1
   clear hri hfit hok ht hL hK hb2 key hb3
   go_wp2_with fail
   refine CW.1.mono ?_
   rintro e w5 ⟨v5,rfl,hcut⟩
   obtain ⟨A6,c6,rfl,hl6,h61,h62⟩:=own_lst2 hcut.1
   have hb25:=HB23.1.trans (hcut.2.mono HB23.1.size)
   have hk5:=HKT.1.below hcut.2 HKT.1.lt
   have HB5:=hide (HB2.1.trans (hb25.mono HB2.1.size))
   have HB25:=hide hb25
   have HK5:=hide hk5
   rw [HWL.1] at h61 ⊢
   have HL6:=hide hl6
   clear a0 a1 a2 hcut hb25 hk5 hl6 HB3 HB23 HKT CW HB2
   generalize widthsW t.nodes=WL at *
   go_wp2_with fail
   go_loopw [29] (fun i wr=>ORel t.nodes.length w5 i wr) (fun i _=>t.nodes.length-(intOf i).toNat)
   case atStart=>exact ⟨0,by go_num,Nat.zero_le _,Below.refl _ _⟩
   case round=>
    obtain ⟨k,rfl,hk,hbr⟩:=hrel
    have hb2r:=HB25.1.trans (hbr.mono HB25.1.size)
    have HBW:=hide (HB5.1.trans (hbr.mono HB5.1.size))
    have HBR:=hide hbr
    have hk5:=HK5.1.below hbr HK5.1.lt
    go_hideQ
    by_cases hlt:k<t.nodes.length
    ·obtain ⟨nd,hnd⟩:∃ nd,t.nodes[k]?=some nd:=⟨_,List.getElem?_eq_getElem hlt⟩
     obtain ⟨r,hr⟩:∃ r,WL[k]?=some r:=⟨_,List.getElem?_eq_getElem (by have:=HWL.1;omega)⟩
     obtain ⟨d0,d1,d2,d3,d4,d5,d6,d7,d8,d9⟩:=(HL.1.keep ((hb2r.alloc hb2r.size (.cells #[.int .i64 r.1,.int .i64 r.2] 35)).block b hb)) k nd hnd
     have hkv:=HKV.1 k nd hnd
     have hki:(k:Int)<(t.nodes.length:Int):=by omega
     have hk0:(0:Int)≤(k:Int):=by omega
     obtain ⟨b6,o6,rfl,hb6,hc6⟩:=HL6.1 (by have:=HWL.1;omega)
     have x0:=(hbr.cell (p:=⟨b6,o6+k*2,none⟩) hb6).trans (hc6 k r hr).1
     have x1:=(hbr.cell (p:=⟨b6,o6+k*2+1,none⟩) hb6).trans (hc6 k r hr).2
     have hokr:=HOW.1 r (List.mem_of_getElem? hr)
     generalize kv k=kx at *
     generalize sv k=sx at *
     obtain ⟨ka,kn,kc⟩:=kx
     obtain ⟨A9,cap9,e9,k1,k2,k3⟩:=hkv
     simp only [Value.slice.injEq] at e9
     obtain ⟨rfl,rfl,rfl⟩:=e9
     have HK3:=hide k3
     have HND:=hide hnd
     have HR:=hide hr
     have HOK:=hide hokr
     have HC6:=hide hc6
     have HB6:=hide hb6
     obtain ⟨⟨a0,a1,a2⟩,-⟩:=cells3 (hk5.alloc (.cells #[.int .i64 r.1,.int .i64 r.2] 35))
     obtain ⟨⟨b0',b1',b2'⟩,-⟩:=cells3 ((hk5.alloc (.cells #[.int .i64 r.1,.int .i64 r.2] 35)).alloc (.cells (ndk nd (.slice sx.a sx.n sx.c) (.slice ka nd.kids.length kc)) 49))
     have g0:decide (r.1<0)=false:=decide_eq_false (by have:=hokr.lo;omega)
     have g1:decide (r.2 < -1)=false:=decide_eq_false (by have:=hokr.hi;omega)
     have hx:Below wr.heap.size wr ((wr.alloc (.cells #[.int .i64 r.1,.int .i64 r.2] 35)).alloc (.cells (ndk nd (.slice sx.a sx.n sx.c) (.slice ka nd.kids.length kc)) 49)):=((Below.refl _ wr).alloc (Nat.le_refl _) _).alloc (by simp) _
     have HX:=hide hx
     have HKW:=hide ((Blk.new wr 35 #[.int .i64 r.1,.int .i64 r.2]).alloc (.cells (ndk nd (.slice sx.a sx.n sx.c) (.slice ka nd.kids.length kc)) 49))
     obtain ⟨⟨y0,y1⟩,-⟩:=cellsW HKW.1
     have w0:=(Blk.new wr 35 #[.int .i64 r.1,.int .i64 r.2]).cell 0
     have w1':=(Blk.new wr 35 #[.int .i64 r.1,.int .i64 r.2]).cell 1
     have HK5':=hide hk5
     obtain ⟨p,hp⟩:∃ p,decide (0≤r.2)=p:=⟨_,rfl⟩
     have HPP:=hide hp
     have g3:p=true→decide (r.2<r.1)=false:=fun h=>decide_eq_false (by have:=hokr.ord (by rw [h] at hp;exact of_decide_eq_true hp);omega)
     have HKL:=hide (show ∀ (j:Nat) (y:Int),nd.kids[j]?=some y→∃ (m:Nat) (v:Wd),y=(m:Int)∧m<t.nodes.length∧WL[m]?=some v∧((nd.kind=5∨nd.kind=7)→Le v r) from fun j y hy=>by
      have hy':=List.mem_of_getElem? hy
      obtain ⟨m,rfl,hm1,hm2,-⟩:=HLK.1 k nd hnd y hy'
      obtain ⟨v,hv⟩:∃ v,WL[m]?=some v:=⟨_,List.getElem?_eq_getElem (by have:=HWL.1;omega)⟩
      exact ⟨m,v,rfl,hm2,hv,fun hc=>HKID.1 k m nd r v hnd hc hy' hr hv⟩)
     by_cases hkd:nd.kind=5∨nd.kind=7
     ·have hW:Below w5.heap.size w5 ((wr.alloc (.cells #[.int .i64 r.1,.int .i64 r.2] 35)).alloc (.cells (ndk nd (.slice sx.a sx.n sx.c) (.slice ka nd.kids.length kc)) 49)):=hbr.trans (hx.mono hbr.size)
      have HW:=hide hW
      have hW2:=HB25.1.trans (hW.mono HB25.1.size)
      have HKD:=hide (fun (j:Nat) (hj:j<nd.kids.length)=>(show ∃ qb qo y,ka=some ⟨qb,qo,none⟩∧((wr.alloc (.cells #[.int .i64 r.1,.int .i64 r.2] 35)).alloc (.cells (ndk nd (.slice sx.a sx.n sx.c) (.slice ka nd.kids.length kc)) 49)).cell? ⟨qb,qo+j,none⟩=some (.int .i64 y)∧nd.kids[j]?=some y from by
       obtain ⟨qb,qo,e,hqb,hqc⟩:=kids_at k3 (by omega)
       exact ⟨qb,qo,_,e,(hW2.cell (p:=⟨qb,qo+j,none⟩) hqb).trans (hqc j _ (List.getElem?_eq_getElem hj)),List.getElem?_eq_getElem hj⟩))
      have HWC:=hide (fun (m:Nat) (v:Wd) (hv:WL[m]?=some v)=>(⟨(hW.cell (p:=⟨b6,o6+m*2,none⟩) hb6).trans (hc6 m v hv).1,(hW.cell (p:=⟨b6,o6+m*2+1,none⟩) hb6).trans (hc6 m v hv).2⟩:_∧_))
      have hbox:=(blkAt (by simp):Blk ((wr.alloc (.cells #[.int .i64 r.1,.int .i64 r.2] 35)).alloc (.cells (ndk nd (.slice sx.a sx.n sx.c) (.slice ka nd.kids.length kc)) 49)) (wr.heap.size+1) 49 (ndk nd (.slice sx.a sx.n sx.c) (.slice ka nd.kids.length kc)))
      have HKDD:=hide hkd
      clear hW hW2 hnd hr hokr hc6 hb6 hb2r hx hp k3 HKV HK3 HX hkd HR HND
      have hk57:(nd.kind != 5)=false∨((nd.kind != 5)=true∧(nd.kind != 7)=false):=by
       have:=HKDD.1
       by_cases h:nd.kind=5
       ·exact .inl (by simp [h])
       ·exact .inr ⟨by simp [h],by simp;omega⟩
      have G3:=hide g3
      clear g3
      rcases hk57 with e5|⟨e5,e7⟩<;>cases p
      all_goals
       have hp1:=HPP.1
       have g4:=G3.1
       simp only [forall_const,reduceCtorEq,false_implies] at g4
       go_wp2_with fail
       generalize ((wr.alloc (.cells #[.int .i64 r.1,.int .i64 r.2] 35)).alloc (.cells (ndk nd (.slice sx.a sx.n sx.c) (.slice ka nd.kids.length kc)) 49))=W at *
       have HY0:=hide y0
       have HY1:=hide y1
       clear y0 y1 w0 w1' x0 x1 d0 d1 d2 d3 d4 d5 d6 d7 d8 d9 a0 a1 a2 b0' b1' b2' hbox hk5
       go_loopw [70] (fun i wr=>OKel nd.kids.length W i wr) (fun i _=>nd.kids.length-(intOf i).toNat)
       case atStart=>exact ⟨0,by go_num,Nat.zero_le _,Below.refl _ _⟩
       case round=>
        obtain ⟨j,rfl,hj,hbW⟩:=hrel
        go_hideQ
        by_cases hlj:j<nd.kids.length
        ·obtain ⟨qb,qo,y,rfl,hqc,hy⟩:=HKD.1 j hlj
         obtain ⟨m,v,rfl,hm,hv,hle⟩:=HKL.1 j y hy
         obtain ⟨hv1,hv2⟩:=hle HKDD.1
         obtain ⟨z0',z1'⟩:=HWC.1 m v hv
         have y0:=(hbW.cell (cell_lt HY0.1)).trans HY0.1
         have y1:=(hbW.cell (cell_lt HY1.1)).trans HY1.1
         have z0:=(hbW.cell (cell_lt z0')).trans z0'
         have z1:=(hbW.cell (cell_lt z1')).trans z1'
         have hqd:=(hbW.cell (cell_lt hqc)).trans hqc
         have HBX:=hide hbW
         have hji:(j:Int)<(nd.kids.length:Int):=by omega
         have hj0:(0:Int)≤(j:Int):=by omega
         have hmi:(m:Int)<(t.nodes.length:Int):=by omega
         have hm0:(0:Int)≤(m:Int):=by omega
         have i1:decide (r.1<v.1)=false:=decide_eq_false (by omega)
         have i2:0≤r.2→decide (v.2<0)=false:=fun h=>decide_eq_false (by have:=hv2 h;omega)
         have i3:0≤r.2→decide (r.2<v.2)=false:=fun h=>decide_eq_false (by have:=hv2 h;omega)
         clear hp1
         by_cases hp2:0≤r.2
         ·have hp1:decide (0≤r.2)=true:=decide_eq_true hp2
          have j2:=i2 hp2
          have j3:=i3 hp2
          clear i2 i3 hv1 hv2 hv hy hle hbW z0' z1' hqc
          go_wp2_with fail
          go_quiet (fail)
          go_wp2_with fail
          first|go_roundw|refine ⟨?rel,?measure⟩
          case rel=>exact ⟨j+1,by go_num,by omega,below_drewN HBX.1 _⟩
          case measure=>simp [intOf];omega
         ·have hp1:decide (0≤r.2)=false:=decide_eq_false hp2
          clear i2 i3 hv1 hv2 hv hy hle hbW z0' z1' hqc
          go_wp2_with fail
          go_quiet (fail)
          go_wp2_with fail
          first|go_roundw|refine ⟨?rel,?measure⟩
          case rel=>exact ⟨j+1,by go_num,by omega,below_drewN HBX.1 _⟩
          case measure=>simp [intOf];omega
        ·obtain rfl:j=nd.kids.length:=by omega
         go_wp2_with fail
         have hR:ORel t.nodes.length w5 (.int .i64 ((k:Int)+1)) _:=⟨k+1,by go_num,by omega,HW.1.trans (hbW.mono HW.1.size)⟩
         first|go_roundw|refine ⟨?rel,?measure⟩
         case rel=>exact hR
         case measure=>simp [intOf];omega
     ·have e5:(nd.kind != 5)=true:=by simp;omega
      have e7:(nd.kind != 7)=true:=by simp;omega
      clear hkd hnd hr hokr hc6 hb6 hb2r hx hp k3
      cases p with
      | true=>
       have hp1:=HPP.1
       have g4:=g3 rfl
       clear g3
       go_wp2_with fail
       have hR:ORel t.nodes.length w5 (.int .i64 ((k:Int)+1)) ((wr.alloc (.cells #[.int .i64 r.1,.int .i64 r.2] 35)).alloc (.cells (ndk nd (.slice sx.a sx.n sx.c) (.slice ka nd.kids.length kc)) 49)):=⟨k+1,by go_num,by omega,hbr.trans (HX.1.mono hbr.size)⟩
       first|go_roundw|refine ⟨?rel,?measure⟩
       case rel=>exact hR
       case measure=>simp [intOf];omega
      | false=>
       have hp1:=HPP.1
       clear g3
       go_wp2_with fail
       have hR:ORel t.nodes.length w5 (.int .i64 ((k:Int)+1)) ((wr.alloc (.cells #[.int .i64 r.1,.int .i64 r.2] 35)).alloc (.cells (ndk nd (.slice sx.a sx.n sx.c) (.slice ka nd.kids.length kc)) 49)):=⟨k+1,by go_num,by omega,hbr.trans (HX.1.mono hbr.size)⟩
       first|go_roundw|refine ⟨?rel,?measure⟩
       case rel=>exact hR
       case measure=>simp [intOf];omega
    ·obtain rfl:k=t.nodes.length:=by omega
     clear hbr hb2r hk5
     go_wp2
     go_ret
     exact ⟨rfl,HBW.1⟩
  ·have e0:=key _ 0 hne
   have HB3:=hide (hb2.alloc hb2.size (.cells #[.slice none 0 0,.int .i64 0,.slice none 0 0] 25))
   clear hne hb2 key
   go_wp2_with fail
   go_ret
   exact ⟨rfl,HB3.1⟩
end Go.Proofs.YtmlbklcmblofkaaGreatDoor.We
namespace Go.Proofs.YtmlbklcmblofkaaGreatDoor.WeLawOrdered
open Go.ChangeShapes Go.WideShapes Go.ChangeAt Go.RowKit Go.ChangeMaps Sc We
theorem lifted (os:Os) (started:os.Started) (H:Type) (enc:TypeId×Value→H) :
  ReturnsInHanded {} Tryz.checked os 5 .any (fun w args=>(Rows.wellOrderedSpec.pre enc Tryz.prog Tryz.f5 [] false w args∧laidMetH Tryz.prog list w)∧sizedMet enc Tryz.prog Tryz.f5 (OpenSpec.ofChange Rows.wellOrderedSpec) false w args)
   (Rows.wellOrderedSpec.post enc Tryz.prog Tryz.f5 false true false false):=by
 refine bothG list Gl (fun _ h hs=>gl_of h hs) started (by kernel_rfl) Tryz.func5
  (ChangeSpec.witness_shaped (enc:=enc) (C:=Tryz.checked) (os:=os) (X:=fun w _=>laidMetH Tryz.prog list w) false (World.laidAll Tryz.prog os list) #[.slice none 0 0] 8 (World.laidAll_os _ _ _)
   (World.shaped_of_ZipB (by kernel_rfl) (by kernel_rfl)) (by kernel_rfl) (by kernel_rfl) (by kernel_rfl)
   (by rw [MakeChecks.laidMetH_plain _ _ _ (by kernel_rfl)];exact laidMet_laidAll _ (by kernel_rfl) (by kernel_rfl))) ?_
 intro W base args ds gs before hval0 hW hGl
 have hval:∀ (j:Nat) t v,Tryz.f5.params[j]?=some t→args[j]?=some v→Value.okWide Tryz.prog W .any base t v:=hval0
 have hW':=hW
 obtain ⟨p,q,hA0,hV,rfl,hfz,hnd⟩:=hW
 have hA:DataW.TrodAll enc Tryz.prog W 0 (fun _=>true) true Tryz.f5.params.toList args.toList ds p:=hA0
 rw [Tryz.params5] at hA hval
 obtain ⟨v0,vs0,d0,ds0,p0,q0,hargs,rfl,rfl,h0,r0⟩:=trodAll_cons hA
 obtain ⟨rfl,rfl,rfl⟩:=trodAll_nil r0
 obtain rfl:args=#[v0]:=by cases args;simp_all
 obtain ⟨rfl,rfl⟩:=trodVars_none hV
 obtain ⟨a0,len0,cap0,rfl⟩:=okWide_slice Tryz.underlying43 (hval 0 43 v0 rfl rfl)
 have k0:=h0
 have lt0:∀ x∈p0,x.block<W.heap.size:=by obtain ⟨m,hm⟩:=k0;exact DataW.trod_lt m _ _ _ hm
 obtain ⟨z0,w0⟩:∃ zs,Laid.IsRow .u8 W a0 len0 cap0 zs:=by
  obtain ⟨fuel,hf⟩:=h0
  rcases open_ints Tryz.underlying43 Tryz.underlying5 (by kernel_rfl) hf with ⟨hcs,_⟩|⟨x,l,c,zs,hcs,_,hl,hm,hz,_,hcell,hwz⟩
  ·simp [Value.cells] at hcs
   obtain ⟨rfl,rfl,rfl⟩:=hcs
   exact ⟨[],.inl ⟨rfl,rfl,rfl,rfl⟩⟩
  ·simp [Value.cells] at hcs
   obtain ⟨rfl,rfl,rfl⟩:=hcs
   exact ⟨zs,.inr ⟨x,rfl,hl,hm,hz,hcell,hwz⟩⟩
 obtain ⟨bs0,rfl,hl0,hm0,hr0⟩:=Laid.bytes_of w0
 clear hA0 hval0
 simp only [List.append_nil,List.nil_append] at hW'
 refine (walkOrdered a0 cap0 bs0 W hGl ⟨hl0,hm0,hr0⟩).mono fun e W' ⟨he,bel⟩=>?_
 subst he
 exact ⟨_,rfl,_,_,_,[],_,[],hW',trodAll_mk1 (shut_bool Tryz.underlying4 _),(trodAll_cons_mk (Below.trod laidOut (by kernel_rfl) (of_decide_eq_true (by kernel_rfl)) k0 bel lt0) trodAll_mk0),rfl,bel.frame _,fun h=>by cases h⟩
theorem said:Rows.WellOrderedSaid:=
 OpenClaim.holds_of_wide 5 Tryz.f5 rfl rfl rfl rfl rfl rfl rfl ⟨rfl,rfl,rfl,rfl,rfl⟩ rfl rfl rfl rfl rfl (by kernel_rfl) Tryz.func5 (by kernel_rfl)
  (of_decide_eq_true (by kernel_rfl)) (by unfold Func.isWrapper;first|(rw [if_pos (by decide +kernel)];kernel_rfl)|(rw [if_neg (by decide +kernel)];exact ⟨rfl,rfl⟩))
  (fun os started H enc _=>lifted os started H enc)
theorem plain (f:FuncId) (fn:Func) (hf:Tryz.pinned.checked.prog.funcNamed "clew/clewlaw09.WellOrdered"=some f) (hfn:Tryz.pinned.checked.prog.funcs[f]?=some fn) :
  false=Tryz.pinned.checked.prog.looks []∧∀ (j:Nat) t,fn.params[j]?=some t→Tryz.pinned.checked.prog.wantsStandIn t=false:=by
 obtain rfl:f=5:=Option.some.inj ((show Tryz.prog.funcNamed "clew/clewlaw09.WellOrdered"=some 5 by kernel_rfl).symm.trans hf) |>.symm
 obtain rfl:fn=Tryz.f5:=(Option.some.inj (Tryz.func5.symm.trans hfn)).symm
 refine ⟨by kernel_rfl,fun j t ht=>?_⟩
 rw [Tryz.params5] at ht
 have hm:t∈[43]:=by simpa using Array.mem_of_getElem? ht
 have hall:([43].all fun u=>!Tryz.prog.wantsStandIn u)=true:=by kernel_rfl
 exact (show Tryz.prog.wantsStandIn t=false by simpa using List.all_eq_true.1 hall t hm)
theorem card:Rows.WellOrderedCardSaid:=
 Claim7.holds_tied_plain_at .later [] _ _ _ _ said (fun _ h=>by cases h) (by kernel_rfl) (fun _ h=>by cases h) wellOrdered_row_tie rfl ⟨rfl,rfl⟩ (by kernel_rfl) rfl plain (by kernel_rfl)
end Go.Proofs.YtmlbklcmblofkaaGreatDoor.WeLawOrdered
