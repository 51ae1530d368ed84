/-
  ParseRight: the tree of any pattern that is read may be; no node stands for bytes beyond the pattern: the given statement, its row and its card.
-/
import Derived.Test.YtmphmddmfcaldaaGreatDoorMPaK
import Derived.Test.YtmphmddmfcaldaaGreatDoorMAsC
import Derived.Test.YtmphmddmfcaldaaGreatDoorMLd5
set_option linter.unusedSimpArgs false
set_option linter.unusedVariables false
set_option maxHeartbeats 8000000
set_option maxRecDepth 100000
namespace Go.Proofs.YtmphmddmfcaldaaGreatDoor.Pa
open Go.RowKit Mem
open Sc (PV Gl)
attribute [local go_sem] build_pz build_fl build_f0
open As (Fm right_any)
theorem walkRight (A:Option Addr) (cap:Nat) (bs:List UInt8) (w:World) (hG:Gl w) (hF:Fm w) (hP:PV bs A cap w) :
  Calls Tryz.prog 3 #[.slice A bs.length cap] w fun e w'=>e=.returned (.bool true)∧Below w.heap.size w w':=by
 have CA:=hide (anchor_any w hG)
 have CP:=hide (fun W (hb:Below w.heap.size w W)=>parse_any bs A cap W (hP.below hb) (hG.below hb))
 have HF:=hide hF
 have hcap:bs.length≤9223372036854775807:=Nat.le_trans hP.room hP.top
 have HER:=hide (fun c pl (h:parseP bs=.error (c,pl))=>parse_er (bs:=bs) c pl h)
 have HRI:=hide (fun t (h:parseP bs=.ok t)=>(⟨parse_right h,parse_fit h⟩:_∧_))
 clear hG hF hP
 go_enter Tryz.func3,Tryz.ntmps3
 go_wp2_with fail
 refine CA.1.mono ?_
 rintro e w1 ⟨rfl,hB⟩
 have CP:=hide (CP.1 w1 hB)
 have HB:=hide hB
 clear hB CA
 go_wp2_with fail
 refine CP.1.mono ?_
 rintro e w2 ⟨hB2,h⟩
 have hb2:=HB.1.trans (hB2.mono HB.1.size)
 have HB2:=hide hb2
 clear hB2 CP
 cases hr:parseP bs with
 | error t=>
  obtain ⟨c,pl⟩:=t
  rw [hr] at h
  obtain ⟨hc,rfl⟩:=h
  have hpl:=HER.1 c pl hr
  have e0:((c:Int) != 0)=true:=by rw [bne_iff_ne];omega
  have HKT:=hide (Blk.new w2 27 #[.slice none 0 0,.int .i64 0,.slice none 0 0])
  have HB3:=hide (hb2.alloc hb2.size (.cells #[.slice none 0 0,.int .i64 0,.slice none 0 0] 27))
  obtain ⟨⟨a0,a1,a2⟩,-⟩:=cells3 HKT.1
  have d1:decide (0≤(pl:Int))=true:=decide_eq_true (by omega)
  have d2:decide ((pl:Int)≤(bs.length:Int))=true:=decide_eq_true (by omega)
  have d3:decide (pl≤bs.length)=true:=decide_eq_true hpl
  clear hr hc HRI HER hpl hb2
  go_wp2_with fail
  go_ret
  exact ⟨rfl,HB3.1⟩
 | ok t=>
  rw [hr] at h
  obtain ⟨v,rfl,ht⟩:=h
  obtain ⟨⟨hri,nd,l,hnl,hto⟩,hfit⟩:=HRI.1 t hr
  have hn0:0<t.nodes.length:=by rw [hnl];simp
  obtain ⟨b,off,tcap,An,cn,rfl,hlt,h1,h2,hcs⟩:=tree_open ht hn0
  have k2:w2.cell? ⟨b,off+2,none⟩=some (.int .i64 nd.to_):=by
   have:=(hcs 0 nd (by rw [hnl];rfl)).2.2.1
   rwa [Nat.zero_mul,Nat.add_zero] at this
  have hb3:Below w2.heap.size w2 (w2.alloc (.cells #[.slice (some ⟨b,off,none⟩) t.nodes.length tcap,.int .i64 t.groups,.slice An t.names.length cn] 27)):=(Below.refl _ w2).alloc (Nat.le_refl _) _
  have HKT:=hide (Blk.new w2 27 #[.slice (some ⟨b,off,none⟩) t.nodes.length tcap,.int .i64 t.groups,.slice An t.names.length cn])
  have HB3:=hide (hb2.trans (hb3.mono hb2.size))
  have CR:=hide (right_any t (.agg #[.slice (some ⟨b,off,none⟩) t.nodes.length tcap,.int .i64 t.groups,.slice An t.names.length cn]) w2.heap.size (w2.alloc (.cells #[.slice (some ⟨b,off,none⟩) t.nodes.length tcap,.int .i64 t.groups,.slice An t.names.length cn] 27)) hb3.size hfit (ht.below hb3) ((HF.1.below hb2 (Nat.le_refl _)).below hb3 (Nat.le_refl _)))
  rw [hri] at CR
  have K2:=hide ((World.cell?_alloc_lt w2 (.cells #[.slice (some ⟨b,off,none⟩) t.nodes.length tcap,.int .i64 t.groups,.slice An t.names.length cn] 27) ⟨b,off+2,none⟩ hlt).trans k2)
  have hto2:decide (nd.to_≤(bs.length:Int))=true:=decide_eq_true hto
  have HLT:=hide (show b<(w2.alloc (.cells #[.slice (some ⟨b,off,none⟩) t.nodes.length tcap,.int .i64 t.groups,.slice An t.names.length cn] 27)).heap.size by simp;omega)
  obtain ⟨⟨a0,a1,a2⟩,-⟩:=cells3 HKT.1
  clear hr HRI HER ht hcs k2 hb3 hri hnl hfit hto hlt hb2
  have hn0':(0:Int)<(t.nodes.length:Int):=by omega
  go_wp2_with fail
  refine CR.1.mono ?_
  rintro e w3 ⟨rfl,hB4⟩
  have HB4:=hide (HB3.1.trans (hB4.mono HB3.1.size))
  have k3:=(hB4.cell (p:=⟨b,off+2,none⟩) HLT.1).trans K2.1
  have hk3:=HKT.1.below hB4 HKT.1.lt
  clear a0 a1 a2
  obtain ⟨⟨a0,a1,a2⟩,-⟩:=cells3 hk3
  clear hB4 hk3 CR
  go_wp2_with fail
  go_ret
  exact ⟨rfl,HB4.1⟩
end Go.Proofs.YtmphmddmfcaldaaGreatDoor.Pa
namespace Go.Proofs.YtmphmddmfcaldaaGreatDoor.PaLawRight
open Go.ChangeShapes Go.WideShapes Go.ChangeAt Go.RowKit Go.ChangeMaps Sc Pa
theorem lifted (os:Os) (started:os.Started) (H:Type) (enc:TypeId×Value→H) :
  ReturnsInHanded {} Tryz.checked os 3 .any (fun w args=>(Rows.parseRightSpec.pre enc Tryz.prog Tryz.f3 [] false w args∧laidMetH Tryz.prog list5 w)∧sizedMet enc Tryz.prog Tryz.f3 (OpenSpec.ofChange Rows.parseRightSpec) false w args)
   (Rows.parseRightSpec.post enc Tryz.prog Tryz.f3 false true false false):=by
 refine bothG list5 (fun W=>Gl W∧As.Fm W) (fun _ h hs=>gl5 h hs) started (by kernel_rfl) Tryz.func3
  (ChangeSpec.witness_shaped (enc:=enc) (C:=Tryz.checked) (os:=os) (X:=fun w _=>laidMetH Tryz.prog list5 w) false (World.laidAll Tryz.prog os list5) #[.slice none 0 0] 8 (World.laidAll_os _ _ _)
   (World.shaped_of_ZipB (by kernel_rfl) (by kernel_rfl)) (by kernel_rfl) (by kernel_rfl) (by kernel_rfl)
   (by rw [MakeChecks.laidMetH_plain _ _ _ (by kernel_rfl)];exact laidMet_laidAll _ (by kernel_rfl) (by kernel_rfl))) ?_
 intro W base args ds gs before hval0 hW hGl
 have hval:∀ (j:Nat) t v,Tryz.f3.params[j]?=some t→args[j]?=some v→Value.okWide Tryz.prog W .any base t v:=hval0
 have hW':=hW
 obtain ⟨p,q,hA0,hV,rfl,hfz,hnd⟩:=hW
 have hA:DataW.TrodAll enc Tryz.prog W 0 (fun _=>true) true Tryz.f3.params.toList args.toList ds p:=hA0
 rw [Tryz.params3] at hA hval
 obtain ⟨v0,vs0,d0,ds0,p0,q0,hargs,rfl,rfl,h0,r0⟩:=trodAll_cons hA
 obtain ⟨rfl,rfl,rfl⟩:=trodAll_nil r0
 obtain rfl:args=#[v0]:=by cases args;simp_all
 obtain ⟨rfl,rfl⟩:=trodVars_none hV
 obtain ⟨a0,len0,cap0,rfl⟩:=okWide_slice Tryz.underlying22 (hval 0 22 v0 rfl rfl)
 have k0:=h0
 have lt0:∀ x∈p0,x.block<W.heap.size:=by obtain ⟨m,hm⟩:=k0;exact DataW.trod_lt m _ _ _ hm
 obtain ⟨z0,w0⟩:∃ zs,Laid.IsRow .u8 W a0 len0 cap0 zs:=by
  obtain ⟨fuel,hf⟩:=h0
  rcases open_ints Tryz.underlying22 Tryz.underlying5 (by kernel_rfl) hf with ⟨hcs,_⟩|⟨x,l,c,zs,hcs,_,hl,hm,hz,_,hcell,hwz⟩
  ·simp [Value.cells] at hcs
   obtain ⟨rfl,rfl,rfl⟩:=hcs
   exact ⟨[],.inl ⟨rfl,rfl,rfl,rfl⟩⟩
  ·simp [Value.cells] at hcs
   obtain ⟨rfl,rfl,rfl⟩:=hcs
   exact ⟨zs,.inr ⟨x,rfl,hl,hm,hz,hcell,hwz⟩⟩
 obtain ⟨bs0,rfl,hl0,hm0,hr0⟩:=Laid.bytes_of w0
 clear hA0 hval0
 simp only [List.append_nil,List.nil_append] at hW'
 refine (walkRight a0 cap0 bs0 W hGl.1 hGl.2 ⟨hl0,hm0,hr0⟩).mono fun e W' ⟨he,bel⟩=>?_
 subst he
 exact ⟨_,rfl,_,_,_,[],_,[],hW',trodAll_mk1 (shut_bool Tryz.underlying4 _),(trodAll_cons_mk (Below.trod laidOut (by kernel_rfl) (of_decide_eq_true (by kernel_rfl)) k0 bel lt0) trodAll_mk0),rfl,bel.frame _,fun h=>by cases h⟩
theorem said:Rows.ParseRightSaid:=
 OpenClaim.holds_of_wide 3 Tryz.f3 rfl rfl rfl rfl rfl rfl rfl ⟨rfl,rfl,rfl,rfl,rfl⟩ rfl rfl rfl rfl rfl (by kernel_rfl) Tryz.func3 (by kernel_rfl)
  (of_decide_eq_true (by kernel_rfl)) (by unfold Func.isWrapper;first|(rw [if_pos (by decide +kernel)];kernel_rfl)|(rw [if_neg (by decide +kernel)];exact ⟨rfl,rfl⟩))
  (fun os started H enc _=>lifted os started H enc)
theorem plain (f:FuncId) (fn:Func) (hf:Tryz.pinned.checked.prog.funcNamed "clew/clewlaw08.ParseRight"=some f) (hfn:Tryz.pinned.checked.prog.funcs[f]?=some fn) :
  false=Tryz.pinned.checked.prog.looks []∧∀ (j:Nat) t,fn.params[j]?=some t→Tryz.pinned.checked.prog.wantsStandIn t=false:=by
 obtain rfl:f=3:=Option.some.inj ((show Tryz.prog.funcNamed "clew/clewlaw08.ParseRight"=some 3 by kernel_rfl).symm.trans hf) |>.symm
 obtain rfl:fn=Tryz.f3:=(Option.some.inj (Tryz.func3.symm.trans hfn)).symm
 refine ⟨by kernel_rfl,fun j t ht=>?_⟩
 rw [Tryz.params3] at ht
 have hm:t∈[22]:=by simpa using Array.mem_of_getElem? ht
 have hall:([22].all fun u=>!Tryz.prog.wantsStandIn u)=true:=by kernel_rfl
 exact (show Tryz.prog.wantsStandIn t=false by simpa using List.all_eq_true.1 hall t hm)
theorem card:Rows.ParseRightCardSaid:=
 Claim7.holds_tied_plain_at .later [] _ _ _ _ said (fun _ h=>by cases h) (by kernel_rfl) (fun _ h=>by cases h) parseRight_row_tie rfl ⟨rfl,rfl⟩ (by kernel_rfl) rfl plain (by kernel_rfl)
end Go.Proofs.YtmphmddmfcaldaaGreatDoor.PaLawRight
