/-
  slices.EqualFunc at nodes and ast.Same, walked: are two trees the same, but for where their nodes stand? Condi
-/
import Derived.Test.YtmphmddmfcaldaaGreatDoorMAsE
import Derived.Deep.RegionHeld3
set_option linter.unusedSimpArgs false
set_option linter.unusedVariables false
set_option maxHeartbeats 4000000
set_option maxRecDepth 100000
namespace Go.Proofs.YtmphmddmfcaldaaGreatDoor.As
section
open Go.RowKit Mem Rs
attribute [local go_sem] eqIn_five guard_five
structure SMid (a b:Nd) (Sa Sb Ka Kb:Option Addr) (csa csb cka ckb:Nat) (w:World) (wx:World):Prop where
 boxA:Blk wx w.heap.size 34 #[.int .i64 a.kind,.int .i64 a.from_,.int .i64 a.to_,.int .i64 a.num,.int .i64 a.mn,.int .i64 a.mx,.int .i64 a.mode,str a.name,.slice Sa a.set.length csa,.slice Ka a.kids.length cka]
 boxB:Blk wx (w.heap.size+1) 34 #[.int .i64 b.kind,.int .i64 b.from_,.int .i64 b.to_,.int .i64 b.num,.int .i64 b.mn,.int .i64 b.mx,.int .i64 b.mode,str b.name,.slice Sb b.set.length csb,.slice Kb b.kids.length ckb]
 lsA:Lst wx w.heap.size Sa a.set
 lsB:Lst wx w.heap.size Sb b.set
 kA:Reads wx w.heap.size 1 Ka a.kids.length (a.kids.map Mem.i64)
 kB:Reads wx w.heap.size 1 Kb b.kids.length (b.kids.map Mem.i64)
 bel:Below w.heap.size w wx
 siz:w.heap.size+1<wx.heap.size
theorem SMid.below {a b:Nd} {Sa Sb Ka Kb:Option Addr} {csa csb cka ckb:Nat} {w:World} {wx wy:World} (h:SMid a b Sa Sb Ka Kb csa csb cka ckb w wx) (hb:Below wx.heap.size wx wy):SMid a b Sa Sb Ka Kb csa csb cka ckb w wy:=
 ⟨h.boxA.below hb (by have:=h.siz;omega),h.boxB.below hb h.siz,h.lsA.keep fun p hp=>hb.cell (by have:=h.siz;omega),h.lsB.keep fun p hp=>hb.cell (by have:=h.siz;omega),h.kA.keep fun p hp=>hb.cell (by have:=h.siz;omega),h.kB.keep fun p hp=>hb.cell (by have:=h.siz;omega),h.bel.trans (hb.mono h.bel.size),Nat.lt_of_lt_of_le h.siz hb.size⟩
theorem SMid.new (a b:Nd) (Sa Sb Ka Kb:Option Addr) (csa csb cka ckb:Nat) (w:World) (hsa:Lst w w.heap.size Sa a.set) (hsb:Lst w w.heap.size Sb b.set) (hka:Reads w w.heap.size 1 Ka a.kids.length (a.kids.map Mem.i64)) (hkb:Reads w w.heap.size 1 Kb b.kids.length (b.kids.map Mem.i64)):SMid a b Sa Sb Ka Kb csa csb cka ckb w ((w.alloc (.cells #[.int .i64 a.kind,.int .i64 a.from_,.int .i64 a.to_,.int .i64 a.num,.int .i64 a.mn,.int .i64 a.mx,.int .i64 a.mode,str a.name,.slice Sa a.set.length csa,.slice Ka a.kids.length cka] 34)).alloc (.cells #[.int .i64 b.kind,.int .i64 b.from_,.int .i64 b.to_,.int .i64 b.num,.int .i64 b.mn,.int .i64 b.mx,.int .i64 b.mode,str b.name,.slice Sb b.set.length csb,.slice Kb b.kids.length ckb] 34)):=by
 have hW:Below w.heap.size w ((w.alloc (.cells #[.int .i64 a.kind,.int .i64 a.from_,.int .i64 a.to_,.int .i64 a.num,.int .i64 a.mn,.int .i64 a.mx,.int .i64 a.mode,str a.name,.slice Sa a.set.length csa,.slice Ka a.kids.length cka] 34)).alloc (.cells #[.int .i64 b.kind,.int .i64 b.from_,.int .i64 b.to_,.int .i64 b.num,.int .i64 b.mn,.int .i64 b.mx,.int .i64 b.mode,str b.name,.slice Sb b.set.length csb,.slice Kb b.kids.length ckb] 34)):=((Below.refl _ _).alloc (Nat.le_refl _) _).alloc (by simp) _
 have bB:=Blk.new (w.alloc (.cells #[.int .i64 a.kind,.int .i64 a.from_,.int .i64 a.to_,.int .i64 a.num,.int .i64 a.mn,.int .i64 a.mx,.int .i64 a.mode,str a.name,.slice Sa a.set.length csa,.slice Ka a.kids.length cka] 34)) 34 #[.int .i64 b.kind,.int .i64 b.from_,.int .i64 b.to_,.int .i64 b.num,.int .i64 b.mn,.int .i64 b.mx,.int .i64 b.mode,str b.name,.slice Sb b.set.length csb,.slice Kb b.kids.length ckb]
 rw [World.size_alloc] at bB
 exact ⟨(Blk.new w 34 _).alloc _,bB,hsa.below hW,hsb.below hW,hka.below hW,hkb.below hW,hW,by simp⟩
theorem same_kind (a b:Nd) (Sa Sb Ka Kb:Option Addr) (csa csb cka ckb:Nat) (w:World)
  (hs1:a.set.length≤csa) (hs2:csa≤9223372036854775807) (hs3:b.set.length≤csb) (hs4:csb≤9223372036854775807) (hk1:a.kids.length≤cka) (hk2:cka≤9223372036854775807) (hk3:b.kids.length≤ckb) (hk4:ckb≤9223372036854775807) (hsa:Lst w w.heap.size Sa a.set) (hsb:Lst w w.heap.size Sb b.set) (hka:Reads w w.heap.size 1 Ka a.kids.length (a.kids.map Mem.i64)) (hkb:Reads w w.heap.size 1 Kb b.kids.length (b.kids.map Mem.i64))
  (h1:¬ a.kind=b.kind):Calls Tryz.prog 25 #[.agg #[.int .i64 a.kind,.int .i64 a.from_,.int .i64 a.to_,.int .i64 a.num,.int .i64 a.mn,.int .i64 a.mx,.int .i64 a.mode,str a.name,.slice Sa a.set.length csa,.slice Ka a.kids.length cka],.agg #[.int .i64 b.kind,.int .i64 b.from_,.int .i64 b.to_,.int .i64 b.num,.int .i64 b.mn,.int .i64 b.mx,.int .i64 b.mode,str b.name,.slice Sb b.set.length csb,.slice Kb b.kids.length ckb]] w fun e w'=>e=.returned (.bool (alikeN a b))∧Below w.heap.size w w':=by
 have HR:=hide (show alikeN a b=false by unfold alikeN;rw [decide_eq_false_iff_not];rintro ⟨p1,-⟩;exact h1 p1)
 have e0:(a.kind==b.kind)=false:=by simp [h1]
 clear h1
 have HM:=hide (SMid.new a b Sa Sb Ka Kb csa csb cka ckb w hsa hsb hka hkb)
 have HBW:=hide HM.1.bel
 have bA:=HM.1.boxA
 have bB:=HM.1.boxB
 have a0:=bA.cell 0
 have b0:=bB.cell 0
 have a7:=bA.cell 7
 have b7:=bB.cell 7
 clear bA bB hsa hsb hka hkb
 go_enter Tryz.func25,Tryz.ntmps25
 go_wp2_with fail
 go_quiet (fail)
 go_wp2_with fail
 go_ret
 exact ⟨by rw [HR.1];rfl,below_drewN HBW.1 _⟩
theorem same_name (a b:Nd) (Sa Sb Ka Kb:Option Addr) (csa csb cka ckb:Nat) (w:World)
  (hs1:a.set.length≤csa) (hs2:csa≤9223372036854775807) (hs3:b.set.length≤csb) (hs4:csb≤9223372036854775807) (hk1:a.kids.length≤cka) (hk2:cka≤9223372036854775807) (hk3:b.kids.length≤ckb) (hk4:ckb≤9223372036854775807) (hsa:Lst w w.heap.size Sa a.set) (hsb:Lst w w.heap.size Sb b.set) (hka:Reads w w.heap.size 1 Ka a.kids.length (a.kids.map Mem.i64)) (hkb:Reads w w.heap.size 1 Kb b.kids.length (b.kids.map Mem.i64))
  (h1:a.kind=b.kind) (h2:¬ a.name=b.name):Calls Tryz.prog 25 #[.agg #[.int .i64 a.kind,.int .i64 a.from_,.int .i64 a.to_,.int .i64 a.num,.int .i64 a.mn,.int .i64 a.mx,.int .i64 a.mode,str a.name,.slice Sa a.set.length csa,.slice Ka a.kids.length cka],.agg #[.int .i64 b.kind,.int .i64 b.from_,.int .i64 b.to_,.int .i64 b.num,.int .i64 b.mn,.int .i64 b.mx,.int .i64 b.mode,str b.name,.slice Sb b.set.length csb,.slice Kb b.kids.length ckb]] w fun e w'=>e=.returned (.bool (alikeN a b))∧Below w.heap.size w w':=by
 have HR:=hide (show alikeN a b=false by unfold alikeN;rw [decide_eq_false_iff_not];rintro ⟨-,-,-,-,-,p,-⟩;exact h2 p)
 have e0:(a.kind==b.kind)=true:=by simp [h1]
 have e1:(a.name==b.name)=false:=by simp [h2]
 clear h1 h2
 have HM:=hide (SMid.new a b Sa Sb Ka Kb csa csb cka ckb w hsa hsb hka hkb)
 have HBW:=hide HM.1.bel
 have bA:=HM.1.boxA
 have bB:=HM.1.boxB
 have a0:=bA.cell 0
 have b0:=bB.cell 0
 have a7:=bA.cell 7
 have b7:=bB.cell 7
 clear bA bB hsa hsb hka hkb
 go_enter Tryz.func25,Tryz.ntmps25
 go_wp2_with fail
 go_quiet (fail)
 go_wp2_with fail
 go_ret
 exact ⟨by rw [HR.1];rfl,below_drewN HBW.1 _⟩
theorem same_nums (a b:Nd) (Sa Sb Ka Kb:Option Addr) (csa csb cka ckb:Nat) (w:World)
  (hs1:a.set.length≤csa) (hs2:csa≤9223372036854775807) (hs3:b.set.length≤csb) (hs4:csb≤9223372036854775807) (hk1:a.kids.length≤cka) (hk2:cka≤9223372036854775807) (hk3:b.kids.length≤ckb) (hk4:ckb≤9223372036854775807) (hsa:Lst w w.heap.size Sa a.set) (hsb:Lst w w.heap.size Sb b.set) (hka:Reads w w.heap.size 1 Ka a.kids.length (a.kids.map Mem.i64)) (hkb:Reads w w.heap.size 1 Kb b.kids.length (b.kids.map Mem.i64))
  (h1:a.kind=b.kind) (h2:a.name=b.name) (h3:¬ (a.num=b.num∧a.mn=b.mn∧a.mx=b.mx∧a.mode=b.mode∧(a.kids.length:Int)=(b.kids.length:Int))):Calls Tryz.prog 25 #[.agg #[.int .i64 a.kind,.int .i64 a.from_,.int .i64 a.to_,.int .i64 a.num,.int .i64 a.mn,.int .i64 a.mx,.int .i64 a.mode,str a.name,.slice Sa a.set.length csa,.slice Ka a.kids.length cka],.agg #[.int .i64 b.kind,.int .i64 b.from_,.int .i64 b.to_,.int .i64 b.num,.int .i64 b.mn,.int .i64 b.mx,.int .i64 b.mode,str b.name,.slice Sb b.set.length csb,.slice Kb b.kids.length ckb]] w fun e w'=>e=.returned (.bool (alikeN a b))∧Below w.heap.size w w':=by
 have HR:=hide (show alikeN a b=false by unfold alikeN;rw [decide_eq_false_iff_not];rintro ⟨-,p2,p3,p4,p5,-,-,p8⟩;exact h3 ⟨p2,p3,p4,p5,by rw [p8]⟩)
 have e0:(a.kind==b.kind)=true:=by simp [h1]
 have e1:(a.name==b.name)=true:=by simp [h2]
 have e2:decide (a.num=b.num∧a.mn=b.mn∧a.mx=b.mx∧a.mode=b.mode∧(a.kids.length:Int)=(b.kids.length:Int))=false:=decide_eq_false h3
 clear h1 h2 h3
 have HM:=hide (SMid.new a b Sa Sb Ka Kb csa csb cka ckb w hsa hsb hka hkb)
 have HBW:=hide HM.1.bel
 have bA:=HM.1.boxA
 have bB:=HM.1.boxB
 have a0:=bA.cell 0
 have b0:=bB.cell 0
 have a7:=bA.cell 7
 have b7:=bB.cell 7
 clear bA bB hsa hsb hka hkb
 go_enter Tryz.func25,Tryz.ntmps25
 go_wp2_with fail
 refine wp_region_noPanic ?_
 refine wp_region_held_drew (S:=(fun wx=>Hd (SMid a b Sa Sb Ka Kb csa csb cka ckb w wx))) (by kernel_rfl) (show Hd (SMid a b Sa Sb Ka Kb csa csb cka ckb w _) from hide (HM.1.below (Below.refl _ _).drew)) (fun hS=>?_)
 refine tkH 0 (some 5) ?v0x1 rfl ?y0x1 hS ?r0x1
 case y0x1=>(intro w hSw;(try dsimp only at hSw);go_simp;try with_reducible rfl)
 try simp only [aP]
 refine tkH 1 (some 6) ?v1x2 rfl ?y1x2 hS ?r1x2
 case y1x2=>(intro w hSw;(try dsimp only at hSw);have h0:=hSw.1.boxA.cell 0;go_simp;try with_reducible rfl)
 try simp only [aP]
 refine tkH 2 (some 7) ?v2x3 rfl ?y2x3 hS ?r2x3
 case y2x3=>(intro w hSw;(try dsimp only at hSw);go_simp;try with_reducible rfl)
 try simp only [aP]
 refine tkH 3 (some 8) ?v3x4 rfl ?y3x4 hS ?r3x4
 case y3x4=>(intro w hSw;(try dsimp only at hSw);have h0:=hSw.1.boxB.cell 0;go_simp;try with_reducible rfl)
 try simp only [aP]
 refine tkH 4 (some 9) ?v4x5 rfl ?y4x5 hS ?r4x5
 case y4x5=>(intro w hSw;(try dsimp only at hSw);go_simp;try with_reducible rfl)
 try simp only [aP]
 refine tkH 5 (some 10) ?v5x6 rfl ?y5x6 hS ?r5x6
 case y5x6=>(intro w hSw;(try dsimp only at hSw);go_simp;try with_reducible rfl)
 try simp only [aP]
 refine tkH 6 (some 11) ?v6x7 rfl ?y6x7 hS ?r6x7
 case y6x7=>(intro w hSw;(try dsimp only at hSw);go_simp;try with_reducible rfl)
 try simp only [aP]
 refine tkH 7 (some 12) ?v7x8 rfl ?y7x8 hS ?r7x8
 case y7x8=>(intro w hSw;(try dsimp only at hSw);have h7:=hSw.1.boxA.cell 7;go_simp;try with_reducible rfl)
 try simp only [aP]
 refine tkH 8 (some 13) ?v8x9 rfl ?y8x9 hS ?r8x9
 case y8x9=>(intro w hSw;(try dsimp only at hSw);go_simp;try with_reducible rfl)
 try simp only [aP]
 refine tkH 9 (some 14) ?v9x10 rfl ?y9x10 hS ?r9x10
 case y9x10=>(intro w hSw;(try dsimp only at hSw);have h7:=hSw.1.boxB.cell 7;go_simp;try with_reducible rfl)
 try simp only [aP]
 refine tkH 10 (some 15) ?v10x11 rfl ?y10x11 hS ?r10x11
 case y10x11=>(intro w hSw;(try dsimp only at hSw);go_simp;try with_reducible rfl)
 try simp only [aP]
 refine tkH 11 (some 16) ?v11x12 rfl ?y11x12 hS ?r11x12
 case y11x12=>(intro w hSw;(try dsimp only at hSw);go_simp;try with_reducible rfl)
 try simp only [aP]
 refine tkH 12 (some 17) ?v12x13 rfl ?y12x13 hS ?r12x13
 case y12x13=>(intro w hSw;(try dsimp only at hSw);go_simp;try with_reducible rfl)
 try simp only [aP]
 refine tkH 13 (some 18) ?v13x14 rfl ?y13x14 hS ?r13x14
 case y13x14=>(intro w hSw;(try dsimp only at hSw);have h0:=hSw.1.boxA.cell 0;have h1:=hSw.1.boxA.cell 1;have h2:=hSw.1.boxA.cell 2;have h3:=hSw.1.boxA.cell 3;have h4:=hSw.1.boxA.cell 4;have h5:=hSw.1.boxA.cell 5;have h6:=hSw.1.boxA.cell 6;have h7:=hSw.1.boxA.cell 7;have h8:=hSw.1.boxA.cell 8;have h9:=hSw.1.boxA.cell 9;go_simp;try with_reducible rfl)
 try simp only [aP]
 refine tkH 15 (some 20) ?v15x15 rfl ?y15x15 hS ?r15x15
 case y15x15=>(intro w hSw;(try dsimp only at hSw);have h0:=hSw.1.boxB.cell 0;have h1:=hSw.1.boxB.cell 1;have h2:=hSw.1.boxB.cell 2;have h3:=hSw.1.boxB.cell 3;have h4:=hSw.1.boxB.cell 4;have h5:=hSw.1.boxB.cell 5;have h6:=hSw.1.boxB.cell 6;have h7:=hSw.1.boxB.cell 7;have h8:=hSw.1.boxB.cell 8;have h9:=hSw.1.boxB.cell 9;go_simp;try with_reducible rfl)
 try simp only [aP]
 refine wpAnyH_ready (rs:=[14]) (by kernel_rfl) (by simp) ?_
 refine AllReadyH.cons (o:=⟨some 19,_,_,_,_,_⟩) rfl (fun K hK=>?_) AllReadyH.nil
 go_simp
 refine (nums_any a _ Ka _ cka _).mono ?_
 rintro e wqhA ⟨rfl,hb⟩
 have HhA:=hide (hS.1.below hb)
 clear hb
 go_wp2_with fail
 refine hK.out _ _ HhA (fun hA=>?_)
 clear hK K
 try simp only [aP]
 refine wpAnyH_ready (rs:=[16]) (by kernel_rfl) (by simp) ?_
 refine AllReadyH.cons (o:=⟨some 21,_,_,_,_,_⟩) rfl (fun K hK=>?_) AllReadyH.nil
 go_simp
 refine (nums_any b _ Kb _ ckb _).mono ?_
 rintro e wqhB ⟨rfl,hb⟩
 have HhB:=hide (hA.1.below hb)
 clear hb
 go_wp2_with fail
 refine hK.out _ _ HhB (fun hB=>?_)
 clear hK K
 try simp only [aP]
 refine tkH 17 (some 22) ?v17x16 rfl ?y17x16 hB ?r17x16
 case y17x16=>(intro w hSw;(try dsimp only at hSw);go_simp;try with_reducible rfl)
 try simp only [aP]
 refine tkH 18 (some 23) ?v18x17 rfl ?y18x17 hB ?r18x17
 case y18x17=>(intro w hSw;(try dsimp only at hSw);go_simp;try with_reducible rfl)
 try simp only [aP]
 refine tkH 19 (some 24) ?v19x18 rfl ?y19x18 hB ?r19x18
 case y19x18=>(intro w hSw;(try dsimp only at hSw);go_simp;try with_reducible rfl)
 try simp only [aP]
 refine wpAnyH_take (i:=20) (oi:=⟨some 25,_,_,_,_,_⟩) (v:=undef) rfl (by kernel_rfl) (by kernel_rfl) (by kernel_rfl) (fun _ _ _ h=>h) (Or.inr ⟨by rfl,rfl⟩) hB ?r20x19
 case' r20x19=>skip
 try simp only [aP]
 refine wpAnyH_take (i:=21) (oi:=⟨some 26,_,_,_,_,_⟩) (v:=undef) rfl (by kernel_rfl) (by kernel_rfl) (by kernel_rfl) (fun _ _ _ h=>h) (Or.inr ⟨by rfl,rfl⟩) hB ?r21x20
 case' r21x20=>skip
 try simp only [aP]
 refine wpAnyH_take (i:=22) (oi:=⟨some 27,_,_,_,_,_⟩) (v:=undef) rfl (by kernel_rfl) (by kernel_rfl) (by kernel_rfl) (fun _ _ _ h=>h) (Or.inr ⟨by rfl,rfl⟩) hB ?r22x21
 case' r22x21=>skip
 try simp only [aP]
 refine wpAnyH_take (i:=23) (oi:=⟨some 28,_,_,_,_,_⟩) (v:=undef) rfl (by kernel_rfl) (by kernel_rfl) (by kernel_rfl) (fun _ _ _ h=>h) (Or.inr ⟨by rfl,rfl⟩) hB ?r23x22
 case' r23x22=>skip
 try simp only [aP]
 refine wpAnyH_take (i:=24) (oi:=⟨some 29,_,_,_,_,_⟩) (v:=undef) rfl (by kernel_rfl) (by kernel_rfl) (by kernel_rfl) (fun _ _ _ h=>h) (Or.inr ⟨by rfl,rfl⟩) hB ?r24x23
 case' r24x23=>skip
 try simp only [aP]
 refine tkH 25 (some 30) ?v25x24 rfl ?y25x24 hB ?r25x24
 case y25x24=>(intro w hSw;(try dsimp only at hSw);go_simp;try with_reducible rfl)
 try simp only [aP]
 refine tkH 26 (some 31) ?v26x25 rfl ?y26x25 hB ?r26x25
 case y26x25=>(intro w hSw;(try dsimp only at hSw);go_simp;try with_reducible rfl)
 try simp only [aP]
 refine wpAnyH_take (i:=27) (oi:=⟨some 32,_,_,_,_,_⟩) (v:=undef) rfl (by kernel_rfl) (by kernel_rfl) (by kernel_rfl) (fun _ _ _ h=>h) (Or.inr ⟨by rfl,rfl⟩) hB ?r27x26
 case' r27x26=>skip
 try simp only [aP]
 refine wpAnyH_take (i:=28) (oi:=⟨some 33,_,_,_,_,_⟩) (v:=undef) rfl (by kernel_rfl) (by kernel_rfl) (by kernel_rfl) (fun _ _ _ h=>h) (Or.inr ⟨by rfl,rfl⟩) hB ?r28x27
 case' r28x27=>skip
 try simp only [aP]
 refine wpAnyH_take (i:=29) (oi:=⟨some 34,_,_,_,_,_⟩) (v:=undef) rfl (by kernel_rfl) (by kernel_rfl) (by kernel_rfl) (fun _ _ _ h=>h) (Or.inr ⟨by rfl,rfl⟩) hB ?r29x28
 case' r29x28=>skip
 try simp only [aP]
 refine wpAnyH_take (i:=30) (oi:=⟨some 35,_,_,_,_,_⟩) (v:=undef) rfl (by kernel_rfl) (by kernel_rfl) (by kernel_rfl) (fun _ _ _ h=>h) (Or.inr ⟨by rfl,rfl⟩) hB ?r30x29
 case' r30x29=>skip
 try simp only [aP]
 refine wpAnyH_take (i:=31) (oi:=⟨some 36,_,_,_,_,_⟩) (v:=undef) rfl (by kernel_rfl) (by kernel_rfl) (by kernel_rfl) (fun _ _ _ h=>h) (Or.inr ⟨by rfl,rfl⟩) hB ?r31x30
 case' r31x30=>skip
 try simp only [aP]
 refine tkH 32 (some 37) ?v32x31 rfl ?y32x31 hB ?r32x31
 case y32x31=>(intro w hSw;(try dsimp only at hSw);go_simp;try with_reducible rfl)
 try simp only [aP]
 refine tkH 33 (some 4) ?v33x32 rfl ?y33x32 hB ?r33x32
 case y33x32=>(intro w hSw;(try dsimp only at hSw);go_simp;try with_reducible rfl)
 try simp only [aP]
 refine wpAnyH_done (by kernel_rfl) ?_ _
 refine NoPanic.normal ?_
 have HBS:=hide hB.1.bel
 go_wp2_with fail
 go_ret
 exact ⟨by rw [HR.1];rfl,HBS.1⟩
theorem same_rest (a b:Nd) (Sa Sb Ka Kb:Option Addr) (csa csb cka ckb:Nat) (w:World)
  (hs1:a.set.length≤csa) (hs2:csa≤9223372036854775807) (hs3:b.set.length≤csb) (hs4:csb≤9223372036854775807) (hk1:a.kids.length≤cka) (hk2:cka≤9223372036854775807) (hk3:b.kids.length≤ckb) (hk4:ckb≤9223372036854775807) (hsa:Lst w w.heap.size Sa a.set) (hsb:Lst w w.heap.size Sb b.set) (hka:Reads w w.heap.size 1 Ka a.kids.length (a.kids.map Mem.i64)) (hkb:Reads w w.heap.size 1 Kb b.kids.length (b.kids.map Mem.i64))
  (h1:a.kind=b.kind) (h2:a.name=b.name) (h3:(a.num=b.num∧a.mn=b.mn∧a.mx=b.mx∧a.mode=b.mode∧(a.kids.length:Int)=(b.kids.length:Int))):Calls Tryz.prog 25 #[.agg #[.int .i64 a.kind,.int .i64 a.from_,.int .i64 a.to_,.int .i64 a.num,.int .i64 a.mn,.int .i64 a.mx,.int .i64 a.mode,str a.name,.slice Sa a.set.length csa,.slice Ka a.kids.length cka],.agg #[.int .i64 b.kind,.int .i64 b.from_,.int .i64 b.to_,.int .i64 b.num,.int .i64 b.mn,.int .i64 b.mx,.int .i64 b.mode,str b.name,.slice Sb b.set.length csb,.slice Kb b.kids.length ckb]] w fun e w'=>e=.returned (.bool (alikeN a b))∧Below w.heap.size w w':=by
 obtain ⟨qR,hqR⟩:∃ q,decide (a.set=b.set)=q:=⟨_,rfl⟩
 obtain ⟨qI,hqI⟩:∃ q,decide (a.kids=b.kids)=q:=⟨_,rfl⟩
 have HR:=hide (show alikeN a b=(qR&&qI) by unfold alikeN;rw [← hqR,← hqI,Bool.eq_iff_iff];simp [h1,h2,h3.1,h3.2.1,h3.2.2.1,h3.2.2.2.1])
 have HQR:=hide hqR
 have HQI:=hide hqI
 have e0:(a.kind==b.kind)=true:=by simp [h1]
 have e1:(a.name==b.name)=true:=by simp [h2]
 have e2:decide (a.num=b.num∧a.mn=b.mn∧a.mx=b.mx∧a.mode=b.mode∧(a.kids.length:Int)=(b.kids.length:Int))=true:=decide_eq_true h3
 clear h1 h2 h3 hqR hqI
 cases qR with
 | true=>
  have HM:=hide (SMid.new a b Sa Sb Ka Kb csa csb cka ckb w hsa hsb hka hkb)
  have HBW:=hide HM.1.bel
  have bA:=HM.1.boxA
  have bB:=HM.1.boxB
  have a0:=bA.cell 0
  have b0:=bB.cell 0
  have a7:=bA.cell 7
  have b7:=bB.cell 7
  clear bA bB hsa hsb hka hkb
  go_enter Tryz.func25,Tryz.ntmps25
  go_wp2_with fail
  refine wp_region_noPanic ?_
  refine wp_region_held_drew (S:=(fun wx=>Hd (SMid a b Sa Sb Ka Kb csa csb cka ckb w wx))) (by kernel_rfl) (show Hd (SMid a b Sa Sb Ka Kb csa csb cka ckb w _) from hide (HM.1.below (Below.refl _ _).drew)) (fun hS=>?_)
  refine tkH 0 (some 5) ?v0x33 rfl ?y0x33 hS ?r0x33
  case y0x33=>(intro w hSw;(try dsimp only at hSw);go_simp;try with_reducible rfl)
  try simp only [aP]
  refine tkH 1 (some 6) ?v1x34 rfl ?y1x34 hS ?r1x34
  case y1x34=>(intro w hSw;(try dsimp only at hSw);have h0:=hSw.1.boxA.cell 0;go_simp;try with_reducible rfl)
  try simp only [aP]
  refine tkH 2 (some 7) ?v2x35 rfl ?y2x35 hS ?r2x35
  case y2x35=>(intro w hSw;(try dsimp only at hSw);go_simp;try with_reducible rfl)
  try simp only [aP]
  refine tkH 3 (some 8) ?v3x36 rfl ?y3x36 hS ?r3x36
  case y3x36=>(intro w hSw;(try dsimp only at hSw);have h0:=hSw.1.boxB.cell 0;go_simp;try with_reducible rfl)
  try simp only [aP]
  refine tkH 4 (some 9) ?v4x37 rfl ?y4x37 hS ?r4x37
  case y4x37=>(intro w hSw;(try dsimp only at hSw);go_simp;try with_reducible rfl)
  try simp only [aP]
  refine tkH 5 (some 10) ?v5x38 rfl ?y5x38 hS ?r5x38
  case y5x38=>(intro w hSw;(try dsimp only at hSw);go_simp;try with_reducible rfl)
  try simp only [aP]
  refine tkH 6 (some 11) ?v6x39 rfl ?y6x39 hS ?r6x39
  case y6x39=>(intro w hSw;(try dsimp only at hSw);go_simp;try with_reducible rfl)
  try simp only [aP]
  refine tkH 7 (some 12) ?v7x40 rfl ?y7x40 hS ?r7x40
  case y7x40=>(intro w hSw;(try dsimp only at hSw);have h7:=hSw.1.boxA.cell 7;go_simp;try with_reducible rfl)
  try simp only [aP]
  refine tkH 8 (some 13) ?v8x41 rfl ?y8x41 hS ?r8x41
  case y8x41=>(intro w hSw;(try dsimp only at hSw);go_simp;try with_reducible rfl)
  try simp only [aP]
  refine tkH 9 (some 14) ?v9x42 rfl ?y9x42 hS ?r9x42
  case y9x42=>(intro w hSw;(try dsimp only at hSw);have h7:=hSw.1.boxB.cell 7;go_simp;try with_reducible rfl)
  try simp only [aP]
  refine tkH 10 (some 15) ?v10x43 rfl ?y10x43 hS ?r10x43
  case y10x43=>(intro w hSw;(try dsimp only at hSw);go_simp;try with_reducible rfl)
  try simp only [aP]
  refine tkH 11 (some 16) ?v11x44 rfl ?y11x44 hS ?r11x44
  case y11x44=>(intro w hSw;(try dsimp only at hSw);go_simp;try with_reducible rfl)
  try simp only [aP]
  refine tkH 12 (some 17) ?v12x45 rfl ?y12x45 hS ?r12x45
  case y12x45=>(intro w hSw;(try dsimp only at hSw);go_simp;try with_reducible rfl)
  try simp only [aP]
  refine tkH 13 (some 18) ?v13x46 rfl ?y13x46 hS ?r13x46
  case y13x46=>(intro w hSw;(try dsimp only at hSw);have h0:=hSw.1.boxA.cell 0;have h1:=hSw.1.boxA.cell 1;have h2:=hSw.1.boxA.cell 2;have h3:=hSw.1.boxA.cell 3;have h4:=hSw.1.boxA.cell 4;have h5:=hSw.1.boxA.cell 5;have h6:=hSw.1.boxA.cell 6;have h7:=hSw.1.boxA.cell 7;have h8:=hSw.1.boxA.cell 8;have h9:=hSw.1.boxA.cell 9;go_simp;try with_reducible rfl)
  try simp only [aP]
  refine tkH 15 (some 20) ?v15x47 rfl ?y15x47 hS ?r15x47
  case y15x47=>(intro w hSw;(try dsimp only at hSw);have h0:=hSw.1.boxB.cell 0;have h1:=hSw.1.boxB.cell 1;have h2:=hSw.1.boxB.cell 2;have h3:=hSw.1.boxB.cell 3;have h4:=hSw.1.boxB.cell 4;have h5:=hSw.1.boxB.cell 5;have h6:=hSw.1.boxB.cell 6;have h7:=hSw.1.boxB.cell 7;have h8:=hSw.1.boxB.cell 8;have h9:=hSw.1.boxB.cell 9;go_simp;try with_reducible rfl)
  try simp only [aP]
  refine wpAnyH_ready (rs:=[14]) (by kernel_rfl) (by simp) ?_
  refine AllReadyH.cons (o:=⟨some 19,_,_,_,_,_⟩) rfl (fun K hK=>?_) AllReadyH.nil
  go_simp
  refine (nums_any a _ Ka _ cka _).mono ?_
  rintro e wqhA ⟨rfl,hb⟩
  have HhA:=hide (hS.1.below hb)
  clear hb
  go_wp2_with fail
  refine hK.out _ _ HhA (fun hA=>?_)
  clear hK K
  try simp only [aP]
  refine wpAnyH_ready (rs:=[16]) (by kernel_rfl) (by simp) ?_
  refine AllReadyH.cons (o:=⟨some 21,_,_,_,_,_⟩) rfl (fun K hK=>?_) AllReadyH.nil
  go_simp
  refine (nums_any b _ Kb _ ckb _).mono ?_
  rintro e wqhB ⟨rfl,hb⟩
  have HhB:=hide (hA.1.below hb)
  clear hb
  go_wp2_with fail
  refine hK.out _ _ HhB (fun hB=>?_)
  clear hK K
  try simp only [aP]
  refine tkH 17 (some 22) ?v17x48 rfl ?y17x48 hB ?r17x48
  case y17x48=>(intro w hSw;(try dsimp only at hSw);go_simp;try with_reducible rfl)
  try simp only [aP]
  refine tkH 18 (some 23) ?v18x49 rfl ?y18x49 hB ?r18x49
  case y18x49=>(intro w hSw;(try dsimp only at hSw);go_simp;try with_reducible rfl)
  try simp only [aP]
  refine tkH 19 (some 24) ?v19x50 rfl ?y19x50 hB ?r19x50
  case y19x50=>(intro w hSw;(try dsimp only at hSw);go_simp;try with_reducible rfl)
  try simp only [aP]
  refine tkH 20 (some 25) ?v20x51 rfl ?y20x51 hB ?r20x51
  case y20x51=>(intro w hSw;(try dsimp only at hSw);go_simp;try with_reducible rfl)
  try simp only [aP]
  refine tkH 21 (some 26) ?v21x52 rfl ?y21x52 hB ?r21x52
  case y21x52=>(intro w hSw;(try dsimp only at hSw);have h8:=hSw.1.boxA.cell 8;go_simp;try with_reducible rfl)
  try simp only [aP]
  refine tkH 22 (some 27) ?v22x53 rfl ?y22x53 hB ?r22x53
  case y22x53=>(intro w hSw;(try dsimp only at hSw);go_simp;try with_reducible rfl)
  try simp only [aP]
  refine tkH 23 (some 28) ?v23x54 rfl ?y23x54 hB ?r23x54
  case y23x54=>(intro w hSw;(try dsimp only at hSw);have h8:=hSw.1.boxB.cell 8;go_simp;try with_reducible rfl)
  try simp only [aP]
  refine wpAnyH_ready (rs:=[24]) (by kernel_rfl) (by simp) ?_
  refine AllReadyH.cons (o:=⟨some 29,_,_,_,_,_⟩) rfl (fun K hK=>?_) AllReadyH.nil
  go_simp
  refine (eqR_any a.set b.set Sa Sb csa csb _ hs1 hs2 hs3 hs4 (rgs_at hB.1.lsA) (rgs_at hB.1.lsB) true HQR.1).mono ?_
  rintro e wqhT hh
  obtain ⟨rfl,hb⟩:=hh.below
  clear hh
  have HhT:=hide (hB.1.below hb)
  clear hb
  go_wp2_with fail
  refine hK.out _ _ HhT (fun hT=>?_)
  clear hK K
  try simp only [aP]
  refine tkH 25 (some 30) ?v25x55 rfl ?y25x55 hT ?r25x55
  case y25x55=>(intro w hSw;(try dsimp only at hSw);go_simp;try with_reducible rfl)
  try simp only [aP]
  refine tkH 26 (some 31) ?v26x56 rfl ?y26x56 hT ?r26x56
  case y26x56=>(intro w hSw;(try dsimp only at hSw);go_simp;try with_reducible rfl)
  try simp only [aP]
  refine tkH 27 (some 32) ?v27x57 rfl ?y27x57 hT ?r27x57
  case y27x57=>(intro w hSw;(try dsimp only at hSw);go_simp;try with_reducible rfl)
  try simp only [aP]
  refine tkH 28 (some 33) ?v28x58 rfl ?y28x58 hT ?r28x58
  case y28x58=>(intro w hSw;(try dsimp only at hSw);have h9:=hSw.1.boxA.cell 9;go_simp;try with_reducible rfl)
  try simp only [aP]
  refine tkH 29 (some 34) ?v29x59 rfl ?y29x59 hT ?r29x59
  case y29x59=>(intro w hSw;(try dsimp only at hSw);go_simp;try with_reducible rfl)
  try simp only [aP]
  refine tkH 30 (some 35) ?v30x60 rfl ?y30x60 hT ?r30x60
  case y30x60=>(intro w hSw;(try dsimp only at hSw);have h9:=hSw.1.boxB.cell 9;go_simp;try with_reducible rfl)
  try simp only [aP]
  refine wpAnyH_ready (rs:=[31]) (by kernel_rfl) (by simp) ?_
  refine AllReadyH.cons (o:=⟨some 36,_,_,_,_,_⟩) rfl (fun K hK=>?_) AllReadyH.nil
  go_simp
  refine (eqI_any a.kids b.kids Ka Kb cka ckb _ hk1 hk2 hk3 hk4 (ints_at hT.1.kA) (ints_at hT.1.kB) qI HQI.1).mono ?_
  rintro e wqhU hh
  obtain ⟨rfl,hb⟩:=hh.below
  clear hh
  have HhU:=hide (hT.1.below hb)
  clear hb
  go_wp2_with fail
  refine hK.out _ _ HhU (fun hU=>?_)
  clear hK K
  try simp only [aP]
  refine tkH 32 (some 37) ?v32x61 rfl ?y32x61 hU ?r32x61
  case y32x61=>(intro w hSw;(try dsimp only at hSw);go_simp;try with_reducible rfl)
  try simp only [aP]
  refine tkH 33 (some 4) ?v33x62 rfl ?y33x62 hU ?r33x62
  case y33x62=>(intro w hSw;(try dsimp only at hSw);go_simp;try with_reducible rfl)
  try simp only [aP]
  refine wpAnyH_done (by kernel_rfl) ?_ _
  refine NoPanic.normal ?_
  have HBS:=hide hU.1.bel
  go_wp2_with fail
  go_ret
  exact ⟨by rw [HR.1];rfl,HBS.1⟩
 | false=>
  have HM:=hide (SMid.new a b Sa Sb Ka Kb csa csb cka ckb w hsa hsb hka hkb)
  have HBW:=hide HM.1.bel
  have bA:=HM.1.boxA
  have bB:=HM.1.boxB
  have a0:=bA.cell 0
  have b0:=bB.cell 0
  have a7:=bA.cell 7
  have b7:=bB.cell 7
  clear bA bB hsa hsb hka hkb
  go_enter Tryz.func25,Tryz.ntmps25
  go_wp2_with fail
  refine wp_region_noPanic ?_
  refine wp_region_held_drew (S:=(fun wx=>Hd (SMid a b Sa Sb Ka Kb csa csb cka ckb w wx))) (by kernel_rfl) (show Hd (SMid a b Sa Sb Ka Kb csa csb cka ckb w _) from hide (HM.1.below (Below.refl _ _).drew)) (fun hS=>?_)
  refine tkH 0 (some 5) ?v0x63 rfl ?y0x63 hS ?r0x63
  case y0x63=>(intro w hSw;(try dsimp only at hSw);go_simp;try with_reducible rfl)
  try simp only [aP]
  refine tkH 1 (some 6) ?v1x64 rfl ?y1x64 hS ?r1x64
  case y1x64=>(intro w hSw;(try dsimp only at hSw);have h0:=hSw.1.boxA.cell 0;go_simp;try with_reducible rfl)
  try simp only [aP]
  refine tkH 2 (some 7) ?v2x65 rfl ?y2x65 hS ?r2x65
  case y2x65=>(intro w hSw;(try dsimp only at hSw);go_simp;try with_reducible rfl)
  try simp only [aP]
  refine tkH 3 (some 8) ?v3x66 rfl ?y3x66 hS ?r3x66
  case y3x66=>(intro w hSw;(try dsimp only at hSw);have h0:=hSw.1.boxB.cell 0;go_simp;try with_reducible rfl)
  try simp only [aP]
  refine tkH 4 (some 9) ?v4x67 rfl ?y4x67 hS ?r4x67
  case y4x67=>(intro w hSw;(try dsimp only at hSw);go_simp;try with_reducible rfl)
  try simp only [aP]
  refine tkH 5 (some 10) ?v5x68 rfl ?y5x68 hS ?r5x68
  case y5x68=>(intro w hSw;(try dsimp only at hSw);go_simp;try with_reducible rfl)
  try simp only [aP]
  refine tkH 6 (some 11) ?v6x69 rfl ?y6x69 hS ?r6x69
  case y6x69=>(intro w hSw;(try dsimp only at hSw);go_simp;try with_reducible rfl)
  try simp only [aP]
  refine tkH 7 (some 12) ?v7x70 rfl ?y7x70 hS ?r7x70
  case y7x70=>(intro w hSw;(try dsimp only at hSw);have h7:=hSw.1.boxA.cell 7;go_simp;try with_reducible rfl)
  try simp only [aP]
  refine tkH 8 (some 13) ?v8x71 rfl ?y8x71 hS ?r8x71
  case y8x71=>(intro w hSw;(try dsimp only at hSw);go_simp;try with_reducible rfl)
  try simp only [aP]
  refine tkH 9 (some 14) ?v9x72 rfl ?y9x72 hS ?r9x72
  case y9x72=>(intro w hSw;(try dsimp only at hSw);have h7:=hSw.1.boxB.cell 7;go_simp;try with_reducible rfl)
  try simp only [aP]
  refine tkH 10 (some 15) ?v10x73 rfl ?y10x73 hS ?r10x73
  case y10x73=>(intro w hSw;(try dsimp only at hSw);go_simp;try with_reducible rfl)
  try simp only [aP]
  refine tkH 11 (some 16) ?v11x74 rfl ?y11x74 hS ?r11x74
  case y11x74=>(intro w hSw;(try dsimp only at hSw);go_simp;try with_reducible rfl)
  try simp only [aP]
  refine tkH 12 (some 17) ?v12x75 rfl ?y12x75 hS ?r12x75
  case y12x75=>(intro w hSw;(try dsimp only at hSw);go_simp;try with_reducible rfl)
  try simp only [aP]
  refine tkH 13 (some 18) ?v13x76 rfl ?y13x76 hS ?r13x76
  case y13x76=>(intro w hSw;(try dsimp only at hSw);have h0:=hSw.1.boxA.cell 0;have h1:=hSw.1.boxA.cell 1;have h2:=hSw.1.boxA.cell 2;have h3:=hSw.1.boxA.cell 3;have h4:=hSw.1.boxA.cell 4;have h5:=hSw.1.boxA.cell 5;have h6:=hSw.1.boxA.cell 6;have h7:=hSw.1.boxA.cell 7;have h8:=hSw.1.boxA.cell 8;have h9:=hSw.1.boxA.cell 9;go_simp;try with_reducible rfl)
  try simp only [aP]
  refine tkH 15 (some 20) ?v15x77 rfl ?y15x77 hS ?r15x77
  case y15x77=>(intro w hSw;(try dsimp only at hSw);have h0:=hSw.1.boxB.cell 0;have h1:=hSw.1.boxB.cell 1;have h2:=hSw.1.boxB.cell 2;have h3:=hSw.1.boxB.cell 3;have h4:=hSw.1.boxB.cell 4;have h5:=hSw.1.boxB.cell 5;have h6:=hSw.1.boxB.cell 6;have h7:=hSw.1.boxB.cell 7;have h8:=hSw.1.boxB.cell 8;have h9:=hSw.1.boxB.cell 9;go_simp;try with_reducible rfl)
  try simp only [aP]
  refine wpAnyH_ready (rs:=[14]) (by kernel_rfl) (by simp) ?_
  refine AllReadyH.cons (o:=⟨some 19,_,_,_,_,_⟩) rfl (fun K hK=>?_) AllReadyH.nil
  go_simp
  refine (nums_any a _ Ka _ cka _).mono ?_
  rintro e wqhA ⟨rfl,hb⟩
  have HhA:=hide (hS.1.below hb)
  clear hb
  go_wp2_with fail
  refine hK.out _ _ HhA (fun hA=>?_)
  clear hK K
  try simp only [aP]
  refine wpAnyH_ready (rs:=[16]) (by kernel_rfl) (by simp) ?_
  refine AllReadyH.cons (o:=⟨some 21,_,_,_,_,_⟩) rfl (fun K hK=>?_) AllReadyH.nil
  go_simp
  refine (nums_any b _ Kb _ ckb _).mono ?_
  rintro e wqhB ⟨rfl,hb⟩
  have HhB:=hide (hA.1.below hb)
  clear hb
  go_wp2_with fail
  refine hK.out _ _ HhB (fun hB=>?_)
  clear hK K
  try simp only [aP]
  refine tkH 17 (some 22) ?v17x78 rfl ?y17x78 hB ?r17x78
  case y17x78=>(intro w hSw;(try dsimp only at hSw);go_simp;try with_reducible rfl)
  try simp only [aP]
  refine tkH 18 (some 23) ?v18x79 rfl ?y18x79 hB ?r18x79
  case y18x79=>(intro w hSw;(try dsimp only at hSw);go_simp;try with_reducible rfl)
  try simp only [aP]
  refine tkH 19 (some 24) ?v19x80 rfl ?y19x80 hB ?r19x80
  case y19x80=>(intro w hSw;(try dsimp only at hSw);go_simp;try with_reducible rfl)
  try simp only [aP]
  refine tkH 20 (some 25) ?v20x81 rfl ?y20x81 hB ?r20x81
  case y20x81=>(intro w hSw;(try dsimp only at hSw);go_simp;try with_reducible rfl)
  try simp only [aP]
  refine tkH 21 (some 26) ?v21x82 rfl ?y21x82 hB ?r21x82
  case y21x82=>(intro w hSw;(try dsimp only at hSw);have h8:=hSw.1.boxA.cell 8;go_simp;try with_reducible rfl)
  try simp only [aP]
  refine tkH 22 (some 27) ?v22x83 rfl ?y22x83 hB ?r22x83
  case y22x83=>(intro w hSw;(try dsimp only at hSw);go_simp;try with_reducible rfl)
  try simp only [aP]
  refine tkH 23 (some 28) ?v23x84 rfl ?y23x84 hB ?r23x84
  case y23x84=>(intro w hSw;(try dsimp only at hSw);have h8:=hSw.1.boxB.cell 8;go_simp;try with_reducible rfl)
  try simp only [aP]
  refine wpAnyH_ready (rs:=[24]) (by kernel_rfl) (by simp) ?_
  refine AllReadyH.cons (o:=⟨some 29,_,_,_,_,_⟩) rfl (fun K hK=>?_) AllReadyH.nil
  go_simp
  refine (eqR_any a.set b.set Sa Sb csa csb _ hs1 hs2 hs3 hs4 (rgs_at hB.1.lsA) (rgs_at hB.1.lsB) false HQR.1).mono ?_
  rintro e wqhT hh
  obtain ⟨rfl,hb⟩:=hh.below
  clear hh
  have HhT:=hide (hB.1.below hb)
  clear hb
  go_wp2_with fail
  refine hK.out _ _ HhT (fun hT=>?_)
  clear hK K
  try simp only [aP]
  refine tkH 25 (some 30) ?v25x85 rfl ?y25x85 hT ?r25x85
  case y25x85=>(intro w hSw;(try dsimp only at hSw);go_simp;try with_reducible rfl)
  try simp only [aP]
  refine tkH 26 (some 31) ?v26x86 rfl ?y26x86 hT ?r26x86
  case y26x86=>(intro w hSw;(try dsimp only at hSw);go_simp;try with_reducible rfl)
  try simp only [aP]
  refine wpAnyH_take (i:=27) (oi:=⟨some 32,_,_,_,_,_⟩) (v:=undef) rfl (by kernel_rfl) (by kernel_rfl) (by kernel_rfl) (fun _ _ _ h=>h) (Or.inr ⟨by rfl,rfl⟩) hT ?r27x87
  case' r27x87=>skip
  try simp only [aP]
  refine wpAnyH_take (i:=28) (oi:=⟨some 33,_,_,_,_,_⟩) (v:=undef) rfl (by kernel_rfl) (by kernel_rfl) (by kernel_rfl) (fun _ _ _ h=>h) (Or.inr ⟨by rfl,rfl⟩) hT ?r28x88
  case' r28x88=>skip
  try simp only [aP]
  refine wpAnyH_take (i:=29) (oi:=⟨some 34,_,_,_,_,_⟩) (v:=undef) rfl (by kernel_rfl) (by kernel_rfl) (by kernel_rfl) (fun _ _ _ h=>h) (Or.inr ⟨by rfl,rfl⟩) hT ?r29x89
  case' r29x89=>skip
  try simp only [aP]
  refine wpAnyH_take (i:=30) (oi:=⟨some 35,_,_,_,_,_⟩) (v:=undef) rfl (by kernel_rfl) (by kernel_rfl) (by kernel_rfl) (fun _ _ _ h=>h) (Or.inr ⟨by rfl,rfl⟩) hT ?r30x90
  case' r30x90=>skip
  try simp only [aP]
  refine wpAnyH_take (i:=31) (oi:=⟨some 36,_,_,_,_,_⟩) (v:=undef) rfl (by kernel_rfl) (by kernel_rfl) (by kernel_rfl) (fun _ _ _ h=>h) (Or.inr ⟨by rfl,rfl⟩) hT ?r31x91
  case' r31x91=>skip
  try simp only [aP]
  refine tkH 32 (some 37) ?v32x92 rfl ?y32x92 hT ?r32x92
  case y32x92=>(intro w hSw;(try dsimp only at hSw);go_simp;try with_reducible rfl)
  try simp only [aP]
  refine tkH 33 (some 4) ?v33x93 rfl ?y33x93 hT ?r33x93
  case y33x93=>(intro w hSw;(try dsimp only at hSw);go_simp;try with_reducible rfl)
  try simp only [aP]
  refine wpAnyH_done (by kernel_rfl) ?_ _
  refine NoPanic.normal ?_
  have HBS:=hide hT.1.bel
  go_wp2_with fail
  go_ret
  exact ⟨by rw [HR.1];rfl,HBS.1⟩
theorem same1_any (a b:Nd) (Sa Sb Ka Kb:Option Addr) (csa csb cka ckb:Nat) (w:World)
  (hs1:a.set.length≤csa) (hs2:csa≤9223372036854775807) (hs3:b.set.length≤csb) (hs4:csb≤9223372036854775807) (hk1:a.kids.length≤cka) (hk2:cka≤9223372036854775807) (hk3:b.kids.length≤ckb) (hk4:ckb≤9223372036854775807) (hsa:Lst w w.heap.size Sa a.set) (hsb:Lst w w.heap.size Sb b.set) (hka:Reads w w.heap.size 1 Ka a.kids.length (a.kids.map Mem.i64)) (hkb:Reads w w.heap.size 1 Kb b.kids.length (b.kids.map Mem.i64)) :
  Calls Tryz.prog 25 #[.agg #[.int .i64 a.kind,.int .i64 a.from_,.int .i64 a.to_,.int .i64 a.num,.int .i64 a.mn,.int .i64 a.mx,.int .i64 a.mode,str a.name,.slice Sa a.set.length csa,.slice Ka a.kids.length cka],.agg #[.int .i64 b.kind,.int .i64 b.from_,.int .i64 b.to_,.int .i64 b.num,.int .i64 b.mn,.int .i64 b.mx,.int .i64 b.mode,str b.name,.slice Sb b.set.length csb,.slice Kb b.kids.length ckb]] w fun e w'=>e=.returned (.bool (alikeN a b))∧Below w.heap.size w w':=by
 by_cases h1:a.kind=b.kind
 rotate_left
 ·exact same_kind a b Sa Sb Ka Kb csa csb cka ckb w hs1 hs2 hs3 hs4 hk1 hk2 hk3 hk4 hsa hsb hka hkb h1
 by_cases h2:a.name=b.name
 rotate_left
 ·exact same_name a b Sa Sb Ka Kb csa csb cka ckb w hs1 hs2 hs3 hs4 hk1 hk2 hk3 hk4 hsa hsb hka hkb h1 h2
 by_cases h3:(a.num=b.num∧a.mn=b.mn∧a.mx=b.mx∧a.mode=b.mode∧(a.kids.length:Int)=(b.kids.length:Int))
 ·exact same_rest a b Sa Sb Ka Kb csa csb cka ckb w hs1 hs2 hs3 hs4 hk1 hk2 hk3 hk4 hsa hsb hka hkb h1 h2 h3
 ·exact same_nums a b Sa Sb Ka Kb csa csb cka ckb w hs1 hs2 hs3 hs4 hk1 hk2 hk3 hk4 hsa hsb hka hkb h1 h2 h3
end
section
open Go.RowKit Mem Rs
attribute [local go_sem] run_not_true run_not_false
theorem alikeL_iff:∀ l m:List Nd,alikeL l m=true↔l.length=m.length∧∀ (k:Nat) a b,l[k]?=some a→m[k]?=some b→alikeN a b=true
 | [],[]=>by simp [alikeL]
 | [],b :: m=>by simp [alikeL]
 | a :: l,[]=>by simp [alikeL]
 | a :: l,b :: m=>by
  unfold alikeL
  rw [Bool.and_eq_true,alikeL_iff l m]
  constructor
  ·rintro ⟨h1,h2,h3⟩
   refine ⟨by simp [h2],fun k x y hx hy=>?_⟩
   cases k with
   | zero=>
    obtain rfl:a=x:=by simpa using hx
    obtain rfl:b=y:=by simpa using hy
    exact h1
   | succ k=>exact h3 k x y (by simpa using hx) (by simpa using hy)
  ·rintro ⟨h1,h2⟩
   exact ⟨h2 0 a b rfl rfl,by simpa using h1,fun k x y hx hy=>h2 (k+1) x y (by simpa using hx) (by simpa using hy)⟩
def ARel (l m:List Nd) (w:World) (i:Value) (wr:World):Prop:=∃ k:Nat,i=.int .i64 k∧k≤l.length∧(∀ (j:Nat) a b,j<k→l[j]?=some a→m[j]?=some b→alikeN a b=true)∧Below w.heap.size w wr
theorem eqNodes_any (l m:List Nd) (A M:Option Addr) (ca cm B:Nat) (w:World) (hB:B≤w.heap.size) (hl:NodesV w B l (.slice A l.length ca)) (hm:NodesV w B m (.slice M m.length cm)) :
  Calls Tryz.prog 24 #[.slice A l.length ca,.slice M m.length cm,.func (.func 25) #[] #[]] w fun e w'=>e=.returned (.bool (alikeL l m))∧Below w.heap.size w w':=by
 obtain ⟨A',ca',e1,hl1,hl2,hln⟩:=hl
 obtain ⟨M',cm',e2,hm1,hm2,hmn⟩:=hm
 simp only [Value.slice.injEq,true_and] at e1 e2
 obtain ⟨rfl,rfl⟩:=e1
 obtain ⟨rfl,rfl⟩:=e2
 have HLN:=hide hln
 have HMN:=hide hmn
 clear hln hmn
 by_cases hll:l.length=m.length
 ·have d0:((l.length:Int) != (m.length:Int))=false:=by simp [hll]
  have HLL:=hide hll
  clear hll
  go_enter Tryz.func24,Tryz.ntmps24
  go_wp2_with fail
  go_loopw [17] (fun i wr=>ARel l m w i wr) (fun i _=>l.length-(intOf i).toNat)
  case atStart=>exact ⟨0,rfl,by omega,fun j _ _ hj=>absurd hj (by omega),Below.refl _ _⟩
  case round=>
   obtain ⟨k,rfl,hk,heq,hb⟩:=hrel
   go_hideQ
   have HEQ:=hide heq
   have HB:=hide hb
   have hsz:=hb.size
   clear heq hb
   by_cases hlt:k<l.length
   ·have hka:(k:Int)<(l.length:Int):=by omega
    have hkb:(k:Int)<(m.length:Int):=by have:=HLL.1;omega
    obtain ⟨a,ha⟩:∃ r,l[k]?=some r:=⟨_,List.getElem?_eq_getElem hlt⟩
    obtain ⟨b,hb⟩:∃ q,m[k]?=some q:=⟨_,List.getElem?_eq_getElem (by have:=HLL.1;omega)⟩
    obtain ⟨ba,oa,rfl,hba,hca⟩:=HLN.1 (by omega)
    obtain ⟨bb,ob,rfl,hbb,hcb⟩:=HMN.1 (by have:=HLL.1;omega)
    obtain ⟨h0,h1,h2,h3,h4,h5,h6,h7,⟨v8,h8,Sa,csa,rfl,hs1,hs2,hsa⟩,v9,h9,Ka,cka,rfl,hk1,hk2,hka9⟩:=hca k a ha
    obtain ⟨g0,g1,g2,g3,g4,g5,g6,g7,⟨u8,g8,Sb,csb,rfl,hs3,hs4,hsb⟩,u9,g9,Kb,ckb,rfl,hk3,hk4,hkb9⟩:=hcb k b hb
    have up:∀ j u,w.cell? ⟨ba,oa+k*10+j,none⟩=some u→wr.cell? ⟨ba,oa+k*10+j,none⟩=some u:=fun j u h=>(HB.1.cell (p:=⟨ba,oa+k*10+j,none⟩) (by show ba<w.heap.size;omega)).trans h
    have d0:wr.cell? ⟨ba,oa+k*10,none⟩=some (.int .i64 a.kind):=up 0 _ h0
    have d1:=up 1 _ h1
    have d2:=up 2 _ h2
    have d3:=up 3 _ h3
    have d4:=up 4 _ h4
    have d5:=up 5 _ h5
    have d6:=up 6 _ h6
    have d7:=up 7 _ h7
    have d8:=up 8 _ h8
    have d9:=up 9 _ h9
    have uq:∀ j u,w.cell? ⟨bb,ob+k*10+j,none⟩=some u→(wr.alloc (.cells #[.int .i64 a.kind,.int .i64 a.from_,.int .i64 a.to_,.int .i64 a.num,.int .i64 a.mn,.int .i64 a.mx,.int .i64 a.mode,str a.name,.slice Sa a.set.length csa,.slice Ka a.kids.length cka] 34)).cell? ⟨bb,ob+k*10+j,none⟩=some u:=fun j u h=>((HB.1.alloc hsz (.cells #[.int .i64 a.kind,.int .i64 a.from_,.int .i64 a.to_,.int .i64 a.num,.int .i64 a.mn,.int .i64 a.mx,.int .i64 a.mode,str a.name,.slice Sa a.set.length csa,.slice Ka a.kids.length cka] 34)).cell (p:=⟨bb,ob+k*10+j,none⟩) (by show bb<w.heap.size;omega)).trans h
    have f0:(wr.alloc (.cells #[.int .i64 a.kind,.int .i64 a.from_,.int .i64 a.to_,.int .i64 a.num,.int .i64 a.mn,.int .i64 a.mx,.int .i64 a.mode,str a.name,.slice Sa a.set.length csa,.slice Ka a.kids.length cka] 34)).cell? ⟨bb,ob+k*10,none⟩=some (.int .i64 b.kind):=uq 0 _ g0
    have f1:=uq 1 _ g1
    have f2:=uq 2 _ g2
    have f3:=uq 3 _ g3
    have f4:=uq 4 _ g4
    have f5:=uq 5 _ g5
    have f6:=uq 6 _ g6
    have f7:=uq 7 _ g7
    have f8:=uq 8 _ g8
    have f9:=uq 9 _ g9
    have hW:Below w.heap.size w ((wr.alloc (.cells #[.int .i64 a.kind,.int .i64 a.from_,.int .i64 a.to_,.int .i64 a.num,.int .i64 a.mn,.int .i64 a.mx,.int .i64 a.mode,str a.name,.slice Sa a.set.length csa,.slice Ka a.kids.length cka] 34)).alloc (.cells #[.int .i64 b.kind,.int .i64 b.from_,.int .i64 b.to_,.int .i64 b.num,.int .i64 b.mn,.int .i64 b.mx,.int .i64 b.mode,str b.name,.slice Sb b.set.length csb,.slice Kb b.kids.length ckb] 34)):=(HB.1.alloc hsz _).alloc (by simp;omega) _
    have C:=hide (same1_any a b Sa Sb Ka Kb csa csb cka ckb ((wr.alloc (.cells #[.int .i64 a.kind,.int .i64 a.from_,.int .i64 a.to_,.int .i64 a.num,.int .i64 a.mn,.int .i64 a.mx,.int .i64 a.mode,str a.name,.slice Sa a.set.length csa,.slice Ka a.kids.length cka] 34)).alloc (.cells #[.int .i64 b.kind,.int .i64 b.from_,.int .i64 b.to_,.int .i64 b.num,.int .i64 b.mn,.int .i64 b.mx,.int .i64 b.mode,str b.name,.slice Sb b.set.length csb,.slice Kb b.kids.length ckb] 34)) hs1 hs2 hs3 hs4 hk1 hk2 hk3 hk4 ((hsa.keep fun p hp=>hW.cell (by omega)).more (by simp;omega)) ((hsb.keep fun p hp=>hW.cell (by omega)).more (by simp;omega)) ((hka9.keep fun p hp=>hW.cell (by omega)).more (by simp;omega)) ((hkb9.keep fun p hp=>hW.cell (by omega)).more (by simp;omega)))
    have bA:=(Blk.new wr 34 #[.int .i64 a.kind,.int .i64 a.from_,.int .i64 a.to_,.int .i64 a.num,.int .i64 a.mn,.int .i64 a.mx,.int .i64 a.mode,str a.name,.slice Sa a.set.length csa,.slice Ka a.kids.length cka]).alloc (.cells #[.int .i64 b.kind,.int .i64 b.from_,.int .i64 b.to_,.int .i64 b.num,.int .i64 b.mn,.int .i64 b.mx,.int .i64 b.mode,str b.name,.slice Sb b.set.length csb,.slice Kb b.kids.length ckb] 34)
    have bB:=Blk.new (wr.alloc (.cells #[.int .i64 a.kind,.int .i64 a.from_,.int .i64 a.to_,.int .i64 a.num,.int .i64 a.mn,.int .i64 a.mx,.int .i64 a.mode,str a.name,.slice Sa a.set.length csa,.slice Ka a.kids.length cka] 34)) 34 #[.int .i64 b.kind,.int .i64 b.from_,.int .i64 b.to_,.int .i64 b.num,.int .i64 b.mn,.int .i64 b.mx,.int .i64 b.mode,str b.name,.slice Sb b.set.length csb,.slice Kb b.kids.length ckb]
    rw [World.size_alloc] at bB
    have HBA:=hide bA
    have HBB:=hide bB
    have HAB:=hide (And.intro ha hb)
    have HW:=hide hW
    clear ha hb hca hcb hsa hsb hka9 hkb9 up uq bA bB hW h0 h1 h2 h3 h4 h5 h6 h7 h8 h9 g0 g1 g2 g3 g4 g5 g6 g7 g8 g9 hba hbb
    obtain ⟨q,hq⟩:∃ q,alikeN a b=q:=⟨_,rfl⟩
    rw [hq] at C
    have HQ:=hide hq
    clear hq
    go_wp2_with fail
    refine C.1.mono ?_
    rintro e w5 ⟨rfl,hb5⟩
    have HB5:=hide (HW.1.trans (hb5.mono HW.1.size))
    clear C hb5
    cases q with
    | true=>
     go_wp2_with fail
     have hR:ARel l m w (.int .i64 ((k:Int)+1)) w5:=by
      refine ⟨k+1,by go_num,by omega,fun j x y hj hx hy=>?_,HB5.1⟩
      rcases Nat.lt_or_ge j k with h|h
      ·exact HEQ.1 j x y h hx hy
      ·obtain rfl:j=k:=by omega
       obtain rfl:=Option.some.inj (HAB.1.1.symm.trans hx)
       obtain rfl:=Option.some.inj (HAB.1.2.symm.trans hy)
       exact HQ.1
     go_roundw
     case rel=>exact hR
     case measure=>simp [intOf];omega
    | false=>
     have HR:=hide (show alikeL l m=false from by
      rw [Bool.eq_false_iff,ne_eq,alikeL_iff]
      intro h
      have:=h.2 k a b HAB.1.1 HAB.1.2
      rw [HQ.1] at this
      cases this)
     go_wp2_with fail
     go_ret
     exact ⟨by rw [HR.1];rfl,HB5.1⟩
   ·have hka:(l.length:Int)≤(k:Int):=by omega
    have HR:=hide (show alikeL l m=true from (alikeL_iff l m).2 ⟨HLL.1,fun j x y hx hy=>HEQ.1 j x y (by have:=(List.getElem?_eq_some_iff.1 hx).1;omega) hx hy⟩)
    clear hlt
    go_wp2_with fail
    go_ret
    exact ⟨by rw [HR.1];rfl,HB.1⟩
 ·have d0:((l.length:Int) != (m.length:Int))=true:=by simp;omega
  have HR:=hide (show alikeL l m=false from by rw [Bool.eq_false_iff,ne_eq,alikeL_iff];exact fun h=>hll h.1)
  clear hll
  go_enter Tryz.func24,Tryz.ntmps24
  go_wp2_with fail
  go_ret
  exact ⟨by rw [HR.1];rfl,Below.refl _ _⟩
theorem NamesV.at_ {w:World} {B:Nat} {l:List (List UInt8)} {A:Option Addr} {cap:Nat} (h:NamesV w B l (.slice A l.length cap)):NmsAt w A l∧l.length≤cap∧cap≤9223372036854775807:=by
 obtain ⟨A',cap',e,h1,h2,h3⟩:=h
 simp only [Value.slice.injEq,true_and] at e
 obtain ⟨rfl,rfl⟩:=e
 exact ⟨fun hn=>by obtain ⟨b,off,e,_,hc⟩:=h3 hn;exact ⟨b,off,e,hc⟩,h1,h2⟩
theorem psame_any (a b:Tr) (va vb:Value) (B:Nat) (w:World) (hB:B≤w.heap.size) (ha:TreeV w B a va) (hb:TreeV w B b vb) :
  Calls Tryz.prog 10 #[va,vb] w fun e w'=>e=.returned (.bool (sameT a b))∧Below w.heap.size w w':=by
 obtain ⟨av,ac,rfl,hna,hca⟩:=ha
 obtain ⟨bv,bc,rfl,hnb,hcb⟩:=hb
 obtain ⟨A,ca,rfl,-⟩:=id hna
 obtain ⟨M,cm,rfl,-⟩:=id hnb
 obtain ⟨C,cc,rfl,-⟩:=id hca
 obtain ⟨D,cd,rfl,-⟩:=id hcb
 have hW:Below w.heap.size w ((w.alloc (.cells #[.slice A a.nodes.length ca,.int .i64 a.groups,.slice C a.names.length cc] 27)).alloc (.cells #[.slice M b.nodes.length cm,.int .i64 b.groups,.slice D b.names.length cd] 27)):=((Below.refl _ _).alloc (Nat.le_refl _) _).alloc (by simp) _
 have HW:=hide hW
 obtain ⟨n1,n2,n3⟩:=(hca.keep fun p hp=>hW.cell (by omega)).at_
 obtain ⟨m1,m2,m3⟩:=(hcb.keep fun p hp=>hW.cell (by omega)).at_
 obtain ⟨qn,hqn⟩:∃ q,decide (a.names=b.names)=q:=⟨_,rfl⟩
 obtain ⟨qm,hqm⟩:∃ q,alikeL a.nodes b.nodes=q:=⟨_,rfl⟩
 have CE:=hide (eqS_any a.names b.names C D cc cd _ n2 n3 m2 m3 n1 m1 qn hqn)
 have CN:=hide (fun (wx:World) (hx:Below w.heap.size w wx)=>eqNodes_any a.nodes b.nodes A M ca cm B wx (Nat.le_trans hB hx.size) (hna.keep fun p hp=>hx.cell (by omega)) (hnb.keep fun p hp=>hx.cell (by omega)))
 rw [hqm] at CN
 have HR:=hide (show sameT a b=(decide (a.groups=b.groups)&&qn&&qm) by unfold sameT;rw [hqn,hqm])
 clear hW hna hnb hca hcb n1 n2 n3 m1 m2 m3 hqn hqm
 by_cases hg:a.groups=b.groups
 ·have d0:(a.groups==b.groups)=true:=by simp [hg]
  have HG:=hide hg
  clear hg
  cases qn with
  | true=>
   go_enter Tryz.func10,Tryz.ntmps10
   go_wp2_with fail
   refine CE.1.mono ?_
   rintro e w3 hh
   obtain ⟨rfl,hb3⟩:=hh.below
   have hb4:=HW.1.trans (hb3.mono HW.1.size)
   have HB4:=hide hb4
   have b0:=(((Blk.new w 27 #[.slice A a.nodes.length ca,.int .i64 a.groups,.slice C a.names.length cc]).alloc (.cells #[.slice M b.nodes.length cm,.int .i64 b.groups,.slice D b.names.length cd] 27))).below hb3 (by simp<;>omega)
   have b1:=Blk.new (w.alloc (.cells #[.slice A a.nodes.length ca,.int .i64 a.groups,.slice C a.names.length cc] 27)) 27 #[.slice M b.nodes.length cm,.int .i64 b.groups,.slice D b.names.length cd]
   rw [World.size_alloc] at b1
   have b1:=b1.below hb3 (by simp<;>omega)
   have c0:=b0.cell 0
   have c1:=b1.cell 0
   clear hh hb3 hb4 b0 b1 CE
   go_wp2_with fail
   refine (CN.1 w3 HB4.1).mono ?_
   rintro e w5 ⟨rfl,hb5⟩
   have HB5:=hide (HB4.1.trans (hb5.mono HB4.1.size))
   clear CN hb5
   go_wp2_with fail
   go_ret
   exact ⟨by rw [HR.1,decide_eq_true HG.1];simp,HB5.1⟩
  | false=>
   go_enter Tryz.func10,Tryz.ntmps10
   go_wp2_with fail
   refine CE.1.mono ?_
   rintro e w3 hh
   obtain ⟨rfl,hb3⟩:=hh.below
   have HB4:=hide (HW.1.trans (hb3.mono HW.1.size))
   clear hh hb3 CE
   go_wp2_with fail
   go_ret
   exact ⟨by rw [HR.1];simp,HB4.1⟩
 ·have d0:(a.groups==b.groups)=false:=by simp [hg]
  have HG:=hide hg
  clear hg
  go_enter Tryz.func10,Tryz.ntmps10
  go_wp2_with fail
  go_ret
  exact ⟨by rw [HR.1,decide_eq_false HG.1];simp,HW.1⟩
end
end Go.Proofs.YtmphmddmfcaldaaGreatDoor.As
