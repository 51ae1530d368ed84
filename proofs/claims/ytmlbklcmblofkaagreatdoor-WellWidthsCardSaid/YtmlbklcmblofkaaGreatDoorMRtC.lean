/-
  The reference's Right (clewref06), walked: what a tree has of which it tells that it may be.
-/
import Derived.Test.YtmlbklcmblofkaaGreatDoorMRtAloneB
import Derived.Test.YtmlbklcmblofkaaGreatDoorMRtE
import Derived.Test.YtmlbklcmblofkaaGreatDoorMAsRefEnd
import Derived.Test.YtmlbklcmblofkaaGreatDoorMWeC
set_option linter.unusedSimpArgs false
set_option linter.unusedVariables false
set_option maxHeartbeats 8000000
set_option maxRecDepth 100000
namespace Go.Proofs.YtmlbklcmblofkaaGreatDoor.Rt
section
open Go.RowKit Mem Rs As
attribute [local go_sem] run_not_true run_not_false
theorem alone_out (nd:Nd) (vs:Value) (K:Option Addr) (n ck:Nat) (w:World) (hk:withB nd.kind 1 10=false):Calls Tryz.prog 15 #[.agg (ndq nd vs (.slice K n ck))] w (AlP nd w):=by
 have bn:=Blk.new w 54 (ndq nd vs (.slice K n ck))
 have HB:=hide (show Below w.heap.size w (w.alloc (.cells (ndq nd vs (.slice K n ck)) 54)) from (Below.refl _ w).alloc (Nat.le_refl _) _)
 have c0:=bn.cell 0
 have c9:=bn.cell 9
 clear bn
 go_enter Tryz.func15,Tryz.ntmps15
 go_wp2_with (go_at_call 24;refine (within_any _ _ _ _).mono ?_;rintro e wx ⟨rfl,rfl⟩)
 go_ret
 exact alp_no HB.1
theorem alone_any (nd:Nd) (S:Option Addr) (cs:Nat) (K:Option Addr) (ck:Nat) (w:World) (hset:Lst w w.heap.size S nd.set) (hsl:nd.set.length≤8796093021952) (hin:∀ r∈nd.set,-9223372036854775808≤r.1∧r.1≤9223372036854775807) :
  Calls Tryz.prog 15 #[.agg (ndq nd (.slice S nd.set.length cs) (.slice K nd.kids.length ck))] w (AlP nd w):=by
 cases h:withB nd.kind 1 10 with
 | false=>exact alone_out nd _ K _ ck w h
 | true=>
  have h2:1≤nd.kind∧nd.kind≤10:=by simpa [withB] using h
  by_cases h3:nd.kind≤3
  ·exact alone_kindA nd.kind (by omega) nd S cs K ck w hset hsl hin rfl
  by_cases h6:nd.kind≤6
  ·exact alone_kindB nd.kind (by omega) nd S cs K ck w hset hsl hin rfl
  by_cases h8:nd.kind≤8
  ·exact alone_kindC nd.kind (by omega) nd S cs K ck w hset hsl hin rfl
  ·exact alone_kindD nd.kind (by omega) nd S cs K ck w hset hsl hin rfl
end
section
open Go.RowKit Mem Rs As We
attribute [local go_sem] run_not_true run_not_false
variable {w:World} {t:Tr}
theorem sets_lie {B:Nat} {b off cap:Nat} {g' c:Value} {sv kv:Nat→Sl} (hT:TreeV w B t (.agg #[.slice (some ⟨b,off,none⟩) t.nodes.length cap,g',c])) (hL:Lies10 w b off t.nodes sv kv) {k:Nat} {nd:Nd} (hk:t.nodes[k]?=some nd):SetV w B nd.set (.slice (sv k).a (sv k).n (sv k).c):=by
 obtain ⟨av,cv,hv,⟨A,cap',rfl,hc1,hc2,hn⟩,-⟩:=hT
 simp only [Value.agg.injEq,Array.mk.injEq,List.cons.injEq,Value.slice.injEq] at hv
 obtain ⟨⟨rfl,-,-⟩,-⟩:=hv
 obtain ⟨b',off',e,hbb,hcs⟩:=hn (by have:=(List.getElem?_eq_some_iff.1 hk).1;omega)
 injection e with e
 injection e with e1 e2
 subst e1;subst e2
 obtain ⟨h0,h1,h2,h3,h4,h5,h6,h7,⟨v8,h8,h8s⟩,-⟩:=hcs k nd hk
 have:=(hL k nd hk).2.2.2.2.2.2.2.2.1
 rw [show w.cell? ⟨b,off+k*10+8,none⟩=some v8 from h8,Option.some.injEq] at this
 rw [← this]
 exact h8s
theorem cells3q {W:World} {g t:Nat} {a b c:Value} (h:Blk W g t #[a,b,c]):(W.cell? ⟨g,0,none⟩=some a∧W.cell? ⟨g,1,none⟩=some b∧W.cell? ⟨g,2,none⟩=some c)∧True:=⟨⟨h.cell 0,h.cell 1,h.cell 2⟩,trivial⟩
theorem cellsQ {W:World} {g:Nat} {nd:Nd} {vs vk:Value} (h:Blk W g 54 (ndq nd vs vk)):W.cell? ⟨g,0,none⟩=some (.int .i64 nd.kind)∧W.cell? ⟨g,1,none⟩=some (.int .i64 nd.from_)∧W.cell? ⟨g,2,none⟩=some (.int .i64 nd.to_)∧W.cell? ⟨g,3,none⟩=some (.int .i64 nd.num)∧W.cell? ⟨g,4,none⟩=some (.int .i64 nd.mn)∧W.cell? ⟨g,5,none⟩=some (.int .i64 nd.mx)∧W.cell? ⟨g,6,none⟩=some (.int .i64 nd.mode)∧W.cell? ⟨g,7,none⟩=some (str nd.name)∧W.cell? ⟨g,8,none⟩=some vs∧W.cell? ⟨g,9,none⟩=some vk:=⟨h.cell 0,h.cell 1,h.cell 2,h.cell 3,h.cell 4,h.cell 5,h.cell 6,h.cell 7,h.cell 8,h.cell 9⟩
theorem kids_at2 {B:Nat} {A:Option Addr} {ks:List Int} (h:Reads w B 1 A ks.length (ks.map Mem.i64)) (hn:0<ks.length):∃ b off,A=some ⟨b,off,none⟩∧b<B∧∀ (k:Nat) (y:Int),ks[k]?=some y→w.cell? ⟨b,off+k,none⟩=some (.int .i64 y):=by
 obtain ⟨b,off,rfl,hb,hc⟩:=h.flat hn
 exact ⟨b,off,rfl,hb,fun k y hk=>hc k (.int .i64 y) (by rw [List.getElem?_map,hk];rfl)⟩
structure RtOk (t:Tr):Prop where
 laid:Laid t.nodes
 alone:∀ nd∈t.nodes,AloneOk nd
 names:(t.names.length:Int)-1=t.groups
def RtP (t:Tr) (w:World) (e:Ending) (w':World):Prop:=(∃ b,e=.returned (.bool b)∧(b=true→RtOk t))∧Below w.heap.size w w'
theorem rtp_no {w':World} (h:Below w.heap.size w w'):RtP t w (.returned (.bool false)) w':=⟨⟨false,rfl,fun h=>by cases h⟩,h⟩
theorem rtp_may {w':World} {b:Bool} (h:Below w.heap.size w w') (hb:RtOk t):RtP t w (.returned (.bool b)) w':=⟨⟨b,rfl,fun _=>hb⟩,h⟩
def NdIn1 (nd:Nd):Prop:=nd.set.length≤8796093021952∧∀ r∈nd.set,-9223372036854775808≤r.1∧r.1≤9223372036854775807
def GRel (t:Tr) (W:World) (g i:Value) (wr:World):Prop:=∃ k c:Nat,g=.int .i64 (c:Int)∧i=.int .i64 (k:Int)∧c≤k∧k≤t.nodes.length∧Below W.heap.size W wr∧∀ nd∈t.nodes.take k,AloneOk nd
def GKel (n:Nat) (W:World) (i:Value) (wr:World):Prop:=∃ k:Nat,i=.int .i64 (k:Int)∧k≤n∧Below W.heap.size W wr
theorem rightR_any (t:Tr) (v:Value) (B:Nat) (w:World) (hB:B≤w.heap.size) (hlen:t.nodes.length≤1000) (hin:∀ nd∈t.nodes,NdIn1 nd) (hgi:in64 t.groups) (hT:TreeV w B t v) :
  Calls Tryz.prog 7 #[v] w (RtP t w):=by
 have HT0:=hide hT
 obtain ⟨av,cv,rfl,⟨A,cap,rfl,hc1,hc2,hn⟩,An,cn,rfl,hc3,hc4,hnn⟩:=hT
 have hb0:Below w.heap.size w (w.alloc (.cells #[.slice A t.nodes.length cap,.int .i64 t.groups,.slice An t.names.length cn] 30)):=(Below.refl _ w).alloc (Nat.le_refl _) _
 have HB0:=hide hb0
 have HBT:=hide (Blk.new w 30 #[.slice A t.nodes.length cap,.int .i64 t.groups,.slice An t.names.length cn])
 have hb1:=HBT.1.cell 0
 obtain ⟨en,hen⟩:∃ e,endN t.nodes t.nodes.length 0=e:=⟨_,rfl⟩
 have HEN:=hide hen
 have CE:=hide (fun W (hb:Below w.heap.size w W)=>end_any t _ B (by omega) t.nodes.length 0 W (by omega) (by omega) (Nat.le_trans hB hb.size) (HT0.1.keep fun p hp=>hb.cell (by omega)))
 rw [hen] at CE
 have hnl:(t.names.length:Int)≤9223372036854775807:=by omega
 have hwr:IntKind.i64.wrap ((t.names.length:Int)-1)=(t.names.length:Int)-1:=wrap_id _ (by omega) (by omega)
 clear hen hb1 hb0
 have hcase:(en≠(t.nodes.length:Int))∨(en=(t.nodes.length:Int)∧t.names.length=0)∨(en=(t.nodes.length:Int)∧0<t.names.length∧(t.names.length:Int)-1≠t.groups)∨(en=(t.nodes.length:Int)∧0<t.names.length∧(t.names.length:Int)-1=t.groups):=by omega
 rcases hcase with q1|⟨q1,q2⟩|⟨q1,q2,q3⟩|⟨q1,q2,q3⟩
 ·have e1:(en != (t.nodes.length:Int))=true:=by simp [q1]
  clear q1 hn hnn
  go_enter Tryz.func7,Tryz.ntmps7
  go_wp2_with fail
  generalize hX:w.alloc (.cells #[.slice A t.nodes.length cap,.int .i64 t.groups,.slice An t.names.length cn] 30)=X at *
  have HX:=hide hX
  clear hX
  refine wp_region_noPanic ?_
  refine wp_region_held_drew (S:=fun wx=>Hd (Below X.heap.size X wx)) (by kernel_rfl) (show Hd (Below X.heap.size X _) from hide (Below.refl _ _).drew) (fun hS=>?_)
  refine tkH 0 (some 7) ?va0 rfl ?ya0 hS ?ra0
  case ya0=>(intro w hSw;(try dsimp only at hSw);have h0:=(HBT.1.below hSw.1 HBT.1.lt).cell 0;have h1:=(HBT.1.below hSw.1 HBT.1.lt).cell 1;have h2:=(HBT.1.below hSw.1 HBT.1.lt).cell 2;go_simp;try with_reducible rfl)
  try simp only [aP]
  refine tkH 2 (some 9) ?va2 rfl ?ya2 hS ?ra2
  case ya2=>(intro w hSw;(try dsimp only at hSw);go_simp;try with_reducible rfl)
  try simp only [aP]
  refine tkH 3 (some 10) ?va3 rfl ?ya3 hS ?ra3
  case ya3=>(intro w hSw;(try dsimp only at hSw);have h0:=(HBT.1.below hSw.1 HBT.1.lt).cell 0;have h1:=(HBT.1.below hSw.1 HBT.1.lt).cell 1;have h2:=(HBT.1.below hSw.1 HBT.1.lt).cell 2;go_simp;try with_reducible rfl)
  try simp only [aP]
  refine tkH 4 (some 11) ?va4 rfl ?ya4 hS ?ra4
  case ya4=>(intro w hSw;(try dsimp only at hSw);go_simp;try with_reducible rfl)
  try simp only [aP]
  refine wpAnyH_ready (rs:=[1]) (by kernel_rfl) (by simp) ?_
  refine AllReadyH.cons (o:=⟨some 8,_,_,_,_,_⟩) rfl (fun K hK=>?_) AllReadyH.nil
  go_simp
  refine (CE.1 _ (HB0.1.trans (hS.1.mono HB0.1.size))).mono ?_
  rintro e w5 ⟨rfl,hb⟩
  have HS5:=hide (hS.1.trans (hb.mono hS.1.size))
  clear hb
  go_wp2_with fail
  refine hK.out _ _ HS5 (fun hS=>?_)
  clear hK K
  try simp only [aP]
  refine tkH 5 (some 12) ?va5 rfl ?ya5 hS ?ra5
  case ya5=>(intro w hSw;(try dsimp only at hSw);go_simp;try with_reducible rfl)
  try simp only [aP]
  refine tkH 6 (some 13) ?va6 rfl ?ya6 hS ?ra6
  case ya6=>(intro w hSw;(try dsimp only at hSw);go_simp;try with_reducible rfl)
  try simp only [aP]
  refine wpAnyH_take (i:=7) (oi:=⟨some 14,_,_,_,_,_⟩) (v:=undef) rfl (by kernel_rfl) (by kernel_rfl) (by kernel_rfl) (fun _ _ _ h=>h) (Or.inr ⟨by rfl,rfl⟩) hS ?ra7
  case' ra7=>skip
  try simp only [aP]
  refine wpAnyH_take (i:=8) (oi:=⟨some 15,_,_,_,_,_⟩) (v:=undef) rfl (by kernel_rfl) (by kernel_rfl) (by kernel_rfl) (fun _ _ _ h=>h) (Or.inr ⟨by rfl,rfl⟩) hS ?ra8
  case' ra8=>skip
  try simp only [aP]
  refine wpAnyH_take (i:=9) (oi:=⟨some 16,_,_,_,_,_⟩) (v:=undef) rfl (by kernel_rfl) (by kernel_rfl) (by kernel_rfl) (fun _ _ _ h=>h) (Or.inr ⟨by rfl,rfl⟩) hS ?ra9
  case' ra9=>skip
  try simp only [aP]
  refine wpAnyH_take (i:=10) (oi:=⟨some 17,_,_,_,_,_⟩) (v:=undef) rfl (by kernel_rfl) (by kernel_rfl) (by kernel_rfl) (fun _ _ _ h=>h) (Or.inr ⟨by rfl,rfl⟩) hS ?ra10
  case' ra10=>skip
  try simp only [aP]
  refine tkH 11 (some 18) ?va11 rfl ?ya11 hS ?ra11
  case ya11=>(intro w hSw;(try dsimp only at hSw);go_simp;try with_reducible rfl)
  try simp only [aP]
  refine tkH 12 (some 19) ?va12 rfl ?ya12 hS ?ra12
  case ya12=>(intro w hSw;(try dsimp only at hSw);go_simp;try with_reducible rfl)
  try simp only [aP]
  refine wpAnyH_take (i:=13) (oi:=⟨some 20,_,_,_,_,_⟩) (v:=undef) rfl (by kernel_rfl) (by kernel_rfl) (by kernel_rfl) (fun _ _ _ h=>h) (Or.inr ⟨by rfl,rfl⟩) hS ?ra13
  case' ra13=>skip
  try simp only [aP]
  refine wpAnyH_take (i:=14) (oi:=⟨some 21,_,_,_,_,_⟩) (v:=undef) rfl (by kernel_rfl) (by kernel_rfl) (by kernel_rfl) (fun _ _ _ h=>h) (Or.inr ⟨by rfl,rfl⟩) hS ?ra14
  case' ra14=>skip
  try simp only [aP]
  refine wpAnyH_take (i:=15) (oi:=⟨some 22,_,_,_,_,_⟩) (v:=undef) rfl (by kernel_rfl) (by kernel_rfl) (by kernel_rfl) (fun _ _ _ h=>h) (Or.inr ⟨by rfl,rfl⟩) hS ?ra15
  case' ra15=>skip
  try simp only [aP]
  refine wpAnyH_take (i:=16) (oi:=⟨some 23,_,_,_,_,_⟩) (v:=undef) rfl (by kernel_rfl) (by kernel_rfl) (by kernel_rfl) (fun _ _ _ h=>h) (Or.inr ⟨by rfl,rfl⟩) hS ?ra16
  case' ra16=>skip
  try simp only [aP]
  refine wpAnyH_take (i:=17) (oi:=⟨some 24,_,_,_,_,_⟩) (v:=undef) rfl (by kernel_rfl) (by kernel_rfl) (by kernel_rfl) (fun _ _ _ h=>h) (Or.inr ⟨by rfl,rfl⟩) hS ?ra17
  case' ra17=>skip
  try simp only [aP]
  refine wpAnyH_take (i:=18) (oi:=⟨some 25,_,_,_,_,_⟩) (v:=undef) rfl (by kernel_rfl) (by kernel_rfl) (by kernel_rfl) (fun _ _ _ h=>h) (Or.inr ⟨by rfl,rfl⟩) hS ?ra18
  case' ra18=>skip
  try simp only [aP]
  refine wpAnyH_take (i:=19) (oi:=⟨some 26,_,_,_,_,_⟩) (v:=undef) rfl (by kernel_rfl) (by kernel_rfl) (by kernel_rfl) (fun _ _ _ h=>h) (Or.inr ⟨by rfl,rfl⟩) hS ?ra19
  case' ra19=>skip
  try simp only [aP]
  refine tkH 20 (some 27) ?va20 rfl ?ya20 hS ?ra20
  case ya20=>(intro w hSw;(try dsimp only at hSw);go_simp;try with_reducible rfl)
  try simp only [aP]
  refine tkH 21 (some 28) ?va21 rfl ?ya21 hS ?ra21
  case ya21=>(intro w hSw;(try dsimp only at hSw);go_simp;try with_reducible rfl)
  try simp only [aP]
  refine wpAnyH_take (i:=22) (oi:=⟨some 29,_,_,_,_,_⟩) (v:=undef) rfl (by kernel_rfl) (by kernel_rfl) (by kernel_rfl) (fun _ _ _ h=>h) (Or.inr ⟨by rfl,rfl⟩) hS ?ra22
  case' ra22=>skip
  try simp only [aP]
  refine wpAnyH_take (i:=23) (oi:=⟨some 30,_,_,_,_,_⟩) (v:=undef) rfl (by kernel_rfl) (by kernel_rfl) (by kernel_rfl) (fun _ _ _ h=>h) (Or.inr ⟨by rfl,rfl⟩) hS ?ra23
  case' ra23=>skip
  try simp only [aP]
  refine wpAnyH_take (i:=24) (oi:=⟨some 31,_,_,_,_,_⟩) (v:=undef) rfl (by kernel_rfl) (by kernel_rfl) (by kernel_rfl) (fun _ _ _ h=>h) (Or.inr ⟨by rfl,rfl⟩) hS ?ra24
  case' ra24=>skip
  try simp only [aP]
  refine wpAnyH_take (i:=25) (oi:=⟨some 32,_,_,_,_,_⟩) (v:=undef) rfl (by kernel_rfl) (by kernel_rfl) (by kernel_rfl) (fun _ _ _ h=>h) (Or.inr ⟨by rfl,rfl⟩) hS ?ra25
  case' ra25=>skip
  try simp only [aP]
  refine wpAnyH_take (i:=26) (oi:=⟨some 33,_,_,_,_,_⟩) (v:=undef) rfl (by kernel_rfl) (by kernel_rfl) (by kernel_rfl) (fun _ _ _ h=>h) (Or.inr ⟨by rfl,rfl⟩) hS ?ra26
  case' ra26=>skip
  try simp only [aP]
  refine tkH 27 (some 34) ?va27 rfl ?ya27 hS ?ra27
  case ya27=>(intro w hSw;(try dsimp only at hSw);go_simp;try with_reducible rfl)
  try simp only [aP]
  refine wpAnyH_done (by kernel_rfl) ?_ _
  refine NoPanic.normal ?_
  go_wp2_with fail
  go_ret
  exact rtp_no (HB0.1.trans (HS5.1.mono HB0.1.size))
 ·have e1:(en != (t.nodes.length:Int))=false:=by simp [q1]
  have e2:((t.names.length:Int)==0)=true:=by simp [q2]
  clear q1 q2 hn hnn
  go_enter Tryz.func7,Tryz.ntmps7
  go_wp2_with fail
  generalize hX:w.alloc (.cells #[.slice A t.nodes.length cap,.int .i64 t.groups,.slice An t.names.length cn] 30)=X at *
  have HX:=hide hX
  clear hX
  refine wp_region_noPanic ?_
  refine wp_region_held_drew (S:=fun wx=>Hd (Below X.heap.size X wx)) (by kernel_rfl) (show Hd (Below X.heap.size X _) from hide (Below.refl _ _).drew) (fun hS=>?_)
  refine tkH 0 (some 7) ?vb0 rfl ?yb0 hS ?rb0
  case yb0=>(intro w hSw;(try dsimp only at hSw);have h0:=(HBT.1.below hSw.1 HBT.1.lt).cell 0;have h1:=(HBT.1.below hSw.1 HBT.1.lt).cell 1;have h2:=(HBT.1.below hSw.1 HBT.1.lt).cell 2;go_simp;try with_reducible rfl)
  try simp only [aP]
  refine tkH 2 (some 9) ?vb2 rfl ?yb2 hS ?rb2
  case yb2=>(intro w hSw;(try dsimp only at hSw);go_simp;try with_reducible rfl)
  try simp only [aP]
  refine tkH 3 (some 10) ?vb3 rfl ?yb3 hS ?rb3
  case yb3=>(intro w hSw;(try dsimp only at hSw);have h0:=(HBT.1.below hSw.1 HBT.1.lt).cell 0;have h1:=(HBT.1.below hSw.1 HBT.1.lt).cell 1;have h2:=(HBT.1.below hSw.1 HBT.1.lt).cell 2;go_simp;try with_reducible rfl)
  try simp only [aP]
  refine tkH 4 (some 11) ?vb4 rfl ?yb4 hS ?rb4
  case yb4=>(intro w hSw;(try dsimp only at hSw);go_simp;try with_reducible rfl)
  try simp only [aP]
  refine wpAnyH_ready (rs:=[1]) (by kernel_rfl) (by simp) ?_
  refine AllReadyH.cons (o:=⟨some 8,_,_,_,_,_⟩) rfl (fun K hK=>?_) AllReadyH.nil
  go_simp
  refine (CE.1 _ (HB0.1.trans (hS.1.mono HB0.1.size))).mono ?_
  rintro e w5 ⟨rfl,hb⟩
  have HS5:=hide (hS.1.trans (hb.mono hS.1.size))
  clear hb
  go_wp2_with fail
  refine hK.out _ _ HS5 (fun hS=>?_)
  clear hK K
  try simp only [aP]
  refine tkH 5 (some 12) ?vb5 rfl ?yb5 hS ?rb5
  case yb5=>(intro w hSw;(try dsimp only at hSw);go_simp;try with_reducible rfl)
  try simp only [aP]
  refine tkH 6 (some 13) ?vb6 rfl ?yb6 hS ?rb6
  case yb6=>(intro w hSw;(try dsimp only at hSw);go_simp;try with_reducible rfl)
  try simp only [aP]
  refine tkH 7 (some 14) ?vb7 rfl ?yb7 hS ?rb7
  case yb7=>(intro w hSw;(try dsimp only at hSw);go_simp;try with_reducible rfl)
  try simp only [aP]
  refine tkH 8 (some 15) ?vb8 rfl ?yb8 hS ?rb8
  case yb8=>(intro w hSw;(try dsimp only at hSw);have h0:=(HBT.1.below hSw.1 HBT.1.lt).cell 0;have h1:=(HBT.1.below hSw.1 HBT.1.lt).cell 1;have h2:=(HBT.1.below hSw.1 HBT.1.lt).cell 2;go_simp;try with_reducible rfl)
  try simp only [aP]
  refine tkH 9 (some 16) ?vb9 rfl ?yb9 hS ?rb9
  case yb9=>(intro w hSw;(try dsimp only at hSw);go_simp;try with_reducible rfl)
  try simp only [aP]
  refine tkH 10 (some 17) ?vb10 rfl ?yb10 hS ?rb10
  case yb10=>(intro w hSw;(try dsimp only at hSw);go_simp;try with_reducible rfl)
  try simp only [aP]
  refine tkH 11 (some 18) ?vb11 rfl ?yb11 hS ?rb11
  case yb11=>(intro w hSw;(try dsimp only at hSw);go_simp;try with_reducible rfl)
  try simp only [aP]
  refine tkH 12 (some 19) ?vb12 rfl ?yb12 hS ?rb12
  case yb12=>(intro w hSw;(try dsimp only at hSw);go_simp;try with_reducible rfl)
  try simp only [aP]
  refine wpAnyH_take (i:=13) (oi:=⟨some 20,_,_,_,_,_⟩) (v:=undef) rfl (by kernel_rfl) (by kernel_rfl) (by kernel_rfl) (fun _ _ _ h=>h) (Or.inr ⟨by rfl,rfl⟩) hS ?rb13
  case' rb13=>skip
  try simp only [aP]
  refine wpAnyH_take (i:=14) (oi:=⟨some 21,_,_,_,_,_⟩) (v:=undef) rfl (by kernel_rfl) (by kernel_rfl) (by kernel_rfl) (fun _ _ _ h=>h) (Or.inr ⟨by rfl,rfl⟩) hS ?rb14
  case' rb14=>skip
  try simp only [aP]
  refine wpAnyH_take (i:=15) (oi:=⟨some 22,_,_,_,_,_⟩) (v:=undef) rfl (by kernel_rfl) (by kernel_rfl) (by kernel_rfl) (fun _ _ _ h=>h) (Or.inr ⟨by rfl,rfl⟩) hS ?rb15
  case' rb15=>skip
  try simp only [aP]
  refine wpAnyH_take (i:=16) (oi:=⟨some 23,_,_,_,_,_⟩) (v:=undef) rfl (by kernel_rfl) (by kernel_rfl) (by kernel_rfl) (fun _ _ _ h=>h) (Or.inr ⟨by rfl,rfl⟩) hS ?rb16
  case' rb16=>skip
  try simp only [aP]
  refine wpAnyH_take (i:=17) (oi:=⟨some 24,_,_,_,_,_⟩) (v:=undef) rfl (by kernel_rfl) (by kernel_rfl) (by kernel_rfl) (fun _ _ _ h=>h) (Or.inr ⟨by rfl,rfl⟩) hS ?rb17
  case' rb17=>skip
  try simp only [aP]
  refine wpAnyH_take (i:=18) (oi:=⟨some 25,_,_,_,_,_⟩) (v:=undef) rfl (by kernel_rfl) (by kernel_rfl) (by kernel_rfl) (fun _ _ _ h=>h) (Or.inr ⟨by rfl,rfl⟩) hS ?rb18
  case' rb18=>skip
  try simp only [aP]
  refine wpAnyH_take (i:=19) (oi:=⟨some 26,_,_,_,_,_⟩) (v:=undef) rfl (by kernel_rfl) (by kernel_rfl) (by kernel_rfl) (fun _ _ _ h=>h) (Or.inr ⟨by rfl,rfl⟩) hS ?rb19
  case' rb19=>skip
  try simp only [aP]
  refine tkH 20 (some 27) ?vb20 rfl ?yb20 hS ?rb20
  case yb20=>(intro w hSw;(try dsimp only at hSw);go_simp;try with_reducible rfl)
  try simp only [aP]
  refine tkH 21 (some 28) ?vb21 rfl ?yb21 hS ?rb21
  case yb21=>(intro w hSw;(try dsimp only at hSw);go_simp;try with_reducible rfl)
  try simp only [aP]
  refine wpAnyH_take (i:=22) (oi:=⟨some 29,_,_,_,_,_⟩) (v:=undef) rfl (by kernel_rfl) (by kernel_rfl) (by kernel_rfl) (fun _ _ _ h=>h) (Or.inr ⟨by rfl,rfl⟩) hS ?rb22
  case' rb22=>skip
  try simp only [aP]
  refine wpAnyH_take (i:=23) (oi:=⟨some 30,_,_,_,_,_⟩) (v:=undef) rfl (by kernel_rfl) (by kernel_rfl) (by kernel_rfl) (fun _ _ _ h=>h) (Or.inr ⟨by rfl,rfl⟩) hS ?rb23
  case' rb23=>skip
  try simp only [aP]
  refine wpAnyH_take (i:=24) (oi:=⟨some 31,_,_,_,_,_⟩) (v:=undef) rfl (by kernel_rfl) (by kernel_rfl) (by kernel_rfl) (fun _ _ _ h=>h) (Or.inr ⟨by rfl,rfl⟩) hS ?rb24
  case' rb24=>skip
  try simp only [aP]
  refine wpAnyH_take (i:=25) (oi:=⟨some 32,_,_,_,_,_⟩) (v:=undef) rfl (by kernel_rfl) (by kernel_rfl) (by kernel_rfl) (fun _ _ _ h=>h) (Or.inr ⟨by rfl,rfl⟩) hS ?rb25
  case' rb25=>skip
  try simp only [aP]
  refine wpAnyH_take (i:=26) (oi:=⟨some 33,_,_,_,_,_⟩) (v:=undef) rfl (by kernel_rfl) (by kernel_rfl) (by kernel_rfl) (fun _ _ _ h=>h) (Or.inr ⟨by rfl,rfl⟩) hS ?rb26
  case' rb26=>skip
  try simp only [aP]
  refine tkH 27 (some 34) ?vb27 rfl ?yb27 hS ?rb27
  case yb27=>(intro w hSw;(try dsimp only at hSw);go_simp;try with_reducible rfl)
  try simp only [aP]
  refine wpAnyH_done (by kernel_rfl) ?_ _
  refine NoPanic.normal ?_
  go_wp2_with fail
  go_ret
  exact rtp_no (HB0.1.trans (HS5.1.mono HB0.1.size))
 ·have e1:(en != (t.nodes.length:Int))=false:=by simp [q1]
  have e2:((t.names.length:Int)==0)=false:=by rw [beq_eq_false_iff_ne];omega
  have e3:((t.names.length:Int)-1 != t.groups)=true:=by simp [q3]
  clear q1 q2 q3 hn hnn
  go_enter Tryz.func7,Tryz.ntmps7
  go_wp2_with fail
  generalize hX:w.alloc (.cells #[.slice A t.nodes.length cap,.int .i64 t.groups,.slice An t.names.length cn] 30)=X at *
  have HX:=hide hX
  clear hX
  refine wp_region_noPanic ?_
  refine wp_region_held_drew (S:=fun wx=>Hd (Below X.heap.size X wx)) (by kernel_rfl) (show Hd (Below X.heap.size X _) from hide (Below.refl _ _).drew) (fun hS=>?_)
  refine tkH 0 (some 7) ?vc0 rfl ?yc0 hS ?rc0
  case yc0=>(intro w hSw;(try dsimp only at hSw);have h0:=(HBT.1.below hSw.1 HBT.1.lt).cell 0;have h1:=(HBT.1.below hSw.1 HBT.1.lt).cell 1;have h2:=(HBT.1.below hSw.1 HBT.1.lt).cell 2;go_simp;try with_reducible rfl)
  try simp only [aP]
  refine tkH 2 (some 9) ?vc2 rfl ?yc2 hS ?rc2
  case yc2=>(intro w hSw;(try dsimp only at hSw);go_simp;try with_reducible rfl)
  try simp only [aP]
  refine tkH 3 (some 10) ?vc3 rfl ?yc3 hS ?rc3
  case yc3=>(intro w hSw;(try dsimp only at hSw);have h0:=(HBT.1.below hSw.1 HBT.1.lt).cell 0;have h1:=(HBT.1.below hSw.1 HBT.1.lt).cell 1;have h2:=(HBT.1.below hSw.1 HBT.1.lt).cell 2;go_simp;try with_reducible rfl)
  try simp only [aP]
  refine tkH 4 (some 11) ?vc4 rfl ?yc4 hS ?rc4
  case yc4=>(intro w hSw;(try dsimp only at hSw);go_simp;try with_reducible rfl)
  try simp only [aP]
  refine wpAnyH_ready (rs:=[1]) (by kernel_rfl) (by simp) ?_
  refine AllReadyH.cons (o:=⟨some 8,_,_,_,_,_⟩) rfl (fun K hK=>?_) AllReadyH.nil
  go_simp
  refine (CE.1 _ (HB0.1.trans (hS.1.mono HB0.1.size))).mono ?_
  rintro e w5 ⟨rfl,hb⟩
  have HS5:=hide (hS.1.trans (hb.mono hS.1.size))
  clear hb
  go_wp2_with fail
  refine hK.out _ _ HS5 (fun hS=>?_)
  clear hK K
  try simp only [aP]
  refine tkH 5 (some 12) ?vc5 rfl ?yc5 hS ?rc5
  case yc5=>(intro w hSw;(try dsimp only at hSw);go_simp;try with_reducible rfl)
  try simp only [aP]
  refine tkH 6 (some 13) ?vc6 rfl ?yc6 hS ?rc6
  case yc6=>(intro w hSw;(try dsimp only at hSw);go_simp;try with_reducible rfl)
  try simp only [aP]
  refine tkH 7 (some 14) ?vc7 rfl ?yc7 hS ?rc7
  case yc7=>(intro w hSw;(try dsimp only at hSw);go_simp;try with_reducible rfl)
  try simp only [aP]
  refine tkH 8 (some 15) ?vc8 rfl ?yc8 hS ?rc8
  case yc8=>(intro w hSw;(try dsimp only at hSw);have h0:=(HBT.1.below hSw.1 HBT.1.lt).cell 0;have h1:=(HBT.1.below hSw.1 HBT.1.lt).cell 1;have h2:=(HBT.1.below hSw.1 HBT.1.lt).cell 2;go_simp;try with_reducible rfl)
  try simp only [aP]
  refine tkH 9 (some 16) ?vc9 rfl ?yc9 hS ?rc9
  case yc9=>(intro w hSw;(try dsimp only at hSw);go_simp;try with_reducible rfl)
  try simp only [aP]
  refine tkH 10 (some 17) ?vc10 rfl ?yc10 hS ?rc10
  case yc10=>(intro w hSw;(try dsimp only at hSw);go_simp;try with_reducible rfl)
  try simp only [aP]
  refine tkH 11 (some 18) ?vc11 rfl ?yc11 hS ?rc11
  case yc11=>(intro w hSw;(try dsimp only at hSw);go_simp;try with_reducible rfl)
  try simp only [aP]
  refine tkH 12 (some 19) ?vc12 rfl ?yc12 hS ?rc12
  case yc12=>(intro w hSw;(try dsimp only at hSw);go_simp;try with_reducible rfl)
  try simp only [aP]
  refine tkH 13 (some 20) ?vc13 rfl ?yc13 hS ?rc13
  case yc13=>(intro w hSw;(try dsimp only at hSw);go_simp;try with_reducible rfl)
  try simp only [aP]
  refine tkH 14 (some 21) ?vc14 rfl ?yc14 hS ?rc14
  case yc14=>(intro w hSw;(try dsimp only at hSw);have h0:=(HBT.1.below hSw.1 HBT.1.lt).cell 0;have h1:=(HBT.1.below hSw.1 HBT.1.lt).cell 1;have h2:=(HBT.1.below hSw.1 HBT.1.lt).cell 2;go_simp;try with_reducible rfl)
  try simp only [aP]
  refine tkH 15 (some 22) ?vc15 rfl ?yc15 hS ?rc15
  case yc15=>(intro w hSw;(try dsimp only at hSw);go_simp;try with_reducible rfl)
  try simp only [aP]
  refine tkH 16 (some 23) ?vc16 rfl ?yc16 hS ?rc16
  case yc16=>(intro w hSw;(try dsimp only at hSw);go_simp;try with_reducible rfl)
  try simp only [aP]
  refine tkH 17 (some 24) ?vc17 rfl ?yc17 hS ?rc17
  case yc17=>(intro w hSw;(try dsimp only at hSw);go_simp;try with_reducible rfl)
  try simp only [aP]
  refine tkH 18 (some 25) ?vc18 rfl ?yc18 hS ?rc18
  case yc18=>(intro w hSw;(try dsimp only at hSw);have h0:=(HBT.1.below hSw.1 HBT.1.lt).cell 0;have h1:=(HBT.1.below hSw.1 HBT.1.lt).cell 1;have h2:=(HBT.1.below hSw.1 HBT.1.lt).cell 2;go_simp;try with_reducible rfl)
  try simp only [aP]
  refine tkH 19 (some 26) ?vc19 rfl ?yc19 hS ?rc19
  case yc19=>(intro w hSw;(try dsimp only at hSw);go_simp;try with_reducible rfl)
  try simp only [aP]
  refine tkH 20 (some 27) ?vc20 rfl ?yc20 hS ?rc20
  case yc20=>(intro w hSw;(try dsimp only at hSw);go_simp;try with_reducible rfl)
  try simp only [aP]
  refine tkH 21 (some 28) ?vc21 rfl ?yc21 hS ?rc21
  case yc21=>(intro w hSw;(try dsimp only at hSw);go_simp;try with_reducible rfl)
  try simp only [aP]
  refine wpAnyH_take (i:=22) (oi:=⟨some 29,_,_,_,_,_⟩) (v:=undef) rfl (by kernel_rfl) (by kernel_rfl) (by kernel_rfl) (fun _ _ _ h=>h) (Or.inr ⟨by rfl,rfl⟩) hS ?rc22
  case' rc22=>skip
  try simp only [aP]
  refine wpAnyH_take (i:=23) (oi:=⟨some 30,_,_,_,_,_⟩) (v:=undef) rfl (by kernel_rfl) (by kernel_rfl) (by kernel_rfl) (fun _ _ _ h=>h) (Or.inr ⟨by rfl,rfl⟩) hS ?rc23
  case' rc23=>skip
  try simp only [aP]
  refine wpAnyH_take (i:=24) (oi:=⟨some 31,_,_,_,_,_⟩) (v:=undef) rfl (by kernel_rfl) (by kernel_rfl) (by kernel_rfl) (fun _ _ _ h=>h) (Or.inr ⟨by rfl,rfl⟩) hS ?rc24
  case' rc24=>skip
  try simp only [aP]
  refine wpAnyH_take (i:=25) (oi:=⟨some 32,_,_,_,_,_⟩) (v:=undef) rfl (by kernel_rfl) (by kernel_rfl) (by kernel_rfl) (fun _ _ _ h=>h) (Or.inr ⟨by rfl,rfl⟩) hS ?rc25
  case' rc25=>skip
  try simp only [aP]
  refine wpAnyH_take (i:=26) (oi:=⟨some 33,_,_,_,_,_⟩) (v:=undef) rfl (by kernel_rfl) (by kernel_rfl) (by kernel_rfl) (fun _ _ _ h=>h) (Or.inr ⟨by rfl,rfl⟩) hS ?rc26
  case' rc26=>skip
  try simp only [aP]
  refine tkH 27 (some 34) ?vc27 rfl ?yc27 hS ?rc27
  case yc27=>(intro w hSw;(try dsimp only at hSw);go_simp;try with_reducible rfl)
  try simp only [aP]
  refine wpAnyH_done (by kernel_rfl) ?_ _
  refine NoPanic.normal ?_
  go_wp2_with fail
  go_ret
  exact rtp_no (HB0.1.trans (HS5.1.mono HB0.1.size))
 ·have e1:(en != (t.nodes.length:Int))=false:=by simp [q1]
  have e2:((t.names.length:Int)==0)=false:=by rw [beq_eq_false_iff_ne];omega
  have e3:((t.names.length:Int)-1 != t.groups)=false:=by simp [q3]
  obtain ⟨nb,noff,rfl,hnb,hnc⟩:=hnn q2
  obtain ⟨s0,hs0⟩:∃ s,t.names[0]?=some s:=⟨_,List.getElem?_eq_getElem q2⟩
  have hposn:(0:Int)<(t.names.length:Int):=by omega
  have HLAID:=hide (show Laid t.nodes from by
   have h0:=HEN.1
   rw [q1] at h0
   refine ⟨?_,h0⟩
   rcases Nat.eq_zero_or_pos t.nodes.length with h|h
   ·rw [endN_none (by omega)] at h0;omega
   ·exact h)
  have HNC:=hide hnc
  have HNB:=hide hnb
  have hn0:=HLAID.1.1
  have HNM0:=hide (hnc 0 s0 hs0)
  have HQ3:=hide q3
  clear q1 q3 hs0 hnc hnb hn
  go_enter Tryz.func7,Tryz.ntmps7
  go_wp2_with fail
  generalize hX:w.alloc (.cells #[.slice A t.nodes.length cap,.int .i64 t.groups,.slice (some ⟨nb,noff,none⟩) t.names.length cn] 30)=X at *
  have HX:=hide hX
  clear hX
  refine wp_region_noPanic ?_
  refine wp_region_held_drew (S:=fun wx=>Hd (Below X.heap.size X wx)) (by kernel_rfl) (show Hd (Below X.heap.size X _) from hide (Below.refl _ _).drew) (fun hS=>?_)
  have HNM:=hide (fun wy (hb:Below X.heap.size X wy)=>(((HB0.1.trans (hb.mono HB0.1.size))).cell (p:=⟨nb,noff+0,none⟩) (by show nb<_;have:=HNB.1;omega)).trans HNM0.1)
  rw [Nat.add_zero] at HNM
  by_cases hs:s0=[]
  ·subst hs
   refine tkH 0 (some 7) ?vd0 rfl ?yd0 hS ?rd0
   case yd0=>(intro w hSw;(try dsimp only at hSw);have h0:=(HBT.1.below hSw.1 HBT.1.lt).cell 0;have h1:=(HBT.1.below hSw.1 HBT.1.lt).cell 1;have h2:=(HBT.1.below hSw.1 HBT.1.lt).cell 2;go_simp;try with_reducible rfl)
   try simp only [aP]
   refine tkH 2 (some 9) ?vd2 rfl ?yd2 hS ?rd2
   case yd2=>(intro w hSw;(try dsimp only at hSw);go_simp;try with_reducible rfl)
   try simp only [aP]
   refine tkH 3 (some 10) ?vd3 rfl ?yd3 hS ?rd3
   case yd3=>(intro w hSw;(try dsimp only at hSw);have h0:=(HBT.1.below hSw.1 HBT.1.lt).cell 0;have h1:=(HBT.1.below hSw.1 HBT.1.lt).cell 1;have h2:=(HBT.1.below hSw.1 HBT.1.lt).cell 2;go_simp;try with_reducible rfl)
   try simp only [aP]
   refine tkH 4 (some 11) ?vd4 rfl ?yd4 hS ?rd4
   case yd4=>(intro w hSw;(try dsimp only at hSw);go_simp;try with_reducible rfl)
   try simp only [aP]
   refine wpAnyH_ready (rs:=[1]) (by kernel_rfl) (by simp) ?_
   refine AllReadyH.cons (o:=⟨some 8,_,_,_,_,_⟩) rfl (fun K hK=>?_) AllReadyH.nil
   go_simp
   refine (CE.1 _ (HB0.1.trans (hS.1.mono HB0.1.size))).mono ?_
   rintro e w5 ⟨rfl,hb⟩
   have HS5:=hide (hS.1.trans (hb.mono hS.1.size))
   clear hb
   go_wp2_with fail
   refine hK.out _ _ HS5 (fun hS=>?_)
   clear hK K
   try simp only [aP]
   refine tkH 5 (some 12) ?vd5 rfl ?yd5 hS ?rd5
   case yd5=>(intro w hSw;(try dsimp only at hSw);go_simp;try with_reducible rfl)
   try simp only [aP]
   refine tkH 6 (some 13) ?vd6 rfl ?yd6 hS ?rd6
   case yd6=>(intro w hSw;(try dsimp only at hSw);go_simp;try with_reducible rfl)
   try simp only [aP]
   refine tkH 7 (some 14) ?vd7 rfl ?yd7 hS ?rd7
   case yd7=>(intro w hSw;(try dsimp only at hSw);go_simp;try with_reducible rfl)
   try simp only [aP]
   refine tkH 8 (some 15) ?vd8 rfl ?yd8 hS ?rd8
   case yd8=>(intro w hSw;(try dsimp only at hSw);have h0:=(HBT.1.below hSw.1 HBT.1.lt).cell 0;have h1:=(HBT.1.below hSw.1 HBT.1.lt).cell 1;have h2:=(HBT.1.below hSw.1 HBT.1.lt).cell 2;go_simp;try with_reducible rfl)
   try simp only [aP]
   refine tkH 9 (some 16) ?vd9 rfl ?yd9 hS ?rd9
   case yd9=>(intro w hSw;(try dsimp only at hSw);go_simp;try with_reducible rfl)
   try simp only [aP]
   refine tkH 10 (some 17) ?vd10 rfl ?yd10 hS ?rd10
   case yd10=>(intro w hSw;(try dsimp only at hSw);go_simp;try with_reducible rfl)
   try simp only [aP]
   refine tkH 11 (some 18) ?vd11 rfl ?yd11 hS ?rd11
   case yd11=>(intro w hSw;(try dsimp only at hSw);go_simp;try with_reducible rfl)
   try simp only [aP]
   refine tkH 12 (some 19) ?vd12 rfl ?yd12 hS ?rd12
   case yd12=>(intro w hSw;(try dsimp only at hSw);go_simp;try with_reducible rfl)
   try simp only [aP]
   refine tkH 13 (some 20) ?vd13 rfl ?yd13 hS ?rd13
   case yd13=>(intro w hSw;(try dsimp only at hSw);go_simp;try with_reducible rfl)
   try simp only [aP]
   refine tkH 14 (some 21) ?vd14 rfl ?yd14 hS ?rd14
   case yd14=>(intro w hSw;(try dsimp only at hSw);have h0:=(HBT.1.below hSw.1 HBT.1.lt).cell 0;have h1:=(HBT.1.below hSw.1 HBT.1.lt).cell 1;have h2:=(HBT.1.below hSw.1 HBT.1.lt).cell 2;go_simp;try with_reducible rfl)
   try simp only [aP]
   refine tkH 15 (some 22) ?vd15 rfl ?yd15 hS ?rd15
   case yd15=>(intro w hSw;(try dsimp only at hSw);go_simp;try with_reducible rfl)
   try simp only [aP]
   refine tkH 16 (some 23) ?vd16 rfl ?yd16 hS ?rd16
   case yd16=>(intro w hSw;(try dsimp only at hSw);go_simp;try with_reducible rfl)
   try simp only [aP]
   refine tkH 17 (some 24) ?vd17 rfl ?yd17 hS ?rd17
   case yd17=>(intro w hSw;(try dsimp only at hSw);go_simp;try with_reducible rfl)
   try simp only [aP]
   refine tkH 18 (some 25) ?vd18 rfl ?yd18 hS ?rd18
   case yd18=>(intro w hSw;(try dsimp only at hSw);have h0:=(HBT.1.below hSw.1 HBT.1.lt).cell 0;have h1:=(HBT.1.below hSw.1 HBT.1.lt).cell 1;have h2:=(HBT.1.below hSw.1 HBT.1.lt).cell 2;go_simp;try with_reducible rfl)
   try simp only [aP]
   refine tkH 19 (some 26) ?vd19 rfl ?yd19 hS ?rd19
   case yd19=>(intro w hSw;(try dsimp only at hSw);go_simp;try with_reducible rfl)
   try simp only [aP]
   refine tkH 20 (some 27) ?vd20 rfl ?yd20 hS ?rd20
   case yd20=>(intro w hSw;(try dsimp only at hSw);go_simp;try with_reducible rfl)
   try simp only [aP]
   refine tkH 21 (some 28) ?vd21 rfl ?yd21 hS ?rd21
   case yd21=>(intro w hSw;(try dsimp only at hSw);go_simp;try with_reducible rfl)
   try simp only [aP]
   refine tkH 22 (some 29) ?vd22 rfl ?yd22 hS ?rd22
   case yd22=>(intro w hSw;(try dsimp only at hSw);go_simp;try with_reducible rfl)
   try simp only [aP]
   refine tkH 23 (some 30) ?vd23 rfl ?yd23 hS ?rd23
   case yd23=>(intro w hSw;(try dsimp only at hSw);have h0:=(HBT.1.below hSw.1 HBT.1.lt).cell 0;have h1:=(HBT.1.below hSw.1 HBT.1.lt).cell 1;have h2:=(HBT.1.below hSw.1 HBT.1.lt).cell 2;go_simp;try with_reducible rfl)
   try simp only [aP]
   refine tkH 24 (some 31) ?vd24 rfl ?yd24 hS ?rd24
   case yd24=>(intro w hSw;(try dsimp only at hSw);go_simp;try with_reducible rfl)
   try simp only [aP]
   refine tkH 25 (some 32) ?vd25 rfl ?yd25 hS ?rd25
   case yd25=>(intro w hSw;(try dsimp only at hSw);have h3:=(HNM.1 _ hSw.1);go_simp;try with_reducible rfl)
   try simp only [aP]
   refine tkH 26 (some 33) ?vd26 rfl ?yd26 hS ?rd26
   case yd26=>(intro w hSw;(try dsimp only at hSw);go_simp;try with_reducible rfl)
   try simp only [aP]
   refine tkH 27 (some 34) ?vd27 rfl ?yd27 hS ?rd27
   case yd27=>(intro w hSw;(try dsimp only at hSw);go_simp;try with_reducible rfl)
   try simp only [aP]
   refine wpAnyH_done (by kernel_rfl) ?_ _
   refine NoPanic.normal ?_
   have HLAID2:=HLAID
   have HBW5:=hide (HB0.1.trans (HS5.1.mono HB0.1.size))
   have HBT5:=hide (HBT.1.below HS5.1 HBT.1.lt)
   obtain ⟨b,off,tcap,An2,cn2,sv,kv,hve,hbB,h1,h2,hL,hKV⟩:=tree_lies HT0.1 hn0
   simp only [Value.agg.injEq,Array.mk.injEq,List.cons.injEq,Value.slice.injEq,true_and,and_true] at hve
   obtain ⟨⟨rfl,rfl⟩,-⟩:=hve
   have HL:=hide hL
   have HKV:=hide hKV
   have HSV:=hide (fun (k:Nat) nd (hk:t.nodes[k]?=some nd)=>sets_lie HT0.1 hL hk)
   have hbw:b<w.heap.size:=Nat.lt_of_lt_of_le hbB hB
   clear hL hKV HNM HNM0 HS5 HBT HX HB0 CE hS
   have t0:=HBT5.1.cell 0
   have t1:=HBT5.1.cell 1
   have t2:=HBT5.1.cell 2
   go_wp2_with fail
   clear t0 t1 t2
   go_loopw [3,4] (fun g i wr=>GRel t w5 g i wr) (fun _ i _=>t.nodes.length-(intOf i).toNat)
   case atStart=>exact ⟨0,0,by go_num,by go_num,Nat.le_refl _,Nat.zero_le _,Below.refl _ _,by simp⟩
   case round=>
    obtain ⟨k,cg,rfl,rfl,hck,hk,hbr,hal⟩:=hrel
    have hbrw:=HBW5.1.trans (hbr.mono HBW5.1.size)
    have hbt:=HBT5.1.below hbr HBT5.1.lt
    have HBR:=hide hbr
    have HBRW:=hide hbrw
    have HAL:=hide hal
    have HBTR:=hide hbt
    have hcg:(cg:Int)≤1000:=by omega
    obtain ⟨⟨t0,t1,t2⟩,-⟩:=cells3q hbt
    go_hideQ
    by_cases hlt:k<t.nodes.length
    ·obtain ⟨nd,hnd⟩:∃ nd,t.nodes[k]?=some nd:=⟨_,List.getElem?_eq_getElem hlt⟩
     obtain ⟨d0,d1,d2,d3,d4,d5,d6,d7,d8,d9⟩:=(HL.1.keep (hbrw.block b hbw)) k nd hnd
     have hkv:=HKV.1 k nd hnd
     have hsv:=HSV.1 k nd hnd
     have hki:(k:Int)<(t.nodes.length:Int):=by omega
     have hk0:(0:Int)≤(k:Int):=by omega
     have HIN1:=hide (hin nd (List.mem_of_getElem? hnd))
     generalize kv k=kx at *
     generalize sv k=sx at *
     obtain ⟨ka,kn,kc⟩:=kx
     obtain ⟨sa,sn,sc⟩:=sx
     obtain ⟨A9,cap9,e9,k1,k2,k3⟩:=hkv
     obtain ⟨A8,cap8,e8,l1,l2,l3⟩:=hsv
     simp only [Value.slice.injEq] at e9 e8
     obtain ⟨rfl,rfl,rfl⟩:=e9
     obtain ⟨rfl,rfl,rfl⟩:=e8
     have hbx:Below wr.heap.size wr (wr.alloc (.cells (ndq nd (.slice sa nd.set.length sc) (.slice ka nd.kids.length kc)) 54)):=(Below.refl _ _).alloc (Nat.le_refl _) _
     have hbxw:=hbrw.trans (hbx.mono hbrw.size)
     have HNB1:=hide (Blk.new wr 54 (ndq nd (.slice sa nd.set.length sc) (.slice ka nd.kids.length kc)))
     have CA:=hide (alone_any nd sa sc ka kc (wr.alloc (.cells (ndq nd (.slice sa nd.set.length sc) (.slice ka nd.kids.length kc)) 54)) ((l3.keep fun a ha=>hbxw.cell (by omega)).more (Nat.le_trans hB hbxw.size)) HIN1.1.1 HIN1.1.2)
     have HBX:=hide (hbr.trans (hbx.mono hbr.size))
     have HBTX:=hide (hbt.alloc (.cells (ndq nd (.slice sa nd.set.length sc) (.slice ka nd.kids.length kc)) 54))
     have HND:=hide hnd
     have HK3:=hide k3
     have hx:=cellsQ HNB1.1
     obtain ⟨x0,x1,x2,x3,x4,x5,x6,x7,x8,x9⟩:=hx
     clear hnd hbx hbxw k3 l3 hbr hbrw hbt hal
     go_wp2_with fail
     refine CA.1.mono ?_
     rintro e w6 ⟨⟨bq,rfl,hbq⟩,hb6⟩
     have HB6:=hide (HBX.1.trans (hb6.mono HBX.1.size))
     have HB6W:=hide (HBW5.1.trans (HB6.1.mono HBW5.1.size))
     have HT6:=hide (HBTX.1.below hb6 HBTX.1.lt)
     have HN6:=hide (HNB1.1.below hb6 HNB1.1.lt)
     have HBQ:=hide hbq
     clear hb6 hbq CA x0 x1 x2 x3 x4 x5 x6 x7 x8 x9 d0 d1 d2 d3 d4 d5 d6 d7 d8 d9 t0 t1 t2 HBTX HBX HNB1 HBR HBTR
     cases bq with
     | false=>
      go_wp2_with fail
      go_ret
      exact rtp_no HB6W.1
     | true=>
      have HOK:=hide (HBQ.1 rfl)
      obtain ⟨x0,x1,x2,x3,x4,x5,x6,x7,x8,x9⟩:=cellsQ HN6.1
      obtain ⟨⟨t0,t1,t2⟩,-⟩:=cells3q HT6.1
      go_wp2_with fail
      clear x0 x1 x2 x3 x4 x5 x6 x7 x8 x9 t0 t1 t2
      go_loopw [6] (fun i wr=>GKel nd.kids.length w6 i wr) (fun i _=>nd.kids.length-(intOf i).toNat)
      case atStart=>exact ⟨0,by go_num,Nat.zero_le _,Below.refl _ _⟩
      case round=>
       obtain ⟨j,rfl,hj,hbr⟩:=hrel
       have hbrw:=HB6W.1.trans (hbr.mono HB6W.1.size)
       have hbtr:=HT6.1.below hbr HT6.1.lt
       have hbnr:=HN6.1.below hbr HN6.1.lt
       have HBR:=hide hbr
       have HBRW2:=hide hbrw
       have HB6R:=hide (HB6.1.trans (hbr.mono HB6.1.size))
       obtain ⟨x0,x1,x2,x3,x4,x5,x6,x7,x8,x9⟩:=cellsQ hbnr
       obtain ⟨⟨t0,t1,t2⟩,-⟩:=cells3q hbtr
       go_hideQ
       by_cases hlj:j<nd.kids.length
       ·obtain ⟨qb,qo,rfl,hqb,hqc⟩:=kids_at2 HK3.1 (by omega)
        obtain ⟨y,hy⟩:∃ y,nd.kids[j]?=some y:=⟨_,List.getElem?_eq_getElem hlj⟩
        obtain ⟨m,rfl,hm1,hm,-⟩:=HLAID.1.kid HND.1 (List.mem_of_getElem? hy)
        obtain ⟨nk,hnk⟩:∃ nk,t.nodes[m]?=some nk:=⟨_,List.getElem?_eq_getElem hm⟩
        have c1:=(hbrw.cell (p:=⟨qb,qo+j,none⟩) (by show qb<_;omega)).trans (hqc j _ hy)
        obtain ⟨-,z1,z2,-⟩:=(HL.1.keep (hbrw.block b hbw)) m nk hnk
        have hji:(j:Int)<(nd.kids.length:Int):=by omega
        have hj0:(0:Int)≤(j:Int):=by omega
        have hmi:(m:Int)<(t.nodes.length:Int):=by omega
        have hm0:(0:Int)≤(m:Int):=by omega
        clear hy hqc hqb hbr hbrw hbtr hbnr hnk
        by_cases hf:nk.from_<nd.from_
        ·have g0:decide (nk.from_<nd.from_)=true:=decide_eq_true hf
         clear hf
         go_wp2_with fail
         go_quiet (fail)
         go_wp2_with fail
         go_ret
         exact rtp_no (below_drewN HBRW2.1 _)
        ·have g0:decide (nk.from_<nd.from_)=false:=decide_eq_false hf
         clear hf
         by_cases ht:nd.to_<nk.to_
         ·have g1:decide (nd.to_<nk.to_)=true:=decide_eq_true ht
          clear ht
          go_wp2_with fail
          go_quiet (fail)
          go_wp2_with fail
          go_ret
          exact rtp_no (below_drewN HBRW2.1 _)
         ·have g1:decide (nd.to_<nk.to_)=false:=decide_eq_false ht
          clear ht
          go_wp2_with fail
          go_quiet (fail)
          go_wp2_with fail
          first|go_roundw|refine ⟨?rel,?measure⟩
          case rel=>exact ⟨j+1,by go_num,by omega,below_drewN HBR.1 _⟩
          case measure=>simp [intOf];omega
       ·obtain rfl:j=nd.kids.length:=by omega
        have HAL1:=hide (show ∀ x∈t.nodes.take (k+1),AloneOk x from fun x hx=>by
         rw [List.take_succ_eq_append_getElem hlt,List.mem_append] at hx
         rcases hx with hx|hx
         ·exact HAL.1 x hx
         ·have e1:t.nodes[k]=nd:=by have:=HND.1;rw [List.getElem?_eq_getElem hlt] at this;simpa using this
          rw [List.mem_singleton,e1] at hx
          subst hx
          exact HOK.1)
        clear hbr hbrw hbtr hbnr
        by_cases h7:nd.kind=7
        ·have e7:(nd.kind==7)=true:=beq_iff_eq.2 h7
         have hwc:IntKind.i64.wrap ((cg:Int)+1)=(cg:Int)+1:=wrap_id _ (by omega) (by omega)
         clear h7
         by_cases g1:nd.num=(cg:Int)+1
         ·have e1:(nd.num != (cg:Int)+1)=false:=by simp [g1]
          by_cases g2:t.groups<(cg:Int)+1
          ·have e2:decide (t.groups<(cg:Int)+1)=true:=decide_eq_true g2
           clear g1 g2
           go_wp2_with fail
           go_quiet (fail)
           go_wp2_with fail
           go_ret
           exact rtp_no (below_drewN HBRW2.1 _)
          ·have e2:decide (t.groups<(cg:Int)+1)=false:=decide_eq_false g2
           obtain ⟨s1,hs1⟩:∃ s,t.names[cg+1]?=some s:=⟨_,List.getElem?_eq_getElem (by have:=HQ3.1;omega)⟩
           have c1:=(HBRW2.1.cell (p:=⟨nb,noff+(cg+1),none⟩) (by show nb<_;have:=HNB.1;omega)).trans (HNC.1 (cg+1) s1 hs1)
           have hci:(cg:Int)+1<(t.names.length:Int):=by have:=HQ3.1;omega
           have hc0:(0:Int)≤(cg:Int)+1:=by omega
           have hct:((cg:Int)+1).toNat=cg+1:=by omega
           clear g1 g2 hs1
           by_cases hs:s1=nd.name
           ·have e3:(s1==nd.name)=true:=by simp [hs]
            have e3':(s1 != nd.name)=false:=by simp [hs]
            clear hs
            go_wp2_with fail
            go_quiet (fail)
            go_wp2_with fail
            first|go_roundw|refine ⟨?rel,?measure⟩
            case rel=>exact ⟨k+1,cg+1,by go_num,by go_num,by omega,by omega,below_drewN HB6R.1 _,HAL1.1⟩
            case measure=>simp [intOf];omega
           ·have e3:(s1==nd.name)=false:=by simp [hs]
            have e3':(s1 != nd.name)=true:=by simp [hs]
            clear hs
            go_wp2_with fail
            go_quiet (fail)
            go_wp2_with fail
            go_ret
            exact rtp_no (below_drewN HBRW2.1 _)
         ·have e1:(nd.num != (cg:Int)+1)=true:=by simp [g1]
          clear g1
          go_wp2_with fail
          go_quiet (fail)
          go_wp2_with fail
          go_ret
          exact rtp_no (below_drewN HBRW2.1 _)
        ·have e7:(nd.kind==7)=false:=beq_eq_false_iff_ne.2 h7
         clear h7
         go_wp2_with fail
         have hR:GRel t w5 (.int .i64 (cg:Int)) (.int .i64 ((k:Int)+1)) _:=⟨k+1,cg,by go_num,by go_num,by omega,by omega,HB6R.1,HAL1.1⟩
         first|go_roundw|refine ⟨?rel,?measure⟩
         case rel=>exact hR
         case measure=>simp [intOf];omega
    ·obtain rfl:k=t.nodes.length:=by omega
     have HR:=hide (show RtOk t from ⟨HLAID.1,by have:=HAL.1;rwa [List.take_length] at this,HQ3.1⟩)
     clear hbr hbrw hbt hal
     go_wp2_with fail
     go_ret
     exact rtp_may HBRW.1 HR.1
  ·have hs1:(s0==[])=false:=by simp [hs]
   refine tkH 0 (some 7) ?ve0 rfl ?ye0 hS ?re0
   case ye0=>(intro w hSw;(try dsimp only at hSw);have h0:=(HBT.1.below hSw.1 HBT.1.lt).cell 0;have h1:=(HBT.1.below hSw.1 HBT.1.lt).cell 1;have h2:=(HBT.1.below hSw.1 HBT.1.lt).cell 2;go_simp;try with_reducible rfl)
   try simp only [aP]
   refine tkH 2 (some 9) ?ve2 rfl ?ye2 hS ?re2
   case ye2=>(intro w hSw;(try dsimp only at hSw);go_simp;try with_reducible rfl)
   try simp only [aP]
   refine tkH 3 (some 10) ?ve3 rfl ?ye3 hS ?re3
   case ye3=>(intro w hSw;(try dsimp only at hSw);have h0:=(HBT.1.below hSw.1 HBT.1.lt).cell 0;have h1:=(HBT.1.below hSw.1 HBT.1.lt).cell 1;have h2:=(HBT.1.below hSw.1 HBT.1.lt).cell 2;go_simp;try with_reducible rfl)
   try simp only [aP]
   refine tkH 4 (some 11) ?ve4 rfl ?ye4 hS ?re4
   case ye4=>(intro w hSw;(try dsimp only at hSw);go_simp;try with_reducible rfl)
   try simp only [aP]
   refine wpAnyH_ready (rs:=[1]) (by kernel_rfl) (by simp) ?_
   refine AllReadyH.cons (o:=⟨some 8,_,_,_,_,_⟩) rfl (fun K hK=>?_) AllReadyH.nil
   go_simp
   refine (CE.1 _ (HB0.1.trans (hS.1.mono HB0.1.size))).mono ?_
   rintro e w5 ⟨rfl,hb⟩
   have HS5:=hide (hS.1.trans (hb.mono hS.1.size))
   clear hb
   go_wp2_with fail
   refine hK.out _ _ HS5 (fun hS=>?_)
   clear hK K
   try simp only [aP]
   refine tkH 5 (some 12) ?ve5 rfl ?ye5 hS ?re5
   case ye5=>(intro w hSw;(try dsimp only at hSw);go_simp;try with_reducible rfl)
   try simp only [aP]
   refine tkH 6 (some 13) ?ve6 rfl ?ye6 hS ?re6
   case ye6=>(intro w hSw;(try dsimp only at hSw);go_simp;try with_reducible rfl)
   try simp only [aP]
   refine tkH 7 (some 14) ?ve7 rfl ?ye7 hS ?re7
   case ye7=>(intro w hSw;(try dsimp only at hSw);go_simp;try with_reducible rfl)
   try simp only [aP]
   refine tkH 8 (some 15) ?ve8 rfl ?ye8 hS ?re8
   case ye8=>(intro w hSw;(try dsimp only at hSw);have h0:=(HBT.1.below hSw.1 HBT.1.lt).cell 0;have h1:=(HBT.1.below hSw.1 HBT.1.lt).cell 1;have h2:=(HBT.1.below hSw.1 HBT.1.lt).cell 2;go_simp;try with_reducible rfl)
   try simp only [aP]
   refine tkH 9 (some 16) ?ve9 rfl ?ye9 hS ?re9
   case ye9=>(intro w hSw;(try dsimp only at hSw);go_simp;try with_reducible rfl)
   try simp only [aP]
   refine tkH 10 (some 17) ?ve10 rfl ?ye10 hS ?re10
   case ye10=>(intro w hSw;(try dsimp only at hSw);go_simp;try with_reducible rfl)
   try simp only [aP]
   refine tkH 11 (some 18) ?ve11 rfl ?ye11 hS ?re11
   case ye11=>(intro w hSw;(try dsimp only at hSw);go_simp;try with_reducible rfl)
   try simp only [aP]
   refine tkH 12 (some 19) ?ve12 rfl ?ye12 hS ?re12
   case ye12=>(intro w hSw;(try dsimp only at hSw);go_simp;try with_reducible rfl)
   try simp only [aP]
   refine tkH 13 (some 20) ?ve13 rfl ?ye13 hS ?re13
   case ye13=>(intro w hSw;(try dsimp only at hSw);go_simp;try with_reducible rfl)
   try simp only [aP]
   refine tkH 14 (some 21) ?ve14 rfl ?ye14 hS ?re14
   case ye14=>(intro w hSw;(try dsimp only at hSw);have h0:=(HBT.1.below hSw.1 HBT.1.lt).cell 0;have h1:=(HBT.1.below hSw.1 HBT.1.lt).cell 1;have h2:=(HBT.1.below hSw.1 HBT.1.lt).cell 2;go_simp;try with_reducible rfl)
   try simp only [aP]
   refine tkH 15 (some 22) ?ve15 rfl ?ye15 hS ?re15
   case ye15=>(intro w hSw;(try dsimp only at hSw);go_simp;try with_reducible rfl)
   try simp only [aP]
   refine tkH 16 (some 23) ?ve16 rfl ?ye16 hS ?re16
   case ye16=>(intro w hSw;(try dsimp only at hSw);go_simp;try with_reducible rfl)
   try simp only [aP]
   refine tkH 17 (some 24) ?ve17 rfl ?ye17 hS ?re17
   case ye17=>(intro w hSw;(try dsimp only at hSw);go_simp;try with_reducible rfl)
   try simp only [aP]
   refine tkH 18 (some 25) ?ve18 rfl ?ye18 hS ?re18
   case ye18=>(intro w hSw;(try dsimp only at hSw);have h0:=(HBT.1.below hSw.1 HBT.1.lt).cell 0;have h1:=(HBT.1.below hSw.1 HBT.1.lt).cell 1;have h2:=(HBT.1.below hSw.1 HBT.1.lt).cell 2;go_simp;try with_reducible rfl)
   try simp only [aP]
   refine tkH 19 (some 26) ?ve19 rfl ?ye19 hS ?re19
   case ye19=>(intro w hSw;(try dsimp only at hSw);go_simp;try with_reducible rfl)
   try simp only [aP]
   refine tkH 20 (some 27) ?ve20 rfl ?ye20 hS ?re20
   case ye20=>(intro w hSw;(try dsimp only at hSw);go_simp;try with_reducible rfl)
   try simp only [aP]
   refine tkH 21 (some 28) ?ve21 rfl ?ye21 hS ?re21
   case ye21=>(intro w hSw;(try dsimp only at hSw);go_simp;try with_reducible rfl)
   try simp only [aP]
   refine tkH 22 (some 29) ?ve22 rfl ?ye22 hS ?re22
   case ye22=>(intro w hSw;(try dsimp only at hSw);go_simp;try with_reducible rfl)
   try simp only [aP]
   refine tkH 23 (some 30) ?ve23 rfl ?ye23 hS ?re23
   case ye23=>(intro w hSw;(try dsimp only at hSw);have h0:=(HBT.1.below hSw.1 HBT.1.lt).cell 0;have h1:=(HBT.1.below hSw.1 HBT.1.lt).cell 1;have h2:=(HBT.1.below hSw.1 HBT.1.lt).cell 2;go_simp;try with_reducible rfl)
   try simp only [aP]
   refine tkH 24 (some 31) ?ve24 rfl ?ye24 hS ?re24
   case ye24=>(intro w hSw;(try dsimp only at hSw);go_simp;try with_reducible rfl)
   try simp only [aP]
   refine tkH 25 (some 32) ?ve25 rfl ?ye25 hS ?re25
   case ye25=>(intro w hSw;(try dsimp only at hSw);have h3:=(HNM.1 _ hSw.1);go_simp;try with_reducible rfl)
   try simp only [aP]
   refine tkH 26 (some 33) ?ve26 rfl ?ye26 hS ?re26
   case ye26=>(intro w hSw;(try dsimp only at hSw);go_simp;try with_reducible rfl)
   try simp only [aP]
   refine tkH 27 (some 34) ?ve27 rfl ?ye27 hS ?re27
   case ye27=>(intro w hSw;(try dsimp only at hSw);go_simp;try with_reducible rfl)
   try simp only [aP]
   refine wpAnyH_done (by kernel_rfl) ?_ _
   refine NoPanic.normal ?_
   go_wp2_with fail
   go_ret
   exact rtp_no (HB0.1.trans (HS5.1.mono HB0.1.size))
end
end Go.Proofs.YtmlbklcmblofkaaGreatDoor.Rt
