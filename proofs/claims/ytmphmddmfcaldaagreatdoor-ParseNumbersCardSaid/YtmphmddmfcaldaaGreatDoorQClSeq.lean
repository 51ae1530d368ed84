/-
  class.ranges and its closure, walked: a function value that hands the ranges whose ends a text tells, in order
-/
import Derived.RangeFuncBox
import Derived.RangeFuncNested
import Derived.RangeFuncLeaves
import Derived.RangeFuncBound
import Derived.RangeFuncCalls
import Derived.Shelf.Abstract
import Derived.OwnWalkIn
import Derived.TacticsInMore
import Derived.LoopNIn
import Derived.LoopIn
import Derived.Shelf.AbstractIn
import Derived.Laws.ByValue
import Derived.Deep.DeepMust
import Derived.Test.YtmphmddmfcaldaaGreatDoorQRsA
import Derived.Test.YtmphmddmfcaldaaGreatDoorQClB
set_option linter.unusedSimpArgs false
set_option linter.unusedVariables false
set_option maxHeartbeats 2000000
set_option maxRecDepth 100000
namespace Go.Proofs.YtmphmddmfcaldaaGreatDoor.Cl
open Go.RowKit Go.Shelf Mem Rs
attribute [local go_sem] Oper.semAt_some build_range run_not_true run_not_false
variable {K:Nat→Prop}
def Stays (K:Nat→Prop) (A B:World):Prop:=∀ k,K k→B.heap[k]?=A.heap[k]?
theorem Stays.refl (K:Nat→Prop) (A:World):Stays K A A:=fun _ _=>rfl
theorem Stays.trans {K:Nat→Prop} {A B C:World} (h:Stays K A B) (k:Stays K B C):Stays K A C:=fun i hi=>(k i hi).trans (h i hi)
theorem Stays.of_below {A B:World} {N:Nat} (h:Below N A B) (hK:∀ k,K k→k<N):Stays K A B:=fun k hk=>h.block k (hK k hk)
def Keeps (K:Nat→Prop) (A B:World):Prop:=Stays K A B∧A.heap.size≤B.heap.size
theorem keeps_t {A B C:World} (h:Keeps K A B) (k:Keeps K B C):Keeps K A C:=⟨h.1.trans k.1,Nat.le_trans h.2 k.2⟩
theorem keeps_b {w:World} (hK:∀ k,K k→k<w.heap.size) (W:World) (l:Nat) (o o':Obj) (hl:w.heap.size≤l) (h:W.heap[l]?=some o) (_:o.isCells=false) (_:o.isWalk=false):Keeps K W (W.putObj l o'):=
 ⟨fun k hk=>World.putObj_heap_other (by have:=hK k hk;omega),by have:=(grownBy_putObj' W l o').size;exact this⟩
theorem pre_step {l:List R} {k:Nat} {r:R} (hr:l[k]?=some r):l.take (k+1)=l.take k++[r]:=by
 obtain ⟨hlt,e⟩:=List.getElem?_eq_some_iff.1 hr
 rw [List.take_succ_eq_append_getElem hlt,e]
def RRel (l:List R) (K:Nat→Prop) (J:List R→World→Prop) (W:World) (i:Value) (wr:World):Prop:=∃ (k:Nat),i=.int .i64 (2*(k:Int))∧k≤l.length∧J (l.take k) wr∧Stays K W wr∧W.heap.size≤wr.heap.size
theorem ranges1_in (n:Nat) (hn:1≤n) (lb Bs:Nat) (e:ByteArray) (l:List R) (hE:EndsOf e l) (hl:l.length≤100000) (K:Nat→Prop) (hKs:K Bs)
  (J Jx:List R→World→Prop) (W:World) (hJ:AbidesFrom W.heap.size J) (hK:∀ k,K k→k<W.heap.size)
  (hY:∀ pre x W1,J pre W1→pre.length<l.length→YieldAt Fence.wide (n-1) Tryz.prog lb #[.agg #[.int .i64 x.1,.int .i64 x.2]] W1 fun e W'=>
   (e=.returned (.bool true)∧J (pre++[x]) W'∧(Stays K W1 W'∧W1.heap.size≤W'.heap.size))∨(e=.returned (.bool false)∧Jx (pre++[x]) W'))
  (hbox:Boxed W Bs 9 (.string e)) (h0:J [] W) :
  CallsIn Fence.wide n Tryz.prog 153 #[.func (.yield lb) #[] #[],.pointer (some ⟨Bs,0,none⟩)] W fun e W'=>(∃ v,e=.returned v) ∧
   ((∃ ys,ys=l∧J ys W')∨(∃ pre,pre <+: l∧Jx pre W')):=by
 refine callsIn_of_wp Tryz.func153 rfl trivial ?_ rfl
 simp only [Tryz.ntmps153,List.size_toArray,List.length_cons,List.length_nil,Nat.reduceAdd,Nat.reduceSub,Array.replicate_succ,Array.replicate_zero,List.push_toArray,List.append_toArray,List.nil_append,List.cons_append]
 have HK:=hide hK
 have HJ:=hide hJ
 have HB:=hide hbox
 have HY:=hide hY
 have HE:=hide hE
 clear hK hJ hbox hY hE
 gi_wp2
 gi_loopw [3] (fun i wr=>RRel l K J W i wr) (fun i _=>2*l.length-(intOf i).toNat)
 case atStart=>exact ⟨0,rfl,Nat.zero_le _,h0,Stays.refl _ _,Nat.le_refl _⟩
 case round=>
  obtain ⟨k,rfl,hk,hJs,hst,hsz⟩:=hrel
  have hbx:Boxed wr Bs 9 (.string e):=(hst _ hKs).trans HB.1
  have hc:=hbx.cell
  have hsize:=HE.1.size
  gi_hideQ
  by_cases hlt:k<l.length
  ·obtain ⟨r,hr⟩:∃ r,l[k]?=some r:=⟨_,List.getElem?_eq_getElem hlt⟩
   have hlo:=HE.1.lo k r hr
   have hhi:=HE.1.hi k r hr
   have hby:=HE.1.byt r (List.mem_of_getElem? hr)
   have hlt':2*(k:Int)+1<(e.size:Int):=by omega
   have hpf:=hide (show l.take k++[r] <+: l from by rw [← pre_step hr];exact List.take_prefix _ _)
   have hps:=hide (show (l.take k).length<l.length by rw [List.length_take];omega)
   have HST:=hide hst
   have HJs:=hide hJs
   have HN:=hide (pre_step hr)
   clear hr hst hJs hbx
   obtain ⟨lo,hi⟩:=r
   simp only at hlo hhi hby
   have w1:IntKind.i64.wrap lo=lo:=wrap_id _ (by omega) (by omega)
   have w2:IntKind.i64.wrap hi=hi:=wrap_id _ (by omega) (by omega)
   have w5:IntKind.i64.wrap (2*(k:Int)+1)=2*(k:Int)+1:=wrap_id _ (by omega) (by omega)
   clear hby
   gi_wp2_with fail
   refine RegTail.wpIn_region_still_tail 11 (by kernel_rfl) (by kernel_rfl) ?_
   simp only [List.take_succ_cons,List.take_zero,List.drop_succ_cons,List.drop_zero]
   have hc2:({ wr with drawn:=wr.drawn+1 }:World).cell? ⟨Bs,0,none⟩=some (.string e):=hc
   have hJ1:J (l.take k) ({ wr with drawn:=wr.drawn+1 }:World):=HJ.1 _ _ _ none HJs.1 (below_iff.1 (Below.refl wr.heap.size wr).drew) (by simp)
   have HSZ:=hide (show W.heap.size≤({ wr with drawn:=wr.drawn+1 }:World).heap.size from hsz)
   have HST1:=hide (show Stays K W ({ wr with drawn:=wr.drawn+1 }:World) from HST.1)
   generalize ({ wr with drawn:=wr.drawn+1 }:World)=wd at *
   have HY2:=hide (HY.1 (l.take k) (lo,hi) wd hJ1 hps.1)
   clear hJ1 hc
   repeat still_step
   refine wpStill_nil ?_
   obtain ⟨fn,tmps,assign,body,hy,hR⟩:=HY2.1
   clear HY2
   gi_wp2_with fail
   refine hR.mono ?_
   rintro e' W3 (⟨rfl,hJ3,hk3,hz3⟩|⟨rfl,hJx3⟩)
   ·clear hy hR
    gi_wp2
    have hR:RRel l K J W (.int .i64 (2*(k:Int)+2)) W3:=⟨k+1,by go_num,by omega,by rw [HN.1];exact hJ3,HST1.1.trans hk3,Nat.le_trans HSZ.1 hz3⟩
    refine ⟨?rel,?measure⟩
    case rel=>first|exact hR|exact ⟨_,_,_,_,_,_,_,_,_,_,_,_,_,_,_,_,_,_,_,_,_,hR,rfl⟩
    case measure=>simp [intOf];omega
   ·clear hy hR
    gi_wp2
    refine bodyPost_ret (results_none rfl _ _ _) rfl ?_
    exact ⟨⟨_,rfl⟩,.inr ⟨_,hpf.1,hJx3⟩⟩
  ·obtain rfl:k=l.length:=by omega
   rw [List.take_length] at hJs
   have hlt':(e.size:Int)≤2*((l.length:Nat):Int)+1:=by omega
   have HJs:=hide hJs
   clear hJs hst
   gi_wp2
   go_end0
   exact ⟨⟨_,rfl⟩,.inl ⟨_,by rfl,HJs.1⟩⟩
theorem ranges_any (e:ByteArray) (w:World) :
  Calls Tryz.prog 143 #[.string e] w fun x w'=>x=.returned (.func (.func 153) #[] #[.pointer (some ⟨w.heap.size,0,none⟩)])∧w'=w.alloc (.cells #[.string e] 9):=by
 go_enter Tryz.func143,Tryz.ntmps143
 go_wp2
 go_ret
 exact ⟨rfl,rfl⟩
theorem ranges_stops (n:Nat) (hn:1≤n) (Bs:Nat) (e:ByteArray) (l:List R) (hE:EndsOf e l) (hl:l.length≤100000) (K:Nat→Prop) (hKs:K Bs)
  (w:World) (hK:∀ k,K k→k<w.heap.size) (hbox:Boxed w Bs 9 (.string e)) :
  SeqStopsK Fence.wide n Tryz.prog 153 #[.pointer (some ⟨Bs,0,none⟩)] (fun x:R=>#[.agg #[Value.int .i64 x.1,Value.int .i64 x.2]]) (Keeps K) (fun ys=>ys=l)
   (fun pre=>pre <+: l) l.length w:=fun lb J Jx W hW hJ _ hY h0=>by
 have hs:Stays K w W:=Stays.of_below hW hK
 exact ranges1_in n hn lb Bs e l hE hl K hKs J Jx W hJ (fun k hk=>Nat.lt_of_lt_of_le (hK k hk) hW.size) hY ((hs _ hKs).trans hbox) h0
theorem wpListIn_append_at {F:Fence} {n:Nat} {P:Program} (w:World) {ops:Array Oper} {rest:List Oper} {o:Oper} {a:Act} {Q:Exit→Act→World→Prop}
  (hg:o.guard=none) (s x:Operand) (t:TypeId) (hop:o.op=Op.call { callee:=Callee.builtin Builtin.append,args:=#[s,x],argTypes:=#[t,t] })
  (base:Nat) (e:TypeId) (i:TypeInfo) (z:Value) (size bytes:Nat) (h1:P.underlying t=some (.slice e)) (h2:P.info? e=some i) (h3:i.zero=some z) (h4:i.size=size) (h5:i.bytes=bytes) (h6:z.cells.size=size) (h7:0<size)
  (v:Value) (k:Nat) (xs:List Value) (hs:a.eval s=v) (hown:w.ownsRow base e size v k xs) (ad:Addr) (m c:Nat) (news:List Value) (hx:a.eval x=.slice (some ad) m c) (hn:news.length=m*size)
  (hc:∀ j u,news[j]?=some u→w.cell? (ad.add j)=some u) (h1c:∀ u∈news,u.oneCell'=true) (b1:k+m≤maxLen) (b2:(k+m)*bytes≤140737488355328) (b3:base≤w.heap.size)
  (hK:∀ v' w',w'.ownsRow base e size v' (k+m) (xs++news)→w.grownBy w' v.ownBlock→(v'.ownBlock=v.ownBlock∨v'.ownBlock=some w.heap.size)→wpListIn F n P ops Q rest (a.put o.dst v') w') :
  wpListIn F n P ops Q (o :: rest) a w:=by
 refine wpListIn_plain hg fun K hK'=>?_
 obtain ⟨v',w',hrun,r1,r2,_,r3⟩:=run_append_own_at (P:=P) w base t o.type e i z size bytes h1 h2 h3 h4 h5 h6 h7 v k xs hown ad m c news hn hc h1c b1 b2 b3
 unfold Oper.wpIn
 refine ⟨?_,?_⟩
 ·simp [Oper.about,hop,resolve,Target.leads,Sem.run_pure]
 ·rw [Oper.semAt_plain F _ _ (by rw [hop];intro c hc';cases hc')]
  simp [execOp,hop,resolve,invoke,builtin,hs,hx,hrun,Result.andThen]
  exact hK' _ _ (hK v' w' r1 r2 r3)
def AInv (w:World) (pre:List R) (W:World):Prop:=
 (∃ v,Boxed W w.heap.size 31 v∧W.ownsRow w.heap.size 65 2 v pre.length (flat pre)∧True)∧Below w.heap.size w W
theorem ainv_own (w:World) (C:Nat) (hC:w.heap.size≤C):OwnFrom C (AInv w):=
 OwnFrom.and (Own.from (holdsRow_own w.heap.size w.heap.size 31 65 2 (fun pre:List R=>pre.length) (fun pre=>flat pre) (fun _ v=>True)) _) (ownFrom_below (Nat.le_refl _) hC)
theorem flat_snoc (pre:List R) (x:R):flat (pre++[x])=flat pre++[.int .i64 x.1,.int .i64 x.2]:=by rw [flat_append];rfl
theorem pair_new (W:World) (x:R):∀ (j:Nat) (u:Value),[Value.int .i64 x.1,Value.int .i64 x.2][j]?=some u→(W.alloc (.cells #[.int .i64 x.1,.int .i64 x.2] 65)).cell? ((⟨W.heap.size,0,none⟩:Addr).add j)=some u:=fun j u hj=>by
 rw [add_flat,Nat.zero_add]
 refine ((Blk.new W 65 #[.int .i64 x.1,.int .i64 x.2]).cell j).trans ?_
 simpa using hj
theorem blk_own (p:Nat) (t:TypeId) (cs:Array Value) (C:Nat):OwnFrom C (fun (_:Unit) W=>Blk W p t cs):=fun _ X Y row hs hg hr=>
 hs.grown hg (fun e=>by obtain ⟨-,o,ho,hc⟩:=hr p e.symm;rw [show X.heap[p]?=_ from hs] at ho;cases ho;cases hc)
def ASlots (Bs:Nat) (w:World) (x:R) (p:Nat):Act:=
 { tmps:=#[.slice none 0 0,.func (.func 153) #[] #[.pointer (some ⟨Bs,0,none⟩)],.pointer (some ⟨w.heap.size,0,none⟩),undef,.slice none 0 0,.pointer (some ⟨p,0,none⟩),.func (.func 153) #[] #[.pointer (some ⟨Bs,0,none⟩)],.agg #[.int .i64 x.1,.int .i64 x.2],undef,undef,undef,undef,undef],defers:=[] }
def AAx (Bs:Nat) (w:World) (x:R) (a:Act) (W:World):Prop:=∃ p,a=ASlots Bs w x p∧Blk W p 65 #[.int .i64 x.1,.int .i64 x.2]
theorem aax_own (Bs:Nat) (w:World) (C:Nat) (x:R) (a:Act):OwnFrom C (fun (_:Unit) W=>AAx Bs w x a W):=fun s X Y row hs hg hr=>by
 obtain ⟨p,e,hb⟩:=hs
 exact ⟨p,e,blk_own p _ _ C s X Y row hb hg hr⟩
theorem ainv_step {w W w1:World} {pre:List R} {x:R} {v v':Value} {tmp:Obj} (hv:Boxed W w.heap.size 31 v)
  (hrow:W.ownsRow w.heap.size 65 2 v pre.length (flat pre)) (hB:Below w.heap.size w W)
  (hown':w1.ownsRow w.heap.size 65 2 v' (pre.length+1) (flat pre++[.int .i64 x.1,.int .i64 x.2])) (hgrow:(W.alloc tmp).grownBy w1 v.ownBlock) :
  KeepsOthers W (w1.setCell ⟨w.heap.size,0,none⟩ v')∧Keeps (fun k=>k<w.heap.size) W (w1.setCell ⟨w.heap.size,0,none⟩ v')∧AInv w (pre++[x]) (w1.setCell ⟨w.heap.size,0,none⟩ v'):=by
 have hz:=hB.size
 obtain ⟨hv1,hv2,hr2,hk2,hb2⟩:=hv.appended (by decide) hrow (by omega) (Nat.le_refl _) hown' hgrow
 refine ⟨hk2,⟨fun k hk=>hb2.block k hk,hb2.size⟩,⟨_,hv2,?_,trivial⟩,hB.trans hb2⟩
 rw [flat_snoc,List.length_append]
 exact hr2
theorem append_ranges (Bs:Nat) (e:ByteArray) (l:List R) (hE:EndsOf e l) (hl:l.length≤100000) (w:World) (hbx0:Boxed w Bs 9 (.string e)) :
  Calls Tryz.prog 171 #[.slice none 0 0,.func (.func 153) #[] #[.pointer (some ⟨Bs,0,none⟩)]] w fun x W'=>∃ v,x=.returned v∧Cut w l v W':=by
 refine (callsIn_wide (n:=3)).1 ?_
 obtain ⟨i0,hi,hz0,hz1,hz2⟩:=info_parts info_range
 refine callsIn_of_wp_marks Tryz.func171 rfl trivial ?_ rfl
 simp only [Tryz.ntmps171,List.size_toArray,List.length_cons,List.length_nil,Nat.reduceAdd,Nat.reduceSub,Array.replicate_succ,Array.replicate_zero,List.push_toArray,List.append_toArray,List.nil_append,List.cons_append]
 have hlt:=hbx0.lt
 gi_wp2_with fail
 have bO:=Boxed.new w 31 (.slice none 0 0)
 have hB0:Below w.heap.size w (w.alloc (.cells #[.slice none 0 0] 31)):=(Below.refl _ w).alloc (Nat.le_refl _) _
 have hKlt:∀ k,k<w.heap.size→k<(w.alloc (.cells #[.slice none 0 0] 31)).heap.size:=fun k hk=>by simp;omega
 refine wpIn_rangeFunc_ownH rfl (by omega) (gf:=153) (lb:=#[.pointer (some ⟨Bs,0,none⟩)]) rfl trivial (enters_of Tryz.func153 (by kernel_rfl) rfl)
  (ranges_stops (3-1) (by omega) Bs e l hE hl (fun k=>k<w.heap.size) hlt _ hKlt (hbx0.alloc _)) keeps_t (keeps_b hKlt) (Below.refl _ _) (fun _=>rfl)
  (AInv w)
  (fun _ _ _=>False)
  (ainv_own w _ (by simp))
  (fun _ _ _ _ _ hs _ _=>hs)
  ⟨⟨_,bO,World.ownsRow_nil _ _ _ _,trivial⟩,hB0⟩
  (AAx Bs w) (fun x a'=>aax_own Bs w _ x a') ?assign ?body ?done ?stop
 case assign=>
  intro lp pre x W K hI hK
  have hz:=hI.2.size
  have hk:=hide (hK (ASlots Bs w x W.heap.size) (W.alloc (.cells #[.int .i64 x.1,.int .i64 x.2] 65)) ((KeepsOthers.alloc _ _).from _) ⟨fun k hk=>((Below.refl W.heap.size W).alloc (Nat.le_refl _) _).block k (by omega),by simp⟩
   ((ainv_own w w.heap.size (Nat.le_refl _)).alloc _ hI) ⟨_,rfl,Blk.new _ _ _⟩)
  clear hK hI
  gi_wp2
  exact hk.1
 case body=>
  rintro lp pre x a' W _ _ ⟨⟨v,hv,hrow,-⟩,hB⟩ ⟨p,rfl,hblk⟩ hlt
  have hc:=hv.cell
  have d0:=hblk.cell 0
  have d1:=hblk.cell 1
  have hmx:pre.length+1≤maxLen:=by unfold maxLen;omega
  unfold ASlots
  gi_wp2_with (gi_at_builtin;refine wpListIn_append_at _ rfl _ _ 31 rfl w.heap.size 65 i0 (.agg #[.int .i64 0,.int .i64 0]) 2 16 Tryz.underlying31 hi hz0 hz1 hz2 rfl (by decide) _ _ _ rfl (hrow.alloc _) ⟨W.heap.size,0,none⟩ 1 1 [.int .i64 x.1,.int .i64 x.2] rfl rfl (pair_new W x) (by simp [Value.oneCell']) (by omega) (by omega) (by have:=hB.size;simp;omega) ?_;intro v' w1 hown' hgrow hnew;obtain ⟨g',cap',rfl⟩:=ownsRow_succ hown';obtain ⟨hv1,-,-,-,-⟩:=hv.appended (by decide) hrow (by have:=hB.size;omega) (Nat.le_refl _) hown' hgrow;have hc1:=hv1.cell;have hf1:=hv1.frozen;have HS:=hide (ainv_step (x:=x) hv hrow hB hown' hgrow))
  have h:=HS.1
  exact ⟨h.1.from _,h.2⟩
 case done=>
  rintro D ys W hD rfl ⟨⟨v,hv,hrow,-⟩,hB⟩ hK
  have hc:=hv.cell
  gi_wp2
  refine ⟨by simp,.inl ⟨_,_,rfl,run_takeDeferred hK,?_⟩⟩
  exact ⟨_,results_tmp rfl _ _ _,v,rfl,ownsRow_putObj hrow _ hK rfl,hB.trans (belowK_b (w:=w) (Nat.le_refl _) W D _ _ (by simp at hD;omega) hK rfl rfl)⟩
 case stop=>
  rintro D c pre W _ _ h _
  exact h.elim
theorem collect_any (Bs:Nat) (e:ByteArray) (l:List R) (hE:EndsOf e l) (hl:l.length≤100000) (w:World) (hbx0:Boxed w Bs 9 (.string e)) :
  Calls Tryz.prog 159 #[.func (.func 153) #[] #[.pointer (some ⟨Bs,0,none⟩)]] w fun x W'=>∃ v,x=.returned v∧Cut w l v W':=by
 have C:=hide (append_ranges Bs e l hE hl w hbx0)
 clear hbx0 hE
 go_enter Tryz.func159,Tryz.ntmps159
 go_wp2_with fail
 refine C.1.mono ?_
 rintro x w1 ⟨v,rfl,hc⟩
 have HC:=hide hc
 clear hc C
 go_wp2
 go_ret
 exact ⟨_,rfl,HC.1⟩
end Go.Proofs.YtmphmddmfcaldaaGreatDoor.Cl
