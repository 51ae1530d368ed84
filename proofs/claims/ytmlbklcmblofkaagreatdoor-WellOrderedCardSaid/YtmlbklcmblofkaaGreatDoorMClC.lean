/-
  The program's class, walked: a name's set; a letter's; a dot's; a word's; the names.
-/
import Derived.RangeFuncBox
import Derived.RangeFuncNested
import Derived.RangeFuncLeaves
import Derived.RangeFuncBound
import Derived.RangeFuncCalls
import Derived.Shelf.Abstract
import Derived.OwnWalkIn
import Derived.TacticsInMore
import Derived.LoopNIn
import Derived.LoopIn
import Derived.Shelf.AbstractIn
import Derived.Laws.ByValue
import Derived.Deep.DeepMust
import Derived.Test.YtmlbklcmblofkaaGreatDoorMClB
import Derived.Test.YtmlbklcmblofkaaGreatDoorMRsF
import Derived.Shelf.SlicesQ.IndexFunc
import Derived.Ground.SlgfProg
import Derived.Shelf.SlicesQ.Equal
import Derived.Ground.SlgqProg
import Derived.Laws.StructEq
set_option linter.unusedSimpArgs false
set_option linter.unusedVariables false
set_option maxHeartbeats 2000000
set_option maxRecDepth 100000
namespace Go.Proofs.YtmlbklcmblofkaaGreatDoor.Cl
section
open Go.RowKit Go.Shelf Mem Rs
attribute [local go_sem] Oper.semAt_some build_range run_not_true run_not_false
variable {K:Nat→Prop}
def Stays (K:Nat→Prop) (A B:World):Prop:=∀ k,K k→B.heap[k]?=A.heap[k]?
theorem Stays.refl (K:Nat→Prop) (A:World):Stays K A A:=fun _ _=>rfl
theorem Stays.trans {K:Nat→Prop} {A B C:World} (h:Stays K A B) (k:Stays K B C):Stays K A C:=fun i hi=>(k i hi).trans (h i hi)
theorem Stays.of_below {A B:World} {N:Nat} (h:Below N A B) (hK:∀ k,K k→k<N):Stays K A B:=fun k hk=>h.block k (hK k hk)
def Keeps (K:Nat→Prop) (A B:World):Prop:=Stays K A B∧A.heap.size≤B.heap.size
theorem keeps_t {A B C:World} (h:Keeps K A B) (k:Keeps K B C):Keeps K A C:=⟨h.1.trans k.1,Nat.le_trans h.2 k.2⟩
theorem keeps_b {w:World} (hK:∀ k,K k→k<w.heap.size) (W:World) (l:Nat) (o o':Obj) (hl:w.heap.size≤l) (h:W.heap[l]?=some o) (_:o.isCells=false) (_:o.isWalk=false):Keeps K W (W.putObj l o'):=
 ⟨fun k hk=>World.putObj_heap_other (by have:=hK k hk;omega),by have:=(grownBy_putObj' W l o').size;exact this⟩
theorem pre_step {l:List R} {k:Nat} {r:R} (hr:l[k]?=some r):l.take (k+1)=l.take k++[r]:=by
 obtain ⟨hlt,e⟩:=List.getElem?_eq_some_iff.1 hr
 rw [List.take_succ_eq_append_getElem hlt,e]
def RRel (l:List R) (K:Nat→Prop) (J:List R→World→Prop) (W:World) (i:Value) (wr:World):Prop:=∃ (k:Nat),i=.int .i64 (2*(k:Int))∧k≤l.length∧J (l.take k) wr∧Stays K W wr∧W.heap.size≤wr.heap.size
theorem ranges1_in (n:Nat) (hn:1≤n) (lb Bs:Nat) (e:ByteArray) (l:List R) (hE:EndsOf e l) (hl:l.length≤100000) (K:Nat→Prop) (hKs:K Bs)
  (J Jx:List R→World→Prop) (W:World) (hJ:AbidesFrom W.heap.size J) (hK:∀ k,K k→k<W.heap.size)
  (hY:∀ pre x W1,J pre W1→pre.length<l.length→YieldAt Fence.wide (n-1) Tryz.prog lb #[.agg #[.int .i64 x.1,.int .i64 x.2]] W1 fun e W'=>
   (e=.returned (.bool true)∧J (pre++[x]) W'∧(Stays K W1 W'∧W1.heap.size≤W'.heap.size))∨(e=.returned (.bool false)∧Jx (pre++[x]) W'))
  (hbox:Boxed W Bs 9 (.string e)) (h0:J [] W) :
  CallsIn Fence.wide n Tryz.prog 140 #[.func (.yield lb) #[] #[],.pointer (some ⟨Bs,0,none⟩)] W fun e W'=>(∃ v,e=.returned v) ∧
   ((∃ ys,ys=l∧J ys W')∨(∃ pre,pre <+: l∧Jx pre W')):=by
 refine callsIn_of_wp Tryz.func140 rfl trivial ?_ rfl
 simp only [Tryz.ntmps140,List.size_toArray,List.length_cons,List.length_nil,Nat.reduceAdd,Nat.reduceSub,Array.replicate_succ,Array.replicate_zero,List.push_toArray,List.append_toArray,List.nil_append,List.cons_append]
 have HK:=hide hK
 have HJ:=hide hJ
 have HB:=hide hbox
 have HY:=hide hY
 have HE:=hide hE
 clear hK hJ hbox hY hE
 gi_wp2
 gi_loopw [3] (fun i wr=>RRel l K J W i wr) (fun i _=>2*l.length-(intOf i).toNat)
 case atStart=>exact ⟨0,rfl,Nat.zero_le _,h0,Stays.refl _ _,Nat.le_refl _⟩
 case round=>
  obtain ⟨k,rfl,hk,hJs,hst,hsz⟩:=hrel
  have hbx:Boxed wr Bs 9 (.string e):=(hst _ hKs).trans HB.1
  have hc:=hbx.cell
  have hsize:=HE.1.size
  gi_hideQ
  by_cases hlt:k<l.length
  ·obtain ⟨r,hr⟩:∃ r,l[k]?=some r:=⟨_,List.getElem?_eq_getElem hlt⟩
   have hlo:=HE.1.lo k r hr
   have hhi:=HE.1.hi k r hr
   have hby:=HE.1.byt r (List.mem_of_getElem? hr)
   have hlt':2*(k:Int)+1<(e.size:Int):=by omega
   have hpf:=hide (show l.take k++[r] <+: l from by rw [← pre_step hr];exact List.take_prefix _ _)
   have hps:=hide (show (l.take k).length<l.length by rw [List.length_take];omega)
   have HST:=hide hst
   have HJs:=hide hJs
   have HN:=hide (pre_step hr)
   clear hr hst hJs hbx
   obtain ⟨lo,hi⟩:=r
   simp only at hlo hhi hby
   have w1:IntKind.i64.wrap lo=lo:=wrap_id _ (by omega) (by omega)
   have w2:IntKind.i64.wrap hi=hi:=wrap_id _ (by omega) (by omega)
   have w5:IntKind.i64.wrap (2*(k:Int)+1)=2*(k:Int)+1:=wrap_id _ (by omega) (by omega)
   clear hby
   gi_wp2_with fail
   refine RegTail.wpIn_region_still_tail 11 (by kernel_rfl) (by kernel_rfl) ?_
   simp only [List.take_succ_cons,List.take_zero,List.drop_succ_cons,List.drop_zero]
   have hc2:({ wr with drawn:=wr.drawn+1 }:World).cell? ⟨Bs,0,none⟩=some (.string e):=hc
   have hJ1:J (l.take k) ({ wr with drawn:=wr.drawn+1 }:World):=HJ.1 _ _ _ none HJs.1 (below_iff.1 (Below.refl wr.heap.size wr).drew) (by simp)
   have HSZ:=hide (show W.heap.size≤({ wr with drawn:=wr.drawn+1 }:World).heap.size from hsz)
   have HST1:=hide (show Stays K W ({ wr with drawn:=wr.drawn+1 }:World) from HST.1)
   generalize ({ wr with drawn:=wr.drawn+1 }:World)=wd at *
   have HY2:=hide (HY.1 (l.take k) (lo,hi) wd hJ1 hps.1)
   clear hJ1 hc
   repeat still_step
   refine wpStill_nil ?_
   obtain ⟨fn,tmps,assign,body,hy,hR⟩:=HY2.1
   clear HY2
   gi_wp2_with fail
   refine hR.mono ?_
   rintro e' W3 (⟨rfl,hJ3,hk3,hz3⟩|⟨rfl,hJx3⟩)
   ·clear hy hR
    gi_wp2
    have hR:RRel l K J W (.int .i64 (2*(k:Int)+2)) W3:=⟨k+1,by go_num,by omega,by rw [HN.1];exact hJ3,HST1.1.trans hk3,Nat.le_trans HSZ.1 hz3⟩
    refine ⟨?rel,?measure⟩
    case rel=>first|exact hR|exact ⟨_,_,_,_,_,_,_,_,_,_,_,_,_,_,_,_,_,_,_,_,_,hR,rfl⟩
    case measure=>simp [intOf];omega
   ·clear hy hR
    gi_wp2
    refine bodyPost_ret (results_none rfl _ _ _) rfl ?_
    exact ⟨⟨_,rfl⟩,.inr ⟨_,hpf.1,hJx3⟩⟩
  ·obtain rfl:k=l.length:=by omega
   rw [List.take_length] at hJs
   have hlt':(e.size:Int)≤2*((l.length:Nat):Int)+1:=by omega
   have HJs:=hide hJs
   clear hJs hst
   gi_wp2
   go_end0
   exact ⟨⟨_,rfl⟩,.inl ⟨_,by rfl,HJs.1⟩⟩
theorem ranges_any (e:ByteArray) (w:World) :
  Calls Tryz.prog 120 #[.string e] w fun x w'=>x=.returned (.func (.func 140) #[] #[.pointer (some ⟨w.heap.size,0,none⟩)])∧w'=w.alloc (.cells #[.string e] 9):=by
 go_enter Tryz.func120,Tryz.ntmps120
 go_wp2
 go_ret
 exact ⟨rfl,rfl⟩
theorem ranges_stops (n:Nat) (hn:1≤n) (Bs:Nat) (e:ByteArray) (l:List R) (hE:EndsOf e l) (hl:l.length≤100000) (K:Nat→Prop) (hKs:K Bs)
  (w:World) (hK:∀ k,K k→k<w.heap.size) (hbox:Boxed w Bs 9 (.string e)) :
  SeqStopsK Fence.wide n Tryz.prog 140 #[.pointer (some ⟨Bs,0,none⟩)] (fun x:R=>#[.agg #[Value.int .i64 x.1,Value.int .i64 x.2]]) (Keeps K) (fun ys=>ys=l)
   (fun pre=>pre <+: l) l.length w:=fun lb J Jx W hW hJ _ hY h0=>by
 have hs:Stays K w W:=Stays.of_below hW hK
 exact ranges1_in n hn lb Bs e l hE hl K hKs J Jx W hJ (fun k hk=>Nat.lt_of_lt_of_le (hK k hk) hW.size) hY ((hs _ hKs).trans hbox) h0
theorem wpListIn_append_at {F:Fence} {n:Nat} {P:Program} (w:World) {ops:Array Oper} {rest:List Oper} {o:Oper} {a:Act} {Q:Exit→Act→World→Prop}
  (hg:o.guard=none) (s x:Operand) (t:TypeId) (hop:o.op=Op.call { callee:=Callee.builtin Builtin.append,args:=#[s,x],argTypes:=#[t,t] })
  (base:Nat) (e:TypeId) (i:TypeInfo) (z:Value) (size bytes:Nat) (h1:P.underlying t=some (.slice e)) (h2:P.info? e=some i) (h3:i.zero=some z) (h4:i.size=size) (h5:i.bytes=bytes) (h6:z.cells.size=size) (h7:0<size)
  (v:Value) (k:Nat) (xs:List Value) (hs:a.eval s=v) (hown:w.ownsRow base e size v k xs) (ad:Addr) (m c:Nat) (news:List Value) (hx:a.eval x=.slice (some ad) m c) (hn:news.length=m*size)
  (hc:∀ j u,news[j]?=some u→w.cell? (ad.add j)=some u) (h1c:∀ u∈news,u.oneCell'=true) (b1:k+m≤maxLen) (b2:(k+m)*bytes≤140737488355328) (b3:base≤w.heap.size)
  (hK:∀ v' w',w'.ownsRow base e size v' (k+m) (xs++news)→w.grownBy w' v.ownBlock→(v'.ownBlock=v.ownBlock∨v'.ownBlock=some w.heap.size)→wpListIn F n P ops Q rest (a.put o.dst v') w') :
  wpListIn F n P ops Q (o :: rest) a w:=by
 refine wpListIn_plain hg fun K hK'=>?_
 obtain ⟨v',w',hrun,r1,r2,_,r3⟩:=run_append_own_at (P:=P) w base t o.type e i z size bytes h1 h2 h3 h4 h5 h6 h7 v k xs hown ad m c news hn hc h1c b1 b2 b3
 unfold Oper.wpIn
 refine ⟨?_,?_⟩
 ·simp [Oper.about,hop,resolve,Target.leads,Sem.run_pure]
 ·rw [Oper.semAt_plain F _ _ (by rw [hop];intro c hc';cases hc')]
  simp [execOp,hop,resolve,invoke,builtin,hs,hx,hrun,Result.andThen]
  exact hK' _ _ (hK v' w' r1 r2 r3)
def AInv (w:World) (pre:List R) (W:World):Prop:=
 (∃ v,Boxed W w.heap.size 46 v∧W.ownsRow w.heap.size 56 2 v pre.length (flat pre)∧True)∧Below w.heap.size w W
theorem ainv_own (w:World) (C:Nat) (hC:w.heap.size≤C):OwnFrom C (AInv w):=
 OwnFrom.and (Own.from (holdsRow_own w.heap.size w.heap.size 46 56 2 (fun pre:List R=>pre.length) (fun pre=>flat pre) (fun _ v=>True)) _) (ownFrom_below (Nat.le_refl _) hC)
theorem flat_snoc (pre:List R) (x:R):flat (pre++[x])=flat pre++[.int .i64 x.1,.int .i64 x.2]:=by rw [flat_append];rfl
theorem pair_new (W:World) (x:R):∀ (j:Nat) (u:Value),[Value.int .i64 x.1,Value.int .i64 x.2][j]?=some u→(W.alloc (.cells #[.int .i64 x.1,.int .i64 x.2] 56)).cell? ((⟨W.heap.size,0,none⟩:Addr).add j)=some u:=fun j u hj=>by
 rw [add_flat,Nat.zero_add]
 refine ((Blk.new W 56 #[.int .i64 x.1,.int .i64 x.2]).cell j).trans ?_
 simpa using hj
theorem blk_own (p:Nat) (t:TypeId) (cs:Array Value) (C:Nat):OwnFrom C (fun (_:Unit) W=>Blk W p t cs):=fun _ X Y row hs hg hr=>
 hs.grown hg (fun e=>by obtain ⟨-,o,ho,hc⟩:=hr p e.symm;rw [show X.heap[p]?=_ from hs] at ho;cases ho;cases hc)
def ASlots (Bs:Nat) (w:World) (x:R) (p:Nat):Act:=
 { tmps:=#[.slice none 0 0,.func (.func 140) #[] #[.pointer (some ⟨Bs,0,none⟩)],.pointer (some ⟨w.heap.size,0,none⟩),undef,.slice none 0 0,.pointer (some ⟨p,0,none⟩),.func (.func 140) #[] #[.pointer (some ⟨Bs,0,none⟩)],.agg #[.int .i64 x.1,.int .i64 x.2],undef,undef,undef,undef,undef],defers:=[] }
def AAx (Bs:Nat) (w:World) (x:R) (a:Act) (W:World):Prop:=∃ p,a=ASlots Bs w x p∧Blk W p 56 #[.int .i64 x.1,.int .i64 x.2]
theorem aax_own (Bs:Nat) (w:World) (C:Nat) (x:R) (a:Act):OwnFrom C (fun (_:Unit) W=>AAx Bs w x a W):=fun s X Y row hs hg hr=>by
 obtain ⟨p,e,hb⟩:=hs
 exact ⟨p,e,blk_own p _ _ C s X Y row hb hg hr⟩
theorem ainv_step {w W w1:World} {pre:List R} {x:R} {v v':Value} {tmp:Obj} (hv:Boxed W w.heap.size 46 v)
  (hrow:W.ownsRow w.heap.size 56 2 v pre.length (flat pre)) (hB:Below w.heap.size w W)
  (hown':w1.ownsRow w.heap.size 56 2 v' (pre.length+1) (flat pre++[.int .i64 x.1,.int .i64 x.2])) (hgrow:(W.alloc tmp).grownBy w1 v.ownBlock) :
  KeepsOthers W (w1.setCell ⟨w.heap.size,0,none⟩ v')∧Keeps (fun k=>k<w.heap.size) W (w1.setCell ⟨w.heap.size,0,none⟩ v')∧AInv w (pre++[x]) (w1.setCell ⟨w.heap.size,0,none⟩ v'):=by
 have hz:=hB.size
 obtain ⟨hv1,hv2,hr2,hk2,hb2⟩:=hv.appended (by decide) hrow (by omega) (Nat.le_refl _) hown' hgrow
 refine ⟨hk2,⟨fun k hk=>hb2.block k hk,hb2.size⟩,⟨_,hv2,?_,trivial⟩,hB.trans hb2⟩
 rw [flat_snoc,List.length_append]
 exact hr2
theorem append_ranges (Bs:Nat) (e:ByteArray) (l:List R) (hE:EndsOf e l) (hl:l.length≤100000) (w:World) (hbx0:Boxed w Bs 9 (.string e)) :
  Calls Tryz.prog 163 #[.slice none 0 0,.func (.func 140) #[] #[.pointer (some ⟨Bs,0,none⟩)]] w fun x W'=>∃ v,x=.returned v∧Cut w l v W':=by
 refine (callsIn_wide (n:=3)).1 ?_
 obtain ⟨i0,hi,hz0,hz1,hz2⟩:=info_parts info_range
 refine callsIn_of_wp_marks Tryz.func163 rfl trivial ?_ rfl
 simp only [Tryz.ntmps163,List.size_toArray,List.length_cons,List.length_nil,Nat.reduceAdd,Nat.reduceSub,Array.replicate_succ,Array.replicate_zero,List.push_toArray,List.append_toArray,List.nil_append,List.cons_append]
 have hlt:=hbx0.lt
 gi_wp2_with fail
 have bO:=Boxed.new w 46 (.slice none 0 0)
 have hB0:Below w.heap.size w (w.alloc (.cells #[.slice none 0 0] 46)):=(Below.refl _ w).alloc (Nat.le_refl _) _
 have hKlt:∀ k,k<w.heap.size→k<(w.alloc (.cells #[.slice none 0 0] 46)).heap.size:=fun k hk=>by simp;omega
 refine wpIn_rangeFunc_ownH rfl (by omega) (gf:=140) (lb:=#[.pointer (some ⟨Bs,0,none⟩)]) rfl trivial (enters_of Tryz.func140 (by kernel_rfl) rfl)
  (ranges_stops (3-1) (by omega) Bs e l hE hl (fun k=>k<w.heap.size) hlt _ hKlt (hbx0.alloc _)) keeps_t (keeps_b hKlt) (Below.refl _ _) (fun _=>rfl)
  (AInv w)
  (fun _ _ _=>False)
  (ainv_own w _ (by simp))
  (fun _ _ _ _ _ hs _ _=>hs)
  ⟨⟨_,bO,World.ownsRow_nil _ _ _ _,trivial⟩,hB0⟩
  (AAx Bs w) (fun x a'=>aax_own Bs w _ x a') ?assign ?body ?done ?stop
 case assign=>
  intro lp pre x W K hI hK
  have hz:=hI.2.size
  have hk:=hide (hK (ASlots Bs w x W.heap.size) (W.alloc (.cells #[.int .i64 x.1,.int .i64 x.2] 56)) ((KeepsOthers.alloc _ _).from _) ⟨fun k hk=>((Below.refl W.heap.size W).alloc (Nat.le_refl _) _).block k (by omega),by simp⟩
   ((ainv_own w w.heap.size (Nat.le_refl _)).alloc _ hI) ⟨_,rfl,Blk.new _ _ _⟩)
  clear hK hI
  gi_wp2
  exact hk.1
 case body=>
  rintro lp pre x a' W _ _ ⟨⟨v,hv,hrow,-⟩,hB⟩ ⟨p,rfl,hblk⟩ hlt
  have hc:=hv.cell
  have d0:=hblk.cell 0
  have d1:=hblk.cell 1
  have hmx:pre.length+1≤maxLen:=by unfold maxLen;omega
  unfold ASlots
  gi_wp2_with (gi_at_builtin;refine wpListIn_append_at _ rfl _ _ 46 rfl w.heap.size 56 i0 (.agg #[.int .i64 0,.int .i64 0]) 2 16 Tryz.underlying46 hi hz0 hz1 hz2 rfl (by decide) _ _ _ rfl (hrow.alloc _) ⟨W.heap.size,0,none⟩ 1 1 [.int .i64 x.1,.int .i64 x.2] rfl rfl (pair_new W x) (by simp [Value.oneCell']) (by omega) (by omega) (by have:=hB.size;simp;omega) ?_;intro v' w1 hown' hgrow hnew;obtain ⟨g',cap',rfl⟩:=ownsRow_succ hown';obtain ⟨hv1,-,-,-,-⟩:=hv.appended (by decide) hrow (by have:=hB.size;omega) (Nat.le_refl _) hown' hgrow;have hc1:=hv1.cell;have hf1:=hv1.frozen;have HS:=hide (ainv_step (x:=x) hv hrow hB hown' hgrow))
  have h:=HS.1
  exact ⟨h.1.from _,h.2⟩
 case done=>
  rintro D ys W hD rfl ⟨⟨v,hv,hrow,-⟩,hB⟩ hK
  have hc:=hv.cell
  gi_wp2
  refine ⟨by simp,.inl ⟨_,_,rfl,run_takeDeferred hK,?_⟩⟩
  exact ⟨_,results_tmp rfl _ _ _,v,rfl,ownsRow_putObj hrow _ hK rfl,hB.trans (belowK_b (w:=w) (Nat.le_refl _) W D _ _ (by simp at hD;omega) hK rfl rfl)⟩
 case stop=>
  rintro D c pre W _ _ h _
  exact h.elim
theorem collect_any (Bs:Nat) (e:ByteArray) (l:List R) (hE:EndsOf e l) (hl:l.length≤100000) (w:World) (hbx0:Boxed w Bs 9 (.string e)) :
  Calls Tryz.prog 146 #[.func (.func 140) #[] #[.pointer (some ⟨Bs,0,none⟩)]] w fun x W'=>∃ v,x=.returned v∧Cut w l v W':=by
 have C:=hide (append_ranges Bs e l hE hl w hbx0)
 clear hbx0 hE
 go_enter Tryz.func146,Tryz.ntmps146
 go_wp2_with fail
 refine C.1.mono ?_
 rintro x w1 ⟨v,rfl,hc⟩
 have HC:=hide hc
 clear hc C
 go_wp2
 go_ret
 exact ⟨_,rfl,HC.1⟩
end
section
open Go.RowKit Go.Shelf Mem Rs
variable {l:List R} {v:Value} {w:World}
def GivesL (l:List R) (w:World) (v:Value) (w':World):Prop:=∃ A cap,v=.slice A l.length cap∧l.length≤cap∧cap≤9223372036854775807∧Lst w' w'.heap.size A l∧Below w.heap.size w w'∧∀ ad,A=some ad→0<l.length→w.heap.size≤ad.block
def Gives1 (l:List R) (w:World) (e:Ending) (w':World):Prop:=∃ v,e=.returned v∧GivesL l w v w'
def Gives2 (l:List R) (ok:Bool) (w:World) (e:Ending) (w':World):Prop:=∃ v,e=.returned (.tuple #[v,.bool ok])∧GivesL l w v w'
theorem cut_gives {w' w1:World} (h:Cut w l v w1) (hb:Below w1.heap.size w1 w') (hm:True):GivesL l w v w':=by
 obtain ⟨A,cap,rfl,hl,hc,hx⟩:=own_lst h.1
 refine ⟨A,cap,rfl,hc,by unfold maxLen at hx;omega,(hl.below hb).more hb.size,h.2.trans (hb.mono h.2.size),fun ad e hn=>?_⟩
 obtain ⟨g,c',hv,hg,_⟩:=h.1.form hn
 rw [e] at hv
 injection hv with hv
 cases hv
 exact hg
theorem cut_gives' {w1:World} (h:Cut w l v w1):GivesL l w v w1:=cut_gives h (Below.refl _ _) trivial
theorem GivesL.from {w0 w':World} (h:GivesL l w v w') (hb:Below w0.heap.size w0 w):GivesL l w0 v w':=by
 obtain ⟨A,cap,h1,h2,h3,h4,h5,h6⟩:=h
 exact ⟨A,cap,h1,h2,h3,h4,hb.trans (h5.mono hb.size),fun ad e hn=>Nat.le_trans hb.size (h6 ad e hn)⟩
theorem named_any (s:List UInt8) (w:World) (hT:Tb w):Calls Tryz.prog 125 #[str s] w (Gives2 (nameL s) (isName s) w):=by
 have hb0:Below w.heap.size w (w.alloc (.cells #[str s] 9)):=(Below.refl _ _).alloc (Nat.le_refl _) _
 have C:=hide (find_named s w.heap.size (w.alloc (.cells #[str s] 9)) (hT.below hb0) (by rw [World.cell?_alloc_new];rfl))
 have HB0:=hide hb0
 clear hT hb0
 have h4:=(nameL_len s).1
 have HE:=hide (endsOf_ends (nameL s) (nameL_byt s))
 obtain ⟨q,hq⟩:∃ q,isName s=q:=⟨_,rfl⟩
 unfold GivesF at C
 rw [hq] at C ⊢
 clear hq
 generalize hl:nameL s=l at *
 clear hl
 obtain ⟨es,hes⟩:∃ es,endsOf l=es:=⟨_,rfl⟩
 rw [hes] at C HE
 clear hes
 go_enter Tryz.func125,Tryz.ntmps125
 go_wp2_with fail
 refine C.1.mono ?_
 rintro e w1 ⟨rfl,hb⟩
 have HB1:=hide (HB0.1.trans (hb.mono HB0.1.size))
 clear C hb
 go_wp2_with fail
 refine (ranges_any _ w1).mono ?_
 rintro e w2 ⟨rfl,rfl⟩
 have C2:=hide (collect_any w1.heap.size ⟨es.toArray⟩ l HE.1 (by omega) (w1.alloc (.cells #[.string ⟨es.toArray⟩] 9)) (Boxed.new w1 9 (.string ⟨es.toArray⟩)))
 have HB2:=hide (HB1.1.alloc HB1.1.size (.cells #[.string ⟨es.toArray⟩] 9))
 clear HB1
 go_wp2_with fail
 refine C2.1.mono ?_
 rintro e w2 ⟨v,rfl,hcut⟩
 have HC:=hide hcut
 clear hcut C2
 go_wp2_with fail
 go_ret2
 exact ⟨_,rfl,(cut_gives' HC.1).from HB2.1⟩
attribute [local go_sem] Oper.semAt_some
def hitL (l:List R) (x:Int):Bool:=l.any fun r=>decide (r.1≤x)&&decide (x≤r.2)
def WInv (x:Int) (w2:World) (pre:List R) (W:World):Prop:=Below w2.heap.size w2 W∧hitL pre x=false
def WEx (l:List R) (x:Int) (w:World) (c:Code) (pre:List R) (W:World):Prop:=(Boxed W (w.heap.size+1) 4 (.bool true)∧Below w.heap.size w W)∧(c=.ret∧hitL pre x=true)
theorem winv_own (x:Int) (w:World) (C:Nat) (hC:w.heap.size≤C):OwnFrom C (WInv x w):=OwnFrom.and (ownFrom_below (Nat.le_refl _) hC) (ownFrom_pure _ _)
theorem wex_own (l:List R) (x:Int) (w:World) (c:Code) (C:Nat) (hC:w.heap.size≤C):OwnFrom C (WEx l x w c):=
 OwnFrom.and (OwnFrom.and (Own.from (boxed_own _ _ _) _) (ownFrom_below (Nat.le_refl _) hC)) (ownFrom_pure _ _)
theorem hitL_app (a b:List R) (x:Int):hitL (a++b) x=(hitL a x||hitL b x):=by simp [hitL]
theorem hitL_pre {pre:List R} {x:Int} (h:pre <+: l) (hp:hitL pre x=true):hitL l x=true:=by
 obtain ⟨b,rfl⟩:=h
 rw [hitL_app,hp,Bool.true_or]
theorem hit_has (x:Int):∀ {l:List R},Byt l→hitL l x=hasL l x
 | [],_=>rfl
 | r :: l,h=>by
  have ih:=hit_has x (l:=l) fun r hr=>h r (List.mem_cons_of_mem _ hr)
  have hr:=h r (by simp)
  rw [hasL_cons,← ih]
  show ((decide (r.1≤x)&&decide (x≤r.2))||hitL l x)=_
  congr 1
  unfold inR
  rw [Bool.eq_iff_iff]
  simp
  omega
def WSlots (w w1:World) (x:Int) (es:List UInt8) (q:Bool) (r:R) (p:Nat):Act:=
 { tmps:=#[.int .i64 x,.pointer (some ⟨w.heap.size,0,none⟩),.pointer (some ⟨w.heap.size+1,0,none⟩),str es,.bool q,.pointer (some ⟨p,0,none⟩),.tuple #[str es,.bool q],.tuple #[str es,.bool q],str es,.bool q,str es,.func (.func 140) #[] #[.pointer (some ⟨w1.heap.size,0,none⟩)],.agg #[.int .i64 r.1,.int .i64 r.2],undef,undef,undef,undef,undef,undef,undef,undef,undef,undef],defers:=[] }
def WAx (w w1:World) (x:Int) (es:List UInt8) (q:Bool) (r:R) (a:Act) (W:World):Prop:=∃ p,a=WSlots w w1 x es q r p∧Blk W p 56 #[.int .i64 r.1,.int .i64 r.2]
theorem wax_own (w w1:World) (x:Int) (es:List UInt8) (q:Bool) (C:Nat) (r:R) (a:Act):OwnFrom C (fun (_:Unit) W=>WAx w w1 x es q r a W):=fun s X Y row hs hg hr=>by
 obtain ⟨p,e,hb⟩:=hs
 exact ⟨p,e,blk_own p _ _ C s X Y row hb hg hr⟩
theorem word_any (x:Int) (w:World) (hT:Tb w):Calls Tryz.prog 102 #[.int .i64 x] w fun e w'=>e=.returned (.bool (hasL (nameL [119,111,114,100]) x))∧Below w.heap.size w w':=by
 refine (callsIn_wide (n:=3)).1 ?_
 have hb0:Below w.heap.size w ((w.alloc (.cells #[.int .i64 x] 3)).alloc (.cells #[.bool false] 4)):=((Below.refl _ _).alloc (Nat.le_refl _) _).alloc (by simp) _
 have C:=hide (find_word ((w.alloc (.cells #[.int .i64 x] 3)).alloc (.cells #[.bool false] 4)) (hT.below hb0))
 have HB0:=hide hb0
 clear hT hb0
 have h4:=(nameL_len [119,111,114,100]).1
 have HE:=hide (endsOf_ends (nameL [119,111,114,100]) (nameL_byt _))
 unfold GivesF at C
 generalize nameL [119,111,114,100]=l at C h4 HE ⊢
 generalize isName [119,111,114,100]=q at C
 obtain ⟨es,hes⟩:∃ es,endsOf l=es:=⟨_,rfl⟩
 rw [hes] at C HE
 clear hes
 refine callsIn_of_wp_marks Tryz.func102 rfl trivial ?_ rfl
 simp only [Tryz.ntmps102,List.size_toArray,List.length_cons,List.length_nil,Nat.reduceAdd,Nat.reduceSub,Array.replicate_succ,Array.replicate_zero,List.push_toArray,List.append_toArray,List.nil_append,List.cons_append]
 gi_wp2_with fail
 refine ⟨trivial,?_⟩
 refine (callsIn_wide.2 C.1).mono ?_
 rintro e w1 ⟨rfl,hb⟩
 have b1:Boxed w1 w.heap.size 3 (.int .i64 x):=(hb.block _ (by simp;omega)).trans ((Boxed.new w 3 (.int .i64 x)).alloc _)
 have b2:Boxed w1 (w.heap.size+1) 4 (.bool false):=(hb.block _ (by simp)).trans (by have:=Boxed.new (w.alloc (.cells #[.int .i64 x] 3)) 4 (.bool false);rwa [World.size_alloc] at this)
 have HB1:=hide (HB0.1.trans (hb.mono HB0.1.size))
 have hz:=hb.size
 simp only [World.size_alloc] at hz
 have B1:=hide b1
 have B2:=hide b2
 clear C hb b1 b2 HB0
 gi_wp2_with fail
 refine ⟨trivial,?_⟩
 refine (callsIn_wide.2 (ranges_any _ w1)).mono ?_
 rintro e w2 ⟨rfl,rfl⟩
 gi_wp2_with fail
 have hbs:=Boxed.new w1 9 (.string ⟨es.toArray⟩)
 have hB2:Below w.heap.size w (w1.alloc (.cells #[.string ⟨es.toArray⟩] 9)):=HB1.1.alloc HB1.1.size _
 have hKlt:∀ k,k<w1.heap.size+1→k<(w1.alloc (.cells #[.string ⟨es.toArray⟩] 9)).heap.size:=fun k hk=>by simp;omega
 have b1:=B1.1.alloc (.cells #[.string ⟨es.toArray⟩] 9)
 have b2:=B2.1.alloc (.cells #[.string ⟨es.toArray⟩] 9)
 have hz3:(w1.alloc (.cells #[.string ⟨es.toArray⟩] 9)).heap.size=w1.heap.size+1:=by simp
 have hz4:=HB1.1.size
 have HW:=hide (show w1.alloc (.cells #[.string ⟨es.toArray⟩] 9)=w1.alloc (.cells #[.string ⟨es.toArray⟩] 9) from rfl)
 clear B1 B2
 generalize hw2:w1.alloc (.cells #[.string ⟨es.toArray⟩] 9)=w2 at *
 refine wpIn_rangeFunc_ownH rfl (by omega) (gf:=140) (lb:=#[.pointer (some ⟨w1.heap.size,0,none⟩)]) rfl trivial (enters_of Tryz.func140 (by kernel_rfl) rfl)
  (ranges_stops (3-1) (by omega) w1.heap.size _ l HE.1 (by omega) (fun k=>k<w1.heap.size+1) (by omega) _ hKlt hbs) keeps_t (keeps_b hKlt) (Below.refl _ _) (fun _=>rfl)
  (WInv x w2)
  (WEx l x w)
  (winv_own x w2 _ (Nat.le_refl _))
  (fun c=>wex_own l x w c _ (by omega))
  ⟨Below.refl _ _,rfl⟩
  (WAx w w1 x es q) (fun r a'=>wax_own w w1 x es q _ r a') ?assign ?body ?done ?stop
 case assign=>
  intro lp pre r W K hI hK
  have hz2:=hI.1.size
  have hk:=hide (hK (WSlots w w1 x es q r W.heap.size) (W.alloc (.cells #[.int .i64 r.1,.int .i64 r.2] 56)) ((KeepsOthers.alloc _ _).from _) ⟨fun k hk=>Below.heap_alloc _ _ k (by omega),by simp⟩
   ((winv_own x w2 w2.heap.size (Nat.le_refl _)).alloc _ hI) ⟨_,rfl,Blk.new _ _ _⟩)
  clear hK hI
  gi_wp2
  exact hk.1
 case body=>
  rintro lp pre r a' W _ _ ⟨hB,hno⟩ ⟨p,rfl,hblk⟩ hlt
  have c1:Boxed W w.heap.size 3 (.int .i64 x):=(hB.block _ (by omega)).trans b1
  have c2:Boxed W (w.heap.size+1) 4 (.bool false):=(hB.block _ (by omega)).trans b2
  have hc1:=c1.cell
  have hc2:=c2.cell
  have hf2:=c2.frozen
  have d0:=hblk.cell 0
  have d1:=hblk.cell 1
  have hn1:=hide (show ∀ b,(decide (r.1≤x)&&decide (x≤r.2))=b→hitL (pre++[r]) x=b from fun b hb=>by rw [hitL_app,hno];simpa [hitL] using hb)
  have hwB:=hide ((hB2.trans (hB.mono (by omega))).setCell (p:=⟨w.heap.size+1,0,none⟩) (Nat.le_succ _) (.bool true))
  have hx2:=hide (c2.set (.bool true))
  have HBW:=hide hB
  obtain ⟨lo,hi⟩:=r
  unfold WSlots
  clear hno hblk hB c1 c2
  by_cases h1:lo≤x
  ·by_cases h2:x≤hi
   ·have d2:decide (lo≤x)=true:=by simpa using h1
    have d3:decide (x≤hi)=true:=by simpa using h2
    have hN:=hide (hn1.1 true (by simp [h1,h2]))
    clear h1 h2
    gi_wp2
    exact ⟨(KeepsOthers.setCell _ _ _).from _,⟨hx2.1,hwB.1⟩,rfl,hN.1⟩
   ·have d2:decide (lo≤x)=true:=by simpa using h1
    have d3:decide (x≤hi)=false:=by simpa using h2
    have hN:=hide (hn1.1 false (by simp;omega))
    clear h1 h2
    gi_wp2
    exact ⟨KeepsFrom.refl _ _,⟨Stays.refl _ _,Nat.le_refl _⟩,HBW.1,hN.1⟩
  ·have d2:decide (lo≤x)=false:=by simpa using h1
   have hN:=hide (hn1.1 false (by simp;omega))
   clear h1
   gi_wp2
   exact ⟨KeepsFrom.refl _ _,⟨Stays.refl _ _,Nat.le_refl _⟩,HBW.1,hN.1⟩
 case done=>
  rintro D ys W hD rfl ⟨hB,hno⟩ hK
  have c2:Boxed W (w.heap.size+1) 4 (.bool false):=(hB.block _ (by omega)).trans b2
  have hf2:=c2.frozen
  have hc2:=c2.cell
  have hB4:Below w.heap.size w (W.setCell ⟨w.heap.size+1,0,none⟩ (.bool false)):=(hB2.trans (hB.mono (by omega))).setCell (p:=⟨w.heap.size+1,0,none⟩) (Nat.le_succ _) _
  have hK':=(KeepsOthers.setCell W ⟨w.heap.size+1,0,none⟩ (.bool false)).same D _ hK rfl
  have hc5:=cell_kept (World.cell?_setCell_same' W ⟨w.heap.size+1,0,none⟩ (.bool false) (by rw [hc2];rfl)) (grownBy_putObj' _ D (.deferred none)) (fun r e=>by cases e;exact ⟨_,hK',rfl⟩)
  have HD:=hide hD
  have HB4:=hide hB4
  have HK':=hide hK'
  have HC5:=hide hc5
  have HNO:=hide ((hit_has x HE.1.byt).symm.trans hno)
  clear hD hB4 hK' hc5 hK hB hno c2
  gi_wp2
  refine ⟨by simp,.inl ⟨_,_,rfl,run_takeDeferred HK'.1,?_⟩⟩
  have hc5:=HC5.1
  refine ⟨.bool false,?_,by rw [HNO.1],HB4.1.trans (belowK_b (w:=w) (Nat.le_refl _) _ D _ _ (by have:=HD.1;omega) HK'.1 rfl rfl)⟩
  simp [results,Tryz.f102,go_sem,hc5]
 case stop=>
  rintro D c pre W hD hpre ⟨⟨c2,hB4⟩,rfl,hyes⟩ hK
  have hc5:=cell_kept c2.cell (grownBy_putObj' W D (.deferred none)) (fun r e=>by cases e;exact ⟨_,hK,rfl⟩)
  have HD:=hide hD
  have HB4:=hide hB4
  have HK':=hide hK
  have HC5:=hide hc5
  have HNO:=hide ((hit_has x HE.1.byt).symm.trans (hitL_pre hpre hyes))
  clear hD hB4 hc5 hK hyes c2
  gi_wp2
  refine ⟨by simp,.inl ⟨_,_,rfl,run_takeDeferred HK'.1,?_⟩⟩
  have hc5:=HC5.1
  refine ⟨.bool true,?_,by rw [HNO.1],HB4.1.trans (belowK_b (w:=w) (Nat.le_refl _) _ D _ _ (by have:=HD.1;omega) HK'.1 rfl rfl)⟩
  simp [results,Tryz.f102,go_sem,hc5]
theorem pof_d (w:World) (hT:Tb w):Calls Tryz.prog 107 #[.int .u8 100] w (Gives2 (nameL [100,105,103,105,116]) true w):=by
 have C:=hide (named_any [100,105,103,105,116] w hT)
 rw [show isName [100,105,103,105,116]=true by decide] at C
 generalize nameL [100,105,103,105,116]=l at C ⊢
 clear hT
 go_enter Tryz.func107,Tryz.ntmps107
 go_wp2_with fail
 refine C.1.mono ?_
 rintro e w1 ⟨v,rfl,h⟩
 have H:=hide h
 clear h C
 go_wp2_with fail
 go_ret2
 exact ⟨_,rfl,H.1⟩
theorem pof_w (w:World) (hT:Tb w):Calls Tryz.prog 107 #[.int .u8 119] w (Gives2 (nameL [119,111,114,100]) true w):=by
 have C:=hide (named_any [119,111,114,100] w hT)
 rw [show isName [119,111,114,100]=true by decide] at C
 generalize nameL [119,111,114,100]=l at C ⊢
 clear hT
 go_enter Tryz.func107,Tryz.ntmps107
 go_wp2_with fail
 refine C.1.mono ?_
 rintro e w1 ⟨v,rfl,h⟩
 have H:=hide h
 clear h C
 go_wp2_with fail
 go_ret2
 exact ⟨_,rfl,H.1⟩
theorem pof_s (w:World) (hT:Tb w):Calls Tryz.prog 107 #[.int .u8 115] w (Gives2 (nameL [115,112,97,99,101]) true w):=by
 have C:=hide (named_any [115,112,97,99,101] w hT)
 rw [show isName [115,112,97,99,101]=true by decide] at C
 generalize nameL [115,112,97,99,101]=l at C ⊢
 clear hT
 go_enter Tryz.func107,Tryz.ntmps107
 go_wp2_with fail
 refine C.1.mono ?_
 rintro e w1 ⟨v,rfl,h⟩
 have H:=hide h
 clear h C
 go_wp2_with fail
 go_ret2
 exact ⟨_,rfl,H.1⟩
theorem pof_D (w:World) (hT:Tb w):Calls Tryz.prog 107 #[.int .u8 68] w (Gives2 (notL (nameL [100,105,103,105,116])) true w):=by
 have C:=hide (pof_d w hT)
 have h4:=(nameL_len [100,105,103,105,116]).1
 generalize nameL [100,105,103,105,116]=l at C h4 ⊢
 clear hT
 go_enter Tryz.func107,Tryz.ntmps107
 go_wp2_with fail
 refine C.1.mono ?_
 rintro e w1 ⟨v,rfl,A,cap,rfl,hc,hm,hls,hb,-⟩
 have HL:=hide hls
 have HB:=hide hb
 clear hls hb C
 go_wp2_with fail
 refine (not_any l A cap w1 (by omega) hc HL.1).mono ?_
 rintro e w2 ⟨v,rfl,hcut⟩
 have HC:=hide hcut
 clear hcut
 go_wp2_with fail
 go_ret2
 exact ⟨_,rfl,(cut_gives' HC.1).from HB.1⟩
theorem pof_W (w:World) (hT:Tb w):Calls Tryz.prog 107 #[.int .u8 87] w (Gives2 (notL (nameL [119,111,114,100])) true w):=by
 have C:=hide (pof_w w hT)
 have h4:=(nameL_len [119,111,114,100]).1
 generalize nameL [119,111,114,100]=l at C h4 ⊢
 clear hT
 go_enter Tryz.func107,Tryz.ntmps107
 go_wp2_with fail
 refine C.1.mono ?_
 rintro e w1 ⟨v,rfl,A,cap,rfl,hc,hm,hls,hb,-⟩
 have HL:=hide hls
 have HB:=hide hb
 clear hls hb C
 go_wp2_with fail
 refine (not_any l A cap w1 (by omega) hc HL.1).mono ?_
 rintro e w2 ⟨v,rfl,hcut⟩
 have HC:=hide hcut
 clear hcut
 go_wp2_with fail
 go_ret2
 exact ⟨_,rfl,(cut_gives' HC.1).from HB.1⟩
theorem pof_S (w:World) (hT:Tb w):Calls Tryz.prog 107 #[.int .u8 83] w (Gives2 (notL (nameL [115,112,97,99,101])) true w):=by
 have C:=hide (pof_s w hT)
 have h4:=(nameL_len [115,112,97,99,101]).1
 generalize nameL [115,112,97,99,101]=l at C h4 ⊢
 clear hT
 go_enter Tryz.func107,Tryz.ntmps107
 go_wp2_with fail
 refine C.1.mono ?_
 rintro e w1 ⟨v,rfl,A,cap,rfl,hc,hm,hls,hb,-⟩
 have HL:=hide hls
 have HB:=hide hb
 clear hls hb C
 go_wp2_with fail
 refine (not_any l A cap w1 (by omega) hc HL.1).mono ?_
 rintro e w2 ⟨v,rfl,hcut⟩
 have HC:=hide hcut
 clear hcut
 go_wp2_with fail
 go_ret2
 exact ⟨_,rfl,(cut_gives' HC.1).from HB.1⟩
theorem pof_no (c:Nat) (w:World) (h0:¬ c=100) (h1:¬ c=68) (h2:¬ c=119) (h3:¬ c=87) (h4:¬ c=115) (h5:¬ c=83):Calls Tryz.prog 107 #[.int .u8 (c:Int)] w (Gives2 [] false w):=by
 have e0:((c:Int)==100)=false:=by rw [beq_eq_false_iff_ne];omega
 have e1:((c:Int)==68)=false:=by rw [beq_eq_false_iff_ne];omega
 have e2:((c:Int)==119)=false:=by rw [beq_eq_false_iff_ne];omega
 have e3:((c:Int)==87)=false:=by rw [beq_eq_false_iff_ne];omega
 have e4:((c:Int)==115)=false:=by rw [beq_eq_false_iff_ne];omega
 have e5:((c:Int)==83)=false:=by rw [beq_eq_false_iff_ne];omega
 clear h0 h1 h2 h3 h4 h5
 go_enter Tryz.func107,Tryz.ntmps107
 go_wp2_with fail
 go_ret2
 exact ⟨_,rfl,none,0,rfl,Nat.le_refl _,by omega,Lst.nil,Below.refl _ _,fun ad e _=>by cases e⟩
theorem pof_any (c:Nat) (hc:c<256) (w:World) (hT:Tb w):Calls Tryz.prog 107 #[.int .u8 (c:Int)] w (Gives2 (listOf c) (isOf c) w):=by
 by_cases h0:c=100
 ·subst h0;exact pof_d w hT
 by_cases h1:c=68
 ·subst h1;exact pof_D w hT
 by_cases h2:c=119
 ·subst h2;exact pof_w w hT
 by_cases h3:c=87
 ·subst h3;exact pof_W w hT
 by_cases h4:c=115
 ·subst h4;exact pof_s w hT
 by_cases h5:c=83
 ·subst h5;exact pof_S w hT
 have hi:isOf c=false:=by unfold isOf nmOf;simp only [h0,h1,h2,h3,h4,h5,if_false];rfl
 rw [hi,(listOf_len c).2 hi]
 exact pof_no c w h0 h1 h2 h3 h4 h5
end
end Go.Proofs.YtmlbklcmblofkaaGreatDoor.Cl
