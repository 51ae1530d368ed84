/-
  slices.Sort at a row of the call's own of at most twelve ints: it goes by insertion; walked.
-/
import Derived.RangeFuncBox
import Derived.RangeFuncNested
import Derived.RangeFuncLeaves
import Derived.RangeFuncBound
import Derived.RangeFuncCalls
import Derived.Shelf.Abstract
import Derived.OwnWalkIn
import Derived.TacticsInMore
import Derived.LoopNIn
import Derived.LoopIn
import Derived.Shelf.AbstractIn
import Derived.Laws.ByValue
import Derived.Test.YtmlbklcmblofkaaGreatDoorMFoB
set_option linter.unusedSimpArgs false
set_option linter.unusedVariables false
set_option maxHeartbeats 4000000
set_option maxRecDepth 100000
namespace Go.Proofs.YtmlbklcmblofkaaGreatDoor.Fo
section
open Go.RowKit Mem
variable {w:World} {b off cap:Nat}
structure Tab (b off cap:Nat) (w:World):Prop where
 head:w.cell? ⟨3,0,none⟩=some (.slice (some ⟨b,off,none⟩) 24 cap)
 rows:∀ (k:Nat) (r:Row),U[k]?=some r→w.cell? ⟨b,off+k*4,none⟩=some (.int .i64 r.lo)∧w.cell? ⟨b,off+k*4+1,none⟩=some (.int .i64 r.hi)∧w.cell? ⟨b,off+k*4+2,none⟩=some (.int .i64 r.step)∧w.cell? ⟨b,off+k*4+3,none⟩=some (.int .i64 r.far)
 room:24≤cap
 top:cap≤9223372036854775807
theorem Tab.keep {w':World} (h:Tab b off cap w) (h0:w'.heap[3]?=w.heap[3]?) (h1:w'.heap[b]?=w.heap[b]?):Tab b off cap w':=
 ⟨(World.cell?_of_block (w:=w) (a:=⟨3,0,none⟩) h0).trans h.head,fun k r hr=>by
  obtain ⟨c0,c1,c2,c3⟩:=h.rows k r hr
  exact ⟨(World.cell?_of_block (w:=w) (a:=⟨b,_,none⟩) h1).trans c0,(World.cell?_of_block (w:=w) (a:=⟨b,_,none⟩) h1).trans c1,(World.cell?_of_block (w:=w) (a:=⟨b,_,none⟩) h1).trans c2,(World.cell?_of_block (w:=w) (a:=⟨b,_,none⟩) h1).trans c3⟩,h.room,h.top⟩
theorem Tab.lt (h:Tab b off cap w):3<w.heap.size∧b<w.heap.size:=⟨cell_lt h.head,cell_lt (h.rows 0 _ rfl).1⟩
theorem Tab.below {B:Nat} {w':World} (h:Tab b off cap w) (hb:Below B w w') (hB:w.heap.size≤B):Tab b off cap w':=
 h.keep (hb.block _ (by have:=h.lt;omega)) (hb.block _ (by have:=h.lt;omega))
theorem below_alloc' {wr:World} (h:Below w.heap.size w wr) (o:Obj):Below w.heap.size w (wr.alloc o):=h.alloc h.size o
theorem has_wrap {x:Int} {r:Row} (hr:r∈U) (hlo:-9223372036854775808≤x) (hhi:x≤9223372036854775807):hasR (IntKind.i64.wrap (x-r.far)) r=hasR (x-r.far) r∧(hasR (x-r.far) r=true→IntKind.i64.wrap (x-r.far)=x-r.far):=by
 obtain ⟨h0,h1,h2,h3,h4,h5⟩:=row_ok r hr
 by_cases hw:IntKind.i64.wrap (x-r.far)=x-r.far
 ·rw [hw];exact ⟨rfl,fun _=>rfl⟩
 ·have e1:hasR (x-r.far) r=false:=by
   rw [Bool.eq_false_iff]
   intro h
   obtain ⟨k0,k1,_⟩:=has_iff.1 h
   exact hw (by simp [IntKind.wrap,IntKind.bits,IntKind.signed];omega)
  refine ⟨?_,fun h=>by rw [e1] at h;cases h⟩
  rw [e1,Bool.eq_false_iff]
  intro h
  obtain ⟨k0,k1,_⟩:=has_iff.1 h
  refine hw ?_
  simp [IntKind.wrap,IntKind.bits,IntKind.signed] at k0 k1 ⊢
  omega
theorem wrap_ok (x:Int) (h:-9223372036854775808≤x) (h2:x≤9223372036854775807):IntKind.i64.wrap x=x:=by simp [IntKind.wrap,IntKind.bits,IntKind.signed];omega
theorem has_any (a b s f x:Int) (w:World) (h0:0≤a) (h1:b≤1114367) (hs:s=1∨s=2) :
  Calls Tryz.prog 126 #[.agg #[.int .i64 a,.int .i64 b,.int .i64 s,.int .i64 f],.int .i64 x] w fun e w'=>e=.returned (.bool (hasR x ⟨a,b,s,f⟩))∧Below w.heap.size w w':=by
 have hb:=hide ((Below.refl w.heap.size w).alloc (Nat.le_refl _) (.cells #[.int .i64 a,.int .i64 b,.int .i64 s,.int .i64 f] 152))
 by_cases k0:a≤x
 ·by_cases k1:x≤b
  ·have hw:IntKind.i64.wrap (x-a)=x-a:=wrap_ok _ (by omega) (by omega)
   rcases hs with rfl|rfl
   ·have e:=hide (show hasR x ⟨a,b,1,f⟩=true by simp [hasR,k0,k1])
    go_enter Tryz.func126,Tryz.ntmps126
    go_wp2
    go_ret
    exact ⟨by rw [e.1];try rfl,hb.1⟩
   ·have hh:hasR x ⟨a,b,2,f⟩=((x-a).tmod 2==0):=by simp [hasR,k0,k1]
    have e:=hide hh
    clear hh
    generalize hm:(x-a).tmod 2=m at e
    by_cases hm0:m=0
    ·have d:(m==0)=true:=by simp [hm0]
     have E:=hide (show hasR x ⟨a,b,2,f⟩=true by rw [e.1,d])
     clear hm0 e
     go_enter Tryz.func126,Tryz.ntmps126
     go_wp2
     go_ret
     exact ⟨by rw [E.1];try rfl,hb.1⟩
    ·have d:(m==0)=false:=by simp [hm0]
     have E:=hide (show hasR x ⟨a,b,2,f⟩=false by rw [e.1,d])
     clear hm0 e
     go_enter Tryz.func126,Tryz.ntmps126
     go_wp2
     go_ret
     exact ⟨by rw [E.1];try rfl,hb.1⟩
  ·have e:=hide (show hasR x ⟨a,b,s,f⟩=false by simp [hasR,k1])
   clear hs
   go_enter Tryz.func126,Tryz.ntmps126
   go_wp2
   go_ret
   exact ⟨by rw [e.1];try rfl,hb.1⟩
 ·have e:=hide (show hasR x ⟨a,b,s,f⟩=false by simp [hasR,k0])
  clear hs
  go_enter Tryz.func126,Tryz.ntmps126
  go_wp2
  go_ret
  exact ⟨by rw [e.1];try rfl,hb.1⟩
def LRel (x:Int) (w:World) (i:Value) (wr:World):Prop:=∃ k:Nat,i=.int .i64 k∧k≤24∧U.find? (hasR x)=(U.drop k).find? (hasR x)∧Below w.heap.size w wr
theorem lower_any (x:Int) (w:World) {b off cap:Nat} (hT:Tab b off cap w) :
  Calls Tryz.prog 110 #[.int .i64 x] w fun e w'=>e=.returned (.int .i64 (withP x))∧Below w.heap.size w w':=by
 have hd:=hT.head
 have HT:=hide hT
 clear hT
 go_enter Tryz.func110,Tryz.ntmps110
 go_wp2
 go_loopw [7] (fun i wr=>LRel x w i wr) (fun i _=>24-(intOf i).toNat)
 case atStart=>exact ⟨0,rfl,by omega,rfl,Below.refl _ _⟩
 case round=>
  obtain ⟨k,rfl,hk,hf,hbw⟩:=hrel
  by_cases hlt:k<24
  ·obtain ⟨r,hr⟩:∃ r,U[k]?=some r:=⟨_,List.getElem?_eq_getElem (show k<U.length from hlt)⟩
   obtain ⟨c0,c1,c2,c3⟩:=(HT.1.below hbw (Nat.le_refl _)).rows k r hr
   have hdr:U.drop k=r :: U.drop (k+1):=by
    have hl:=(List.getElem?_eq_some_iff.1 hr)
    rw [List.drop_eq_getElem_cons hl.1,hl.2]
   have hok:=row_ok r (List.mem_of_getElem? hr)
   have hmem:=hide (List.mem_of_getElem? hr)
   have hlt':(k:Int)<24:=by omega
   have hk0:(0:Int)≤(k:Int):=by omega
   have HF:=hide hf
   have HD:=hide hdr
   have HB:=hide hbw
   obtain ⟨a,z,s,f⟩:=r
   simp only at c0 c1 c2 c3 hok
   have HO:=hide hok
   clear hf hdr hr hbw hd hok
   go_wp2_with fail
   have hb1:=below_alloc' HB.1 (.cells #[.int .i64 a,.int .i64 z,.int .i64 s,.int .i64 f] 152)
   have hblk:=Blk.new wr 152 #[.int .i64 a,.int .i64 z,.int .i64 s,.int .i64 f]
   clear c0 c1 c2 c3
   refine (has_any a z s f x _ HO.1.1 HO.1.2.2.1 HO.1.2.2.2.1).mono ?_
   rintro e w1 ⟨rfl,hw1⟩
   have hblk1:=hblk.below hw1 (by simp)
   have c3:=hblk1.cell 3
   have HB1:=hide (hb1.trans (hw1.mono hb1.size))
   clear hb1 hblk hw1 hblk1
   cases hh:hasR x ⟨a,z,s,f⟩ with
   | true=>
    have hlow:=hide (show withP x=x+f by
     rw [← lowP_eq,lowP,HF.1,HD.1,List.find?_cons,hh])
    have hx:=has_iff.1 hh
    have hwr:IntKind.i64.wrap (x+f)=x+f:=wrap_ok _ (by have:=HO.1;simp only at hx;omega) (by have:=HO.1;simp only at hx;omega)
    clear hx hh
    go_wp2
    go_ret
    exact ⟨by rw [hlow.1];try rfl,HB1.1⟩
   | false=>
    have hn:=hide hh
    clear hh
    go_wp2
    first|go_roundw|refine ⟨?rel,?measure⟩
    case rel=>exact ⟨k+1,by go_num,by omega,by rw [HF.1,HD.1,List.find?_cons,hn.1],HB1.1⟩
    case measure=>simp [intOf];omega
  ·obtain rfl:k=24:=by omega
   have hlow:=hide (show withP x=x by rw [← lowP_eq,lowP,hf];rfl)
   have HB:=hide hbw
   clear hf hbw
   go_wp2
   go_ret
   exact ⟨by rw [hlow.1];try rfl,HB.1⟩
end
section
open Go.RowKit Go.Shelf Mem
attribute [local go_sem] Oper.semAt_some
variable {K:Nat→Prop} {A B:World}
def Stays (K:Nat→Prop) (A B:World):Prop:=∀ k,K k→B.heap[k]?=A.heap[k]?
theorem Stays.refl (K:Nat→Prop) (A:World):Stays K A A:=fun _ _=>rfl
theorem Stays.trans {K:Nat→Prop} {A B C:World} (h:Stays K A B) (k:Stays K B C):Stays K A C:=fun i hi=>(k i hi).trans (h i hi)
theorem Stays.of_below {N:Nat} (h:Below N A B) (hK:∀ k,K k→k<N):Stays K A B:=fun k hk=>h.block k (hK k hk)
theorem Stays.tab {b off cap:Nat} (h:Stays K A B) (h0:K 3) (h1:K b) (hT:Tab b off cap A):Tab b off cap B:=hT.keep (h _ h0) (h _ h1)
theorem wrap_eq64 (x:Int):IntKind.i64.wrap x=wrap64 x:=IntWalk.i64_left x
theorem ups_append (low:Int) (a b:List Row):upsP low (a++b)=upsP low a++upsP low b:=by simp [upsP,List.filterMap_append]
theorem ups_step {low:Int} {k:Nat} {r:Row} (hr:U[k]?=some r):upsP low (U.take (k+1))=upsP low (U.take k)++(if hasR (low-r.far) r then [low-r.far] else []):=by
 obtain ⟨hlt,e⟩:=List.getElem?_eq_some_iff.1 hr
 rw [List.take_succ_eq_append_getElem hlt,e,ups_append]
 congr 1
 unfold upsP
 rw [List.filterMap_cons,List.filterMap_nil]
 split<;>rename_i h<;>split at h<;>simp_all
theorem ups_take_le (low:Int) (k:Nat):upsP low (U.take k) <+: upsP low U:=⟨upsP low (U.drop k),by rw [← ups_append,List.take_append_drop]⟩
theorem ups1_in (n:Nat) (hn:1≤n) (l Bs:Nat) (low:Int) (hlo:-9223372036854775808≤low) (hhi:low≤9223372036854775807) (K:Nat→Prop) {b off cap:Nat} (hKs:K Bs) (hK0:K 3) (hK1:K b)
  (J Jx:List Int→World→Prop) (W:World) (hJ:AbidesFrom W.heap.size J) (hK:∀ k,K k→k<W.heap.size)
  (hY:∀ pre x W1,J pre W1→pre.length<(upsP low U).length→YieldAt Fence.wide (n-1) Tryz.prog l #[.int .i64 x] W1 fun e W'=>
   (e=.returned (.bool true)∧J (pre++[x]) W'∧(Stays K W1 W'∧W1.heap.size≤W'.heap.size))∨(e=.returned (.bool false)∧Jx (pre++[x]) W'))
  (hT:Tab b off cap W) (hbox:Boxed W Bs 3 (.int .i64 low)) (h0:J [] W) :
  CallsIn Fence.wide n Tryz.prog 127 #[.func (.yield l) #[] #[],.pointer (some ⟨Bs,0,none⟩)] W fun e W'=>(∃ v,e=.returned v) ∧
   ((∃ ys,ys=upsP low U∧J ys W')∨(∃ pre,pre <+: upsP low U∧Jx pre W')):=by
 refine callsIn_of_wp Tryz.func127 rfl trivial ?_ rfl
 simp only [Tryz.ntmps127,List.size_toArray,List.length_cons,List.length_nil,Nat.reduceAdd,Nat.reduceSub,Array.replicate_succ,Array.replicate_zero,List.push_toArray,List.append_toArray,List.nil_append,List.cons_append]
 have hd:=hT.head
 have HK:=hide hK
 have HT:=hide hT
 have HJ:=hide hJ
 have HB:=hide hbox
 have HY:=hide hY
 clear hK hT hJ hbox hY
 gi_wp2
 gi_loopw [8] (fun i wr=>∃ (k:Nat),i=.int .i64 k∧k≤24∧J (upsP low (U.take k)) wr∧Stays K W wr∧W.heap.size≤wr.heap.size)
  (fun i _=>24-(intOf i).toNat)
 case atStart=>exact ⟨0,rfl,Nat.zero_le _,h0,Stays.refl _ _,Nat.le_refl _⟩
 case round=>
  obtain ⟨k,rfl,hk,hJs,hst,hsz⟩:=hrel
  have hbx:Boxed wr Bs 3 (.int .i64 low):=(hst _ hKs).trans HB.1
  by_cases hlt:k<24
  ·obtain ⟨r,hr⟩:∃ r,U[k]?=some r:=⟨_,List.getElem?_eq_getElem (show k<U.length from hlt)⟩
   obtain ⟨c0,c1,c2,c3⟩:=(hst.tab hK0 hK1 HT.1).rows k r hr
   obtain ⟨a,z,s,f⟩:=r
   have hst':=hide (show upsP low (U.take (k+1))=upsP low (U.take k)++(if hasR (low-f) ⟨a,z,s,f⟩ then [low-f] else []) from ups_step hr)
   have hok:=row_ok ⟨a,z,s,f⟩ (List.mem_of_getElem? hr)
   have hwrp:=(show hasR (IntKind.i64.wrap (low-f)) ⟨a,z,s,f⟩=hasR (low-f) ⟨a,z,s,f⟩∧(hasR (low-f) ⟨a,z,s,f⟩=true→IntKind.i64.wrap (low-f)=low-f) from has_wrap (List.mem_of_getElem? hr) hlo hhi)
   have hpf:=hide (ups_take_le low (k+1))
   have hlt':(k:Int)<24:=by omega
   have hk0:(0:Int)≤(k:Int):=by omega
   simp only at c0 c1 c2 c3 hok
   have cb:=(hbx.alloc (.cells #[.int .i64 a,.int .i64 z,.int .i64 s,.int .i64 f] 152)).cell
   have HO:=hide hok
   have HST:=hide hst
   have HJs:=hide hJs
   clear hr hd hok hst hJs hbx
   gi_wp2_with fail
   refine ⟨trivial,?_⟩
   have hb1:Below wr.heap.size wr (wr.alloc (.cells #[.int .i64 a,.int .i64 z,.int .i64 s,.int .i64 f] 152)):=(Below.refl _ wr).alloc (Nat.le_refl _) _
   clear c0 c1 c2 c3 cb
   obtain ⟨y,hy⟩:∃ y,wrap64 (low-f)=y:=⟨_,rfl⟩
   rw [wrap_eq64,hy] at hwrp
   have hwrp:=hide hwrp
   rw [hy]
   refine (callsIn_wide.2 (has_any a z s f y _ HO.1.1 HO.1.2.2.1 HO.1.2.2.2.1)).mono ?_
   rintro e w1 ⟨rfl,hw1⟩
   have hb2:Below wr.heap.size wr w1:=hb1.trans (hw1.mono (by simp))
   have hJ1:J (upsP low (U.take k)) w1:=HJ.1 _ _ _ none HJs.1 (below_iff.1 hb2) (by simp)
   have hst1:Stays K W w1:=HST.1.trans (Stays.of_below hb2 (fun i hi=>Nat.lt_of_lt_of_le (HK.1 i hi) hsz))
   have hsz1:W.heap.size≤w1.heap.size:=Nat.le_trans hsz hb2.size
   clear hb1 hw1 hb2
   cases hh:hasR y ⟨a,z,s,f⟩ with
   | true=>
    have hh2:hasR (low-f) ⟨a,z,s,f⟩=true:=hwrp.1.1.symm.trans hh
    have hyl:y=low-f:=hwrp.1.2 hh2
    have hnew:upsP low (U.take (k+1))=upsP low (U.take k)++[y]:=by rw [hst'.1,if_pos hh2,hyl]
    have hps:(upsP low (U.take k)).length<(upsP low U).length:=by
     have:=hpf.1.length_le
     rw [hnew] at this;simp at this;omega
    have HN:=hide hnew
    have HY2:=hide (HY.1 (upsP low (U.take k)) y w1 hJ1 hps)
    clear hnew hps hyl hh2 hh hy
    obtain ⟨fn,tmps,assign,body,hy,hR⟩:=HY2.1
    clear HY2
    gi_wp2_with fail
    refine hR.mono ?_
    rintro e W3 (⟨rfl,hJ3,hk3,hz3⟩|⟨rfl,hJx3⟩)
    ·clear hy hR
     gi_wp2
     first|go_roundw|refine ⟨?rel,?measure⟩
     case rel=>exact ⟨k+1,by go_num,by omega,by rw [HN.1];exact hJ3,hst1.trans hk3,Nat.le_trans hsz1 hz3⟩
     case measure=>simp [intOf];omega
    ·clear hy hR
     gi_wp2
     refine bodyPost_ret (results_none rfl _ _ _) rfl ?_
     exact ⟨⟨_,rfl⟩,.inr ⟨_,hpf.1,by rw [HN.1];exact hJx3⟩⟩
   | false=>
    have hh2:hasR (low-f) ⟨a,z,s,f⟩=false:=hwrp.1.1.symm.trans hh
    have HN:=hide (show upsP low (U.take (k+1))=upsP low (U.take k) by rw [hst'.1,hh2];simp)
    clear hh2 hh hy
    gi_wp2
    refine ⟨fun f hf=>trivial,?_⟩
    gi_wp2
    first|go_roundw|refine ⟨?rel,?measure⟩
    case rel=>exact ⟨k+1,by go_num,by omega,by rw [HN.1];exact hJ1,hst1,hsz1⟩
    case measure=>simp [intOf];omega
  ·obtain rfl:k=24:=by omega
   have HJs:=hide hJs
   clear hJs
   gi_wp2
   go_end0
   exact ⟨⟨_,rfl⟩,.inl ⟨_,by rfl,HJs.1⟩⟩
theorem uppers_any (low:Int) (w:World) :
  Calls Tryz.prog 112 #[.int .i64 low] w fun e w'=>e=.returned (.func (.func 127) #[] #[.pointer (some ⟨w.heap.size,0,none⟩)])∧w'=w.alloc (.cells #[.int .i64 low] 3):=by
 go_enter Tryz.func112,Tryz.ntmps112
 go_wp2
 go_ret
 exact ⟨rfl,rfl⟩
def Keeps (K:Nat→Prop) (A B:World):Prop:=Stays K A B∧A.heap.size≤B.heap.size
theorem keeps_t {C:World} (h:Keeps K A B) (k:Keeps K B C):Keeps K A C:=⟨h.1.trans k.1,Nat.le_trans h.2 k.2⟩
theorem keeps_b {w:World} (hK:∀ k,K k→k<w.heap.size) (W:World) (l:Nat) (o o':Obj) (hl:w.heap.size≤l) (h:W.heap[l]?=some o) (_:o.isCells=false) (_:o.isWalk=false):Keeps K W (W.putObj l o'):=
 ⟨fun k hk=>World.putObj_heap_other (by have:=hK k hk;omega),by have:=(grownBy_putObj' W l o').size;exact this⟩
theorem ups_stops (n:Nat) (hn:1≤n) (Bs:Nat) (low:Int) (hlo:-9223372036854775808≤low) (hhi:low≤9223372036854775807) (K:Nat→Prop) {b off cap:Nat} (hKs:K Bs) (hK0:K 3) (hK1:K b)
  (w:World) (hK:∀ k,K k→k<w.heap.size) (hT:Tab b off cap w) (hbox:Boxed w Bs 3 (.int .i64 low)) :
  SeqStopsK Fence.wide n Tryz.prog 127 #[.pointer (some ⟨Bs,0,none⟩)] (fun x:Int=>#[Value.int .i64 x]) (Keeps K) (fun ys=>ys=upsP low U)
   (fun pre=>pre <+: upsP low U) (upsP low U).length w:=fun l J Jx W hW hJ _ hY h0=>by
 have hs:Stays K w W:=Stays.of_below hW hK
 exact ups1_in n hn l Bs low hlo hhi K hKs hK0 hK1 J Jx W hJ (fun k hk=>Nat.lt_of_lt_of_le (hK k hk) hW.size) hY (hs.tab hK0 hK1 hT) ((hs _ hKs).trans hbox) h0
end
section
open Go.RowKit Mem
theorem less_any (x y:Int) (w:World):Calls Tryz.prog 153 #[.int .i64 x,.int .i64 y] w fun e w'=>e=.returned (.bool (decide (x<y)))∧w'=w:=by
 go_enter Tryz.func153,Tryz.ntmps153
 go_wp2
 go_ret
 exact ⟨rfl,rfl⟩
def SortW (B:Nat) (w0:World) (cur:List Int) (g n cap:Nat) (W:World):Prop:=W.ownsRow B 3 1 (.slice (some ⟨g,0,none⟩) n cap) n (cur.map i64)∧w0.grownBy W (some g)
theorem SortW.drew {B:Nat} {w0:World} {cur:List Int} {g n cap:Nat} {W:World} (h:SortW B w0 cur g n cap W) (k:Nat):SortW B w0 cur g n cap (W.drewN k):=⟨h.1,only_drewN h.2 k⟩
def ORel (B:Nat) (out:List Int) (g cap:Nat) (w:World) (i:Value) (wr:World):Prop:=∃ (k:Nat) (cur:List Int),i=.int .i64 k∧1≤k∧k≤out.length+1∧cur.Perm out∧(cur.take k).Pairwise (·≤·)∧SortW B w cur g out.length cap wr
def IRel (B:Nat) (out:List Int) (i g cap:Nat) (w:World) (j:Value) (wr:World):Prop:=∃ (k:Nat) (cur:List Int),j=.int .i64 k∧Ins out i k cur∧SortW B w cur g out.length cap wr
theorem ins_any (B:Nat) (out:List Int) (g cap:Nat) (w:World) (hlen:out.length≤1000000) (h:w.ownsRow B 3 1 (.slice (some ⟨g,0,none⟩) out.length cap) out.length (out.map i64)) :
  Calls Tryz.prog 147 #[.slice (some ⟨g,0,none⟩) out.length cap,.int .i64 0,.int .i64 out.length] w fun e w'=>e=.returned (.tuple #[])∧∃ l:List Int,l.Perm out∧l.Pairwise (·≤·)∧SortW B w l g out.length cap w':=by
 have H0:=hide (show SortW B w out g out.length cap w from ⟨h,World.grownBy.refl w _⟩)
 clear h
 go_enter Tryz.func147,Tryz.ntmps147
 go_wp2
 go_loopw [6] (fun i wr=>ORel B out g cap w i wr) (fun i _=>out.length+1-(intOf i).toNat)
 case atStart=>exact ⟨1,out,rfl,by omega,by omega,List.Perm.refl _,pw_one out,H0.1⟩
 case round=>
  obtain ⟨m,cur,rfl,hm1,hm2,hperm,hsort,hcut⟩:=hrel
  have hcl:=hperm.length_eq
  by_cases hmt:m<out.length
  ·have hmt':(m:Int)<(out.length:Int):=by omega
   have HQ:=hide (show IRel B out m g cap w (.int .i64 m) wr from ⟨m,cur,rfl,Ins.start hperm hsort (by omega),hcut⟩)
   clear hcut hsort hperm
   go_wp2
   go_loopw [7] (fun j wr=>IRel B out m g cap w j wr) (fun j _=>(intOf j).toNat)
   case atStart=>exact HQ.1
   case round=>
    obtain ⟨j,cur2,rfl,hins,hcut2⟩:=hrel
    have hjm:j≤m:=by obtain ⟨P,e,Q,Z,_,_,h,_⟩:=hins;omega
    have hcl2:cur2.length=out.length:=by obtain ⟨P,e,Q,Z,_,_,_,hp,_⟩:=hins;exact hp.length_eq
    have hpm2:cur2.Perm out:=by obtain ⟨P,e,Q,Z,_,_,_,hp,_⟩:=hins;exact hp
    have HI:=hide hins
    have HC:=hide hcut2
    have HP:=hide hpm2
    by_cases hj0:j=0
    ·have hd:decide (0<j)=false:=by simp;omega
     have HJ:=hide hj0
     clear hins hcut2 hpm2 hj0
     go_wp2_with fail
     go_quiet (first|(go_at_call 153;refine Calls.quiet_of_same (less_any _ _ _)))
     go_wp2
     first|go_roundw|refine ⟨?rel,?measure⟩
     case rel=>exact ⟨m+1,cur2,by go_num,by omega,by omega,HP.1,HI.1.stop (.inl HJ.1),HC.1.drew _⟩
     case measure=>simp [intOf];omega
    ·obtain ⟨t,rfl⟩:∃ t,j=t+1:=⟨j-1,by omega⟩
     have hd:decide (0<t+1)=true:=by simp
     obtain ⟨p,hp⟩:∃ p,cur2[t]?=some p:=⟨_,List.getElem?_eq_getElem (by omega)⟩
     obtain ⟨e,he⟩:∃ e,cur2[t+1]?=some e:=⟨_,List.getElem?_eq_getElem (by omega)⟩
     have hv:wr.ownsRow B 3 1 (.slice (some ⟨g,0,none⟩) cur2.length cap) cur2.length (cur2.map i64):=by have h:=hcut2.1;rw [← hcl2] at h;exact h
     have c1:wr.cell? ⟨g,t,none⟩=some (.int .i64 p):=(hv.cellAt t (by omega)).trans (by simp [hp,i64])
     have c2:wr.cell? ⟨g,t+1,none⟩=some (.int .i64 e):=(hv.cellAt (t+1) (by omega)).trans (by simp [he,i64])
     have hw1:IntKind.i64.wrap (t:Int)=t:=by simp [IntKind.wrap,IntKind.bits,IntKind.signed];omega
     have htl:(t:Int)<(out.length:Int):=by omega
     have htl2:(t:Int)+1<(out.length:Int):=by omega
     have ht0:(0:Int)≤(t:Int):=by omega
     have HV:=hide hv
     have HPP:=hide hp
     have HEE:=hide he
     clear hins hcut2 hpm2 hj0 hv hp he
     by_cases hep:e<p
     ·have hdp:decide (e<p)=true:=by simpa using hep
      have HEP:=hide hep
      clear hep
      have e1:=HV.1.frozenAt (t+1)
      have e3:=HV.1.frozenAt t
      go_wp2_with fail
      go_quiet (first|(go_at_call 153;refine Calls.quiet_of_same (less_any _ _ _)))
      go_wp2
      go_region
      all_goals go_wp2
      first|go_roundw|refine ⟨?rel,?measure⟩
      case rel=>
       have hv2:(wr.drewN (nq+1)).ownsRow B 3 1 (.slice (some ⟨g,0,none⟩) cur2.length cap) cur2.length (cur2.map i64):=HV.1
       have st:=hv2.stored (t+1) (.int .i64 p)
       have st2:=st.1.stored t (.int .i64 e)
       refine ⟨t,_,by go_num,HI.1.step HPP.1 HEE.1 HEP.1,?_,only_setCell (only_setCell (only_drewN HC.1.2 _) (.inl rfl) _) (.inl rfl) _⟩
       have h:=st2.1
       rw [← hcl2]
       simpa [List.map_set,i64] using h
      case measure=>simp [intOf]
     ·have HEP:=hide hep
      have hdp:decide (e<p)=false:=by simpa using hep
      clear hep
      go_wp2_with fail
      go_quiet (first|(go_at_call 153;refine Calls.quiet_of_same (less_any _ _ _)))
      go_wp2
      first|go_roundw|refine ⟨?rel,?measure⟩
      case rel=>exact ⟨m+1,cur2,by go_num,by omega,by omega,HP.1,HI.1.stop (.inr ⟨t,p,e,rfl,HPP.1,HEE.1,by have:=HEP.1;omega⟩),HC.1.drew _⟩
      case measure=>simp [intOf];omega
  ·have hall:cur.Pairwise (·≤·):=by rwa [List.take_of_length_le (by omega)] at hsort
   have HA:=hide hall
   have HC:=hide hcut
   have HP:=hide hperm
   clear hsort hcut hperm hall
   go_wp2
   go_end0
   exact ⟨rfl,cur,HP.1,HA.1,HC.1⟩
theorem len_any (n:Nat) (hn:n=1∨n=2∨n=3) (w:World):Calls Tryz.prog 116 #[.int .u64 n] w fun e w'=>(∃ k:Int,e=.returned (.int .i64 k))∧w'=w:=by
 rcases hn with rfl|rfl|rfl
 ·go_enter Tryz.func116,Tryz.ntmps116
  go_wp2
  go_ret
  exact ⟨⟨_,rfl⟩,rfl⟩
 ·go_enter Tryz.func116,Tryz.ntmps116
  go_wp2
  go_ret
  exact ⟨⟨_,rfl⟩,rfl⟩
 ·go_enter Tryz.func116,Tryz.ntmps116
  go_wp2
  go_ret
  exact ⟨⟨_,rfl⟩,rfl⟩
theorem pdq_any (B:Nat) (out:List Int) (g cap:Nat) (lim:Int) (w:World) (hlen:out.length≤12) (h:w.ownsRow B 3 1 (.slice (some ⟨g,0,none⟩) out.length cap) out.length (out.map i64)) :
  Calls Tryz.prog 128 #[.slice (some ⟨g,0,none⟩) out.length cap,.int .i64 0,.int .i64 out.length,.int .i64 lim] w fun e w'=>e=.returned (.tuple #[])∧∃ l:List Int,l.Perm out∧l.Pairwise (·≤·)∧SortW B w l g out.length cap w':=by
 have H:=hide h
 clear h
 have h12:(out.length:Int)≤12:=by omega
 go_enter Tryz.func128,Tryz.ntmps128
 go_wp2
 go_loopw [1,2,3,8,9] (fun a b l f1 f2 wr=>a=.int .i64 0∧b=.int .i64 out.length∧wr=w) (fun _ _ _ _ _ _=>0)
 case atStart=>exact ⟨rfl,rfl,rfl⟩
 case round=>
  obtain ⟨rfl,rfl,rfl⟩:=hrel
  go_wp2_with fail
  refine (ins_any B out g cap _ (by omega) H.1).mono ?_
  rintro e w1 ⟨rfl,l,hp,hs,hw⟩
  have HP:=hide hp
  have HS:=hide hs
  have HW:=hide hw
  clear hp hs hw
  go_wp2
  (try simp only [Exit.inBlock,Exit.then]);refine bodyPost_ret (results_none rfl _ _ _) rfl ?_
  exact ⟨rfl,l,HP.1,HS.1,HW.1⟩
theorem sort_any (B:Nat) (out:List Int) (v:Value) (w:World) (hl:out.length=1∨out.length=2∨out.length=3) (h:w.ownsRow B 3 1 v out.length (out.map i64)) :
  Calls Tryz.prog 113 #[v] w fun e w'=>e=.returned (.tuple #[])∧∃ l:List Int,l.Perm out∧l.Pairwise (·≤·)∧w'.ownsRow B 3 1 v l.length (l.map i64)∧w.grownBy w' v.ownBlock:=by
 rcases h.2 with ⟨rfl,h0⟩|⟨g,cap,cur,rfl,h2⟩
 ·omega
 have H:=hide h
 have HL:=hide hl
 clear h h2 hl
 have hw:IntKind.u64.wrap (out.length:Int)=out.length:=by
  have:=HL.1
  simp [IntKind.wrap,IntKind.bits,IntKind.signed];omega
 go_enter Tryz.func113,Tryz.ntmps113
 go_wp2_with fail
 refine (len_any out.length HL.1 w).mono ?_
 rintro e w1 ⟨⟨k,rfl⟩,rfl⟩
 go_wp2_with fail
 refine (pdq_any B out g cap k _ (by have:=HL.1;omega) H.1).mono ?_
 rintro e w2 ⟨rfl,l,hp,hs,hw2⟩
 have HP:=hide hp
 have HS:=hide hs
 have HW:=hide hw2
 clear hp hs hw2
 go_wp2
 go_end0
 exact ⟨rfl,l,HP.1,HS.1,by rw [HP.1.length_eq];exact HW.1.1,HW.1.2⟩
end
end Go.Proofs.YtmlbklcmblofkaaGreatDoor.Fo
