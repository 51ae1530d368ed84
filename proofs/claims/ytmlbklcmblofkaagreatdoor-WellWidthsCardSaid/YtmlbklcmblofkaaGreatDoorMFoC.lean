/-
  fold.Close, walked: the closed list.
-/
import Derived.Test.YtmlbklcmblofkaaGreatDoorMFoE
import Derived.Deep.DeepMust
import Derived.Test.YtmlbklcmblofkaaGreatDoorMRsG
set_option linter.unusedSimpArgs false
set_option linter.unusedVariables false
set_option maxHeartbeats 8000000
set_option maxRecDepth 100000
namespace Go.Proofs.YtmlbklcmblofkaaGreatDoor.Fo
section
open Go.RowKit Mem
open Rs (R Cut info_range build_range below_al below_app flat_append)
attribute [local go_sem] Rs.build_range
def spanR (r:Row):List R:=[(r.lo,r.hi),(r.lo+r.far,r.hi+r.far)]
def spansOf (l:List Row):List R:=l.flatMap spanR
theorem spans_step {k:Nat} {r:Row} (hr:U[k]?=some r):spansOf (U.take (k+1))=spansOf (U.take k)++spanR r:=by
 obtain ⟨hlt,e⟩:=List.getElem?_eq_some_iff.1 hr
 rw [List.take_succ_eq_append_getElem hlt,e]
 simp [spansOf]
theorem spans_len:∀ (l:List Row),(spansOf l).length=2*l.length
 | []=>rfl
 | r :: t=>by
  have:=spans_len t
  unfold spansOf at this ⊢
  rw [List.flatMap_cons,List.length_append,this]
  simp [spanR];omega
def PRel2 (w:World) (v i:Value) (wr:World):Prop:=∃ k:Nat,i=.int .i64 k∧k≤24∧Cut w (spansOf (U.take k)) v wr
theorem spans_any (w:World) {b off cap:Nat} (hT:Tab b off cap w) :
  Calls Tryz.prog 93 #[] w fun e w'=>∃ v,e=.returned v∧Cut w spansL v w':=by
 have hd:=hT.head
 have HT:=hide hT
 clear hT
 go_enter Tryz.func93,Tryz.ntmps93
 go_wp2
 go_loopw [1,6] (fun v i wr=>PRel2 w v i wr) (fun _ i _=>24-(intOf i).toNat)
 case atStart=>exact ⟨0,rfl,by omega,World.ownsRow_nil _ _ _ _,Below.refl _ _⟩
 case round=>
  obtain ⟨k,rfl,hk,hcut⟩:=hrel
  by_cases hlt:k<24
  ·obtain ⟨r,hr⟩:∃ r,U[k]?=some r:=⟨_,List.getElem?_eq_getElem (show k<U.length from hlt)⟩
   obtain ⟨c0,c1,c2,c3⟩:=(HT.1.below hcut.2 (Nat.le_refl _)).rows k r hr
   have hok:=row_ok r (List.mem_of_getElem? hr)
   have hst:=spans_step hr
   have hlen:(spansOf (U.take k)).length≤48:=by rw [spans_len,List.length_take];omega
   have hlt':(k:Int)<24:=by omega
   have hk0:(0:Int)≤(k:Int):=by omega
   obtain ⟨a,z,s,f⟩:=r
   simp only at c0 c1 c2 c3 hok
   have hst2:=hide (show spansOf (U.take (k+1))=spansOf (U.take k)++[(a,z),(a+f,z+f)] from hst)
   have hw1:IntKind.i64.wrap (a+f)=a+f:=wrap_ok _ (by omega) (by omega)
   have hw2:IntKind.i64.wrap (z+f)=z+f:=wrap_ok _ (by omega) (by omega)
   have hcut2:Cut w (spansOf (U.take k)) u1 (wr.alloc (.cells #[.int .i64 a,.int .i64 z,.int .i64 s,.int .i64 f] 152)):=⟨hcut.1.alloc _,below_al hcut.2 hcut.2.size _⟩
   have hwz:=hcut.2.size
   clear hr hd hok hst hcut
   generalize spansOf (U.take k)=pre at *
   have HCUT:=hide hcut2
   clear hcut2
   have hmx:pre.length+2≤maxLen:=by unfold maxLen;omega
   have hone:∀ u∈(#[.int .i64 a,.int .i64 z,.int .i64 (a+f),.int .i64 (z+f)]:Array Value).toList,u.oneCell'=true:=by simp [Value.oneCell']
   obtain ⟨i0,hi,hz0,hz1,hz2⟩:=info_parts info_range
   go_wp2_with (at_builtin;refine wpList_append_any _ rfl (.tmp 10) (.tmp 27) 46 rfl w.heap.size 56 i0 (.agg #[.int .i64 0,.int .i64 0]) 2 16 Tryz.underlying46 hi hz0 hz1 hz2 rfl (by decide) _ pre.length _ rfl (HCUT.1.1.alloc _) _ _ 2 2 _ rfl (Rs.reads_at (by rw [World.size_alloc]) #[.int .i64 a,.int .i64 z,.int .i64 (a+f),.int .i64 (z+f)] 56 2 2 rfl) hone hmx (by omega) (by rw [World.size_alloc,World.size_alloc];omega) ?_;intro v5 w5 ho5 hg5 hn5;have HO5:=hide ho5;have HG5:=hide hg5;clear ho5 hg5 hn5)
   first|go_roundw|refine ⟨⟨_,_,_,?rel,rfl,rfl,rfl⟩,?measure⟩
   case rel=>
    refine ⟨k+1,by go_num,by omega,?_⟩
    rw [hst2.1]
    exact ⟨by rw [flat_append,List.length_append];exact HO5.1,below_app HCUT.1.2 HCUT.1.1 HG5.1⟩
   case measure=>simp [intOf];omega
  ·obtain rfl:k=24:=by omega
   have HC:=hide (show Cut w spansL u1 wr from hcut)
   clear hcut
   go_wp2
   go_ret
   exact ⟨_,rfl,HC.1⟩
end
section
open Go.RowKit Go.Shelf Mem
attribute [local go_sem] Oper.semAt_some
theorem wpListIn_append_at {F:Fence} {n:Nat} {P:Program} (w:World) {ops:Array Oper} {rest:List Oper} {o:Oper} {a:Act} {Q:Exit→Act→World→Prop}
  (hg:o.guard=none) (s x:Operand) (t:TypeId) (hop:o.op=Op.call { callee:=Callee.builtin Builtin.append,args:=#[s,x],argTypes:=#[t,t] })
  (base:Nat) (e:TypeId) (i:TypeInfo) (z:Value) (size bytes:Nat) (h1:P.underlying t=some (.slice e)) (h2:P.info? e=some i) (h3:i.zero=some z) (h4:i.size=size) (h5:i.bytes=bytes) (h6:z.cells.size=size) (h7:0<size)
  (v:Value) (k:Nat) (xs:List Value) (hs:a.eval s=v) (hown:w.ownsRow base e size v k xs) (ad:Addr) (m c:Nat) (news:List Value) (hx:a.eval x=.slice (some ad) m c) (hn:news.length=m*size)
  (hc:∀ j u,news[j]?=some u→w.cell? (ad.add j)=some u) (h1c:∀ u∈news,u.oneCell'=true) (b1:k+m≤maxLen) (b2:(k+m)*bytes≤140737488355328) (b3:base≤w.heap.size)
  (hK:∀ v' w',w'.ownsRow base e size v' (k+m) (xs++news)→w.grownBy w' v.ownBlock→(v'.ownBlock=v.ownBlock∨v'.ownBlock=some w.heap.size)→wpListIn F n P ops Q rest (a.put o.dst v') w') :
  wpListIn F n P ops Q (o :: rest) a w:=by
 refine wpListIn_plain hg fun K hK'=>?_
 obtain ⟨v',w',hrun,r1,r2,_,r3⟩:=run_append_own_at (P:=P) w base t o.type e i z size bytes h1 h2 h3 h4 h5 h6 h7 v k xs hown ad m c news hn hc h1c b1 b2 b3
 unfold Oper.wpIn
 refine ⟨?_,?_⟩
 ·simp [Oper.about,hop,resolve,Target.leads,Sem.run_pure]
 ·rw [Oper.semAt_plain F _ _ (by rw [hop];intro c hc';cases hc')]
  simp [execOp,hop,resolve,invoke,builtin,hs,hx,hrun,Result.andThen]
  exact hK' _ _ (hK v' w' r1 r2 r3)
def KB (B Bs:Nat) (k:Nat):Prop:=k<B∨k=Bs
def AInv (B Bs:Nat) (low:Int) (w:World) (pre:List Int) (W:World):Prop:=
 ((∃ v,Boxed W w.heap.size 47 v∧W.ownsRow B 3 1 v (1+pre.length) ((low :: pre).map i64)∧v.ownBlock≠some Bs)∧Boxed W Bs 3 (.int .i64 low))∧Below B w W
theorem ainv_own (B Bs:Nat) (low:Int) (w:World) (C:Nat) (hC:w.heap.size≤C) (hB:B≤w.heap.size):OwnFrom C (AInv B Bs low w):=
 OwnFrom.and (OwnFrom.and (Own.from (holdsRow_own B w.heap.size 47 3 1 (fun pre:List Int=>1+pre.length) (fun pre=>(low :: pre).map i64) (fun _ v=>v.ownBlock≠some Bs)) _) (Own.from (boxed_own _ _ _) _)) (ownFrom_below hB (Nat.le_trans hB hC))
theorem ainv_step {B Bs:Nat} {low:Int} {w W w1:World} {pre:List Int} {x:Int} {v:Value} {tmp:Obj} {g cap:Nat} (hBw:B≤w.heap.size) (hBs:Bs<w.heap.size) (hv:Boxed W w.heap.size 47 v)
  (hrow:W.ownsRow B 3 1 v (1+pre.length) ((low :: pre).map i64)) (hne:v.ownBlock≠some Bs) (hbx:Boxed W Bs 3 (.int .i64 low)) (hB:Below B w W)
  (hown':w1.ownsRow B 3 1 (.slice (some ⟨g,0,none⟩) (1+pre.length+1) cap) (1+pre.length+1) ((low :: pre).map i64++[.int .i64 x])) (hgrow:(W.alloc tmp).grownBy w1 v.ownBlock)
  (hnew:(Value.slice (some ⟨g,0,none⟩) (1+pre.length+1) cap).ownBlock=v.ownBlock∨(Value.slice (some ⟨g,0,none⟩) (1+pre.length+1) cap).ownBlock=some (W.alloc tmp).heap.size) :
  KeepsOthers W (w1.setCell ⟨w.heap.size,0,none⟩ (.slice (some ⟨g,0,none⟩) (1+pre.length+1) cap))∧Keeps (KB B Bs) W (w1.setCell ⟨w.heap.size,0,none⟩ (.slice (some ⟨g,0,none⟩) (1+pre.length+1) cap)) ∧
   AInv B Bs low w (pre++[x]) (w1.setCell ⟨w.heap.size,0,none⟩ (.slice (some ⟨g,0,none⟩) (1+pre.length+1) cap)):=by
 have hz:=hB.size
 obtain ⟨hv1,hv2,hr2,hk2,hb2⟩:=hv.appended (by decide) hrow (by omega) hBw hown' hgrow
 have hbx2:Boxed (w1.setCell ⟨w.heap.size,0,none⟩ (.slice (some ⟨g,0,none⟩) (1+pre.length+1) cap)) Bs 3 (.int .i64 low):=
  ((hbx.alloc tmp).kept hgrow (fun e=>hne e.symm)).other (by omega) _
 refine ⟨hk2,⟨fun k hk=>?_,hb2.size⟩,⟨⟨⟨_,hv2,?_,?_⟩,hbx2⟩,hB.trans hb2⟩⟩
 ·rcases hk with h|rfl
  ·exact hb2.block k h
  ·exact (show _=_ from hbx2).trans (show _=_ from hbx).symm
 ·have h:=hr2
  simpa [i64,Nat.add_assoc] using h
 ·rcases hnew with h|h
  ·rw [h];exact hne
  ·rw [h,World.size_alloc]
   intro e
   injection e with e
   omega
theorem append_ups (B Bs:Nat) (low:Int) (hlo:-9223372036854775808≤low) (hhi:low≤9223372036854775807) (v0:Value) (w:World) {b off cap:Nat} (hT:Tab b off cap w) (hb0:3<B) (hb1:b<B) (hBw:B≤w.heap.size) (hBs:Bs<w.heap.size)
  (hrow0:w.ownsRow B 3 1 v0 1 [.int .i64 low]) (hne0:v0.ownBlock≠some Bs) (hbx0:Boxed w Bs 3 (.int .i64 low)) :
  Calls Tryz.prog 111 #[v0,.func (.func 127) #[] #[.pointer (some ⟨Bs,0,none⟩)]] w fun e W'=>∃ v,e=.returned v∧W'.ownsRow B 3 1 v (1+(upsP low U).length) ((low :: upsP low U).map i64)∧Below B w W':=by
 refine (callsIn_wide (n:=3)).1 ?_
 obtain ⟨i0,hi,hz0,hz1,hz2⟩:=info_parts info_int
 refine callsIn_of_wp_marks Tryz.func111 rfl trivial ?_ rfl
 simp only [Tryz.ntmps111,List.size_toArray,List.length_cons,List.length_nil,Nat.reduceAdd,Nat.reduceSub,Array.replicate_succ,Array.replicate_zero,List.push_toArray,List.append_toArray,List.nil_append,List.cons_append]
 obtain ⟨g0,c0,rfl⟩:=ownsRow_succ (k:=0) hrow0
 gi_wp2_with fail
 have bO:=Boxed.new w 47 (.slice (some ⟨g0,0,none⟩) (0+1) c0)
 have hB0:Below B w (w.alloc (.cells #[.slice (some ⟨g0,0,none⟩) (0+1) c0] 47)):=(Below.refl _ w).alloc hBw _
 have hBA:Below w.heap.size w (w.alloc (.cells #[.slice (some ⟨g0,0,none⟩) (0+1) c0] 47)):=(Below.refl _ w).alloc (Nat.le_refl _) _
 have hKlt:∀ k,KB B Bs k→k<(w.alloc (.cells #[.slice (some ⟨g0,0,none⟩) (0+1) c0] 47)).heap.size:=fun k hk=>by
  rcases hk with h|h<;>(simp;omega)
 have hups:=ups_two low
 refine wpIn_rangeFunc_ownG rfl (by omega) (gf:=127) (lb:=#[.pointer (some ⟨Bs,0,none⟩)]) rfl trivial (enters_of Tryz.func127 (by kernel_rfl) rfl)
  (ups_stops (3-1) (by omega) Bs low hlo hhi (KB B Bs) (.inr rfl) (.inl hb0) (.inl hb1) _ hKlt (hT.below hBA (Nat.le_refl _)) (hbx0.alloc _)) keeps_t (keeps_b hKlt) (Below.refl _ _) (fun _=>rfl)
  (AInv B Bs low w)
  (fun _ _ _=>False)
  (ainv_own B Bs low w _ (by simp) hBw)
  (fun _ _ _ _ _ hs _ _=>hs)
  ⟨⟨⟨_,bO,hrow0.alloc _,hne0⟩,hbx0.alloc _⟩,hB0⟩
  (fun x=>{ tmps:=#[.slice (some ⟨g0,0,none⟩) (0+1) c0,.func (.func 127) #[] #[.pointer (some ⟨Bs,0,none⟩)],.pointer (some ⟨w.heap.size,0,none⟩),undef,.slice none 0 0,.int .i64 x,.func (.func 127) #[] #[.pointer (some ⟨Bs,0,none⟩)],.int .i64 x,undef,undef,undef,undef,undef],defers:=[] }) ?assign ?body ?done ?stop
 case assign=>
  intro l x W K hK
  gi_wp2
  exact hK
 case body=>
  rintro l pre x W ⟨⟨⟨v,hv,hrow,hne⟩,hbx⟩,hB⟩ hlt
  have hc:=hv.cell
  have hpl:pre.length+1≤2:=by omega
  have hmx:1+pre.length+1≤maxLen:=by unfold maxLen;omega
  gi_wp2_with (gi_at_builtin;refine wpListIn_append_at _ rfl _ _ 47 rfl B 3 i0 (.int .i64 0) 1 8 Tryz.underlying47 hi hz0 hz1 hz2 rfl (by decide) _ _ _ rfl (hrow.alloc _) ⟨W.heap.size,0,none⟩ 1 1 [.int .i64 x] rfl rfl (cell_one_new _ _ _) (by simp [Value.oneCell']) (by omega) (by omega) (by have:=hB.size;simp;omega) ?_;intro v' w1 hown' hgrow hnew;obtain ⟨g',cap',rfl⟩:=ownsRow_succ hown';obtain ⟨hv1,-,-,-,-⟩:=hv.appended (by decide) hrow (by have:=hB.size;omega) hBw hown' hgrow;have hc1:=hv1.cell;have hf1:=hv1.frozen;have HS:=hide (ainv_step (x:=x) hBw hBs hv hrow hne hbx hB hown' hgrow hnew))
  have h:=HS.1
  exact ⟨h.1.from _,h.2⟩
 case done=>
  rintro D ys W hD rfl ⟨⟨⟨v,hv,hrow,hne⟩,hbx⟩,hB⟩ hK
  have hc:=hv.cell
  gi_wp2
  refine ⟨by simp,.inl ⟨_,_,rfl,run_takeDeferred hK,?_⟩⟩
  exact ⟨_,results_tmp rfl _ _ _,v,rfl,ownsRow_putObj hrow _ hK rfl,hB.trans (belowK_b (w:=w) hBw W D _ _ (by simp at hD;omega) hK rfl rfl)⟩
 case stop=>
  rintro D c pre W _ _ h _
  exact h.elim
end
section
open Go.RowKit Go.Shelf Mem
attribute [local go_sem] Oper.semAt_some
theorem orb_of_perm (x:Int) (h0:0≤x) (h1:x≤1114367) {l:List Int} (hp:l.Perm (withP x :: upsP (withP x) U)) (hs:l.Pairwise (·≤·)):l=orb x:=orb_unique (orbit_low x h0 h1 hp hs)
theorem orb_three (x:Int):(orb x).length≤3:=by
 by_cases h:0≤x∧x≤1114367
 ·have e:=orb_of_perm x h.1 h.2 (l:=(withP x :: upsP (withP x) U).mergeSort (fun a b=>decide (a≤b))) (List.mergeSort_perm _ _) (by
   have hs:=List.pairwise_mergeSort (le:=fun a b:Int=>decide (a≤b)) (fun a b c h1 h2=>by simp at h1 h2 ⊢;omega) (fun a b=>by simp;omega) (withP x :: upsP (withP x) U)
   exact hs.imp fun h=>by simpa using h)
  rw [← e,List.length_mergeSort]
  have:=(ups_two (withP x)).1
  simp only [List.length_cons]
  omega
 ·rw [(foldZ_out h).1];simp
theorem one_row (w:World) (z:Int):(w.alloc (.cells #[.int .i64 z] 3)).ownsRow w.heap.size 3 1 (.slice (some ⟨w.heap.size,0,none⟩) 1 1) 1 [.int .i64 z]:=
 ⟨rfl,.inr ⟨w.heap.size,1,#[.int .i64 z],rfl,Nat.le_refl _,World.alloc_heap_new w _,Nat.le_refl _,by unfold maxLen;omega,rfl,rfl⟩⟩
theorem porbit_in (x:Int) (w:World) {b off cap:Nat} (hT:Tab b off cap w) (h0:0≤x) (h1:x≤1114367) :
  Calls Tryz.prog 94 #[.int .i64 x] w fun e w'=>∃ v,e=.returned v∧CutI w (orb x) v w':=by
 have HT:=hide hT
 clear hT
 go_enter Tryz.func94,Tryz.ntmps94
 go_wp2_with fail
 refine (lower_any x w HT.1).mono ?_
 rintro e w1 ⟨rfl,hB1⟩
 have hbd:=withP_bound x h0 h1
 have HO:=hide (fun l hp hs=>orb_of_perm x h0 h1 (l:=l) hp hs)
 have HB1:=hide hB1
 have HT1:=hide (HT.1.below hB1 (Nat.le_refl _))
 clear hB1 HT
 generalize withP x=low at *
 go_wp2_with fail
 refine (uppers_any low _).mono ?_
 rintro e w2 ⟨rfl,rfl⟩
 have hr:=(one_row w1 low).alloc (.cells #[.int .i64 low] 3)
 have hbx:=Boxed.new (w1.alloc (.cells #[.int .i64 low] 3)) 3 (.int .i64 low)
 rw [World.size_alloc] at hbx
 have hB2:Below w1.heap.size w1 ((w1.alloc (.cells #[.int .i64 low] 3)).alloc (.cells #[.int .i64 low] 3)):=((Below.refl _ w1).alloc (Nat.le_refl _) _).alloc (by simp) _
 have hT2:=HT1.1.below hB2 (Nat.le_refl _)
 have hlt:=HT1.1.lt
 have hap:=append_ups w1.heap.size (w1.heap.size+1) low (by omega) (by omega) (.slice (some ⟨w1.heap.size,0,none⟩) 1 1) _ hT2 hlt.1 hlt.2 hB2.size (by simp) hr (by simp [Value.ownBlock]) hbx
 have HAP:=hide hap
 have HB2:=hide hB2
 clear hr hbx hB2 hT2 hlt hap
 go_wp2_with fail
 refine HAP.1.mono ?_
 rintro e w3 ⟨v,rfl,hrow,hB3⟩
 have hups:=ups_two low
 have hlen:(low :: upsP low U).length=1∨(low :: upsP low U).length=2∨(low :: upsP low U).length=3:=by simp only [List.length_cons];omega
 have hrow2:w3.ownsRow w1.heap.size 3 1 v (low :: upsP low U).length ((low :: upsP low U).map i64):=by rw [List.length_cons,Nat.add_comm];exact hrow
 have HROW:=hide hrow2
 have HLEN:=hide hlen
 have HB3:=hide (HB2.1.trans hB3)
 clear hrow hrow2 hlen hB3 hups HB2 HAP
 generalize hout:low :: upsP low U=out at *
 go_wp2_with fail
 refine (sort_any w1.heap.size out v w3 HLEN.1 HROW.1).mono ?_
 rintro e w4 ⟨rfl,l,hp,hs,hrow,hg⟩
 have HP:=hide hp
 have HS:=hide hs
 have HR:=hide hrow
 have HG:=hide hg
 clear hp hs hrow hg
 go_wp2
 go_ret
 have e:=HO.1 l HP.1 HS.1
 subst e
 have hb:=own_base HROW.1
 have h4:Below w1.heap.size w1 w4:=HB3.1.grown HG.1 HB3.1.size hb
 exact ⟨_,rfl,cut_up HB1.1 ⟨HR.1,h4⟩⟩
theorem porbit_out (x:Int) (w:World) (h:¬ (0≤x∧x≤1114367)) :
  Calls Tryz.prog 94 #[.int .i64 x] w fun e w'=>∃ v,e=.returned v∧CutI w (orb x) v w':=by
 have HO:=hide (foldZ_out h).1
 by_cases hn:x<0
 ·clear h
  go_enter Tryz.func94,Tryz.ntmps94
  go_wp2
  go_ret
  refine ⟨_,rfl,?_⟩
  rw [HO.1]
  exact ⟨World.ownsRow_nil _ _ _ _,Below.refl _ _⟩
 ·have hn2:1114367<x:=by omega
  clear h
  go_enter Tryz.func94,Tryz.ntmps94
  go_wp2
  go_ret
  refine ⟨_,rfl,?_⟩
  rw [HO.1]
  exact ⟨World.ownsRow_nil _ _ _ _,Below.refl _ _⟩
theorem porbit_any (x:Int) (w:World) {b off cap:Nat} (hT:Tab b off cap w) :
  Calls Tryz.prog 94 #[.int .i64 x] w fun e w'=>∃ v,e=.returned v∧CutI w (orb x) v w':=by
 by_cases h:0≤x∧x≤1114367
 ·exact porbit_in x w hT h.1 h.2
 ·exact porbit_out x w h
end
section
open Go.RowKit Mem
open Rs (R flat Cut Lst info_range below_al flat_append andL orL sumL okR)
attribute [local go_sem] Rs.build_range
variable {W w1:World} {v:Value}
theorem own_lt {base e size n:Nat} {xs:List Value} (h:W.ownsRow base e size v n xs):∀ g,v.ownBlock=some g→g<W.heap.size:=by
 intro k hk
 rcases h.2 with ⟨rfl,_⟩|⟨g,cap,cur,rfl,hb,hh,_⟩
 ·simp [Value.ownBlock] at hk
 ·obtain rfl:g=k:=by simpa [Value.ownBlock] using hk
  rcases Nat.lt_or_ge g W.heap.size with hlt|hge
  ·exact hlt
  ·rw [Array.getElem?_eq_none hge] at hh;cases hh
theorem own_own_ne {base base' e e' size size' n n':Nat} {v':Value} {xs xs':List Value} (h:W.ownsRow base e size v n xs) (h':W.ownsRow base' e' size' v' n' xs') (hne:e≠e'):v.ownBlock=none∨v.ownBlock≠v'.ownBlock:=by
 rcases h.2 with ⟨rfl,_⟩|⟨g,cap,cur,rfl,_,hh,_⟩
 ·exact .inl (by simp [Value.ownBlock])
 ·right
  rcases h'.2 with ⟨rfl,_⟩|⟨g',cap',cur',rfl,_,hh',_⟩
  ·simp [Value.ownBlock]
  ·intro e1
   have:g=g':=by simpa [Value.ownBlock] using e1
   subst this
   rw [hh] at hh'
   simp at hh'
   exact hne hh'.2
def CInv (gb:Nat) (lo hi:Int) (w1:World) (zs:List R) (v:Value) (W:World):Prop:=Cut w1 zs v W∧Blk W gb 56 #[.int .i64 lo,.int .i64 hi]∧v.ownBlock≠some gb
theorem cinv_start {zs:List R} (h:Cut w1 zs v W) (lo hi:Int):CInv W.heap.size lo hi w1 zs v (W.alloc (.cells #[.int .i64 lo,.int .i64 hi] 56)):=
 ⟨⟨h.1.alloc _,below_al h.2 h.2.size _⟩,Blk.new W _ _,fun e=>by have:=own_lt h.1 _ e;omega⟩
theorem cinv_below {gb:Nat} {lo hi:Int} {W':World} {zs:List R} (h:CInv gb lo hi w1 zs v W) (hb:Below W.heap.size W W'):CInv gb lo hi w1 zs v W':=
 ⟨⟨Rs.own_below h.1.1 hb,h.1.2.trans (hb.mono h.1.2.size)⟩,h.2.1.below hb h.2.1.lt,h.2.2⟩
theorem cinv_app {gb:Nat} {lo hi:Int} {W':World} {zs:List R} {v':Value} {y:Int} {o:Obj} (h:CInv gb lo hi w1 zs v W)
  (ho:W'.ownsRow w1.heap.size 56 2 v' (zs.length+1) (flat zs++(#[.int .i64 y,.int .i64 y]:Array Value).toList)) (hg:(W.alloc o).grownBy W' v.ownBlock)
  (hn:v'.ownBlock=v.ownBlock∨v'.ownBlock=some (W.alloc o).heap.size):CInv gb lo hi w1 (zs++[(y,y)]) v' W':=by
 refine ⟨⟨?_,Rs.below_app h.1.2 h.1.1 hg⟩,(h.2.1.alloc o).grown hg (fun e=>h.2.2 e.symm),?_⟩
 ·rw [flat_append,List.length_append];exact ho
 ·rcases hn with e|e
  ·rw [e];exact h.2.2
  ·rw [e,World.size_alloc]
   have:=h.2.1.lt
   intro e2
   injection e2 with e2
   omega
def orbs (a:Int) (j:Nat):List R:=((List.range j).map fun i:Nat=>a+i).flatMap orbR
theorem orbs_step (a:Int) (j:Nat):orbs a (j+1)=orbs a j++orbR (a+j):=by simp [orbs,List.range_succ]
theorem orbs_len (a:Int):∀ j,(orbs a j).length≤3*j
 | 0=>by simp [orbs]
 | j+1=>by
  have:=orbs_len a j
  have h3:=orb_three (a+j)
  rw [orbs_step,List.length_append]
  simp only [orbR,List.length_map]
  omega
theorem orbs_all (r:R):orbs r.1 (r.2-r.1+1).toNat=(expand r).flatMap orbR:=rfl
theorem same_step {m:List R} {k:Nat} {r:R} (hr:m[k]?=some r):sameL (m.take (k+1))=sameL (m.take k)++orbs r.1 (r.2-r.1+1).toNat:=by
 obtain ⟨hlt,e⟩:=List.getElem?_eq_some_iff.1 hr
 rw [List.take_succ_eq_append_getElem hlt,e,orbs_all]
 simp [sameL]
theorem sum_nonneg:∀ {m:List R},(∀ r∈m,okR r)→0≤sumL m
 | [],_=>by simp
 | r :: t,h=>by
  have:=sum_nonneg (m:=t) fun q hq=>h q (by simp [hq])
  have h1:=h r (by simp)
  unfold okR at h1
  rw [Rs.sumL_cons];omega
theorem same_len:∀ {m:List R},(∀ r∈m,okR r)→((sameL m).length:Int)≤3*sumL m
 | [],_=>by simp [sameL]
 | r :: t,h=>by
  have ih:=same_len (m:=t) fun q hq=>h q (by simp [hq])
  have h1:=h r (by simp)
  unfold okR at h1
  have h2:=orbs_len r.1 (r.2-r.1+1).toNat
  have e:sameL (r :: t)=orbs r.1 (r.2-r.1+1).toNat++sameL t:=by rw [orbs_all];simp [sameL]
  rw [e,List.length_append,Rs.sumL_cons]
  omega
theorem sum_take {m:List R} (hok:∀ r∈m,okR r) {k:Nat} {r:R} (hr:m[k]?=some r):sumL (m.take k)+(r.2-r.1+1)≤sumL m:=by
 obtain ⟨hlt,e⟩:=List.getElem?_eq_some_iff.1 hr
 have h1:m=m.take k++(r :: m.drop (k+1)):=by rw [← e,← List.drop_eq_getElem_cons hlt,List.take_append_drop]
 have h2:sumL m=sumL (m.take k)+sumL (r :: m.drop (k+1)):=by
  conv=>lhs;rw [h1]
  exact Rs.sumL_append _ _
 rw [h2,Rs.sumL_cons]
 have:=sum_nonneg (m:=m.drop (k+1)) fun q hq=>hok q (List.mem_of_mem_drop hq)
 omega
def COut (m:List R) (w1:World) (v i:Value) (wr:World):Prop:=∃ k:Nat,i=.int .i64 k∧k≤m.length∧Cut w1 (sameL (m.take k)) v wr
def CMid (pre:List R) (r:R) (gb:Nat) (w1:World) (v x:Value) (wr:World):Prop:=∃ j:Nat,x=.int .i64 (r.1+j)∧(j:Int)≤r.2-r.1+1∧CInv gb r.1 r.2 w1 (pre++orbs r.1 j) v wr
def CIn (zs:List R) (os:List Int) (u:Value) (B5 gb:Nat) (lo hi:Int) (w1:World) (v i:Value) (wr:World):Prop:=∃ p:Nat,i=.int .i64 p∧p≤os.length∧CInv gb lo hi w1 (zs++(os.take p).map fun y=>(y,y)) v wr∧wr.ownsRow B5 3 1 u os.length (os.map i64)
theorem pclose_any (l:List R) (A:Option Addr) (ca:Nat) (w:World) {b off cap:Nat} (hT:Tab b off cap w) (hlen:l.length≤40000) (hca:l.length≤ca) (hl:Lst w w.heap.size A l) :
  Calls Tryz.prog 77 #[.slice A l.length ca] w fun e w'=>∃ v,e=.returned v∧Cut w (closeL l) v w':=by
 have HT:=hide hT
 have HL:=hide hl
 clear hT hl
 obtain ⟨i0,hi,hz0,hz1,hz2⟩:=info_parts info_range
 go_enter Tryz.func77,Tryz.ntmps77
 go_wp2_with fail
 refine (spans_any w HT.1).mono ?_
 rintro e w0 ⟨v0,rfl,hcut0⟩
 obtain ⟨A0,c0,rfl,hl0,hc0,hcm0⟩:=Rs.own_lst hcut0.1
 have HB0:=hide hcut0.2
 have HL0:=hide hl0
 have HLw:=hide (HL.1.below hcut0.2 |>.more hcut0.2.size)
 have hsl:spansL.length=48:=by decide +kernel
 have HM:=hide (and_sum l)
 have HK:=hide (Rs.andL_least l spansL).ok
 have HFIN:=hide (show closeL l=orL l (sameL (andL l spansL)) from rfl)
 clear hcut0 hl0
 have HAND:=hide (Rs.and_any l spansL A A0 ca c0 w0 (by omega) (by omega) hca hc0 HLw.1 HL0.1)
 clear hc0 hsl
 generalize spansL=sp at *
 go_wp2_with fail
 refine HAND.1.mono ?_
 rintro e w1 ⟨v1,rfl,hcut1⟩
 obtain ⟨A1,c1,rfl,hl1,hc1,hcm1⟩:=Rs.own_lst hcut1.1
 have HB1:=hide (HB0.1.trans (hcut1.2.mono HB0.1.size))
 have HL1:=hide hl1
 have HLw1:=hide (HL.1.below HB1.1 |>.more HB1.1.size)
 have HT1:=hide (HT.1.below HB1.1 (Nat.le_refl _))
 clear hcut1 hl1 HAND HLw HL0
 have hml:(andL l sp).length≤9223372036854775807:=by unfold maxLen at hcm1;omega
 generalize andL l sp=m at *
 go_wp2
 go_loopw [3,13] (fun v i wr=>COut m w1 v i wr) (fun _ i _=>m.length-(intOf i).toNat)
 case atStart=>exact ⟨0,rfl,Nat.zero_le _,World.ownsRow_nil _ _ _ _,Below.refl _ _⟩
 case round=>
  obtain ⟨k,rfl,hk,hcut⟩:=hrel
  by_cases hlt:k<m.length
  ·obtain ⟨b2,o2,rfl,hb2,hcs⟩:=HL1.1 (by omega)
   obtain ⟨r,hr⟩:∃ r,m[k]?=some r:=⟨_,List.getElem?_eq_getElem hlt⟩
   have c1:wr.cell? ⟨b2,o2+k*2,none⟩=some (.int .i64 r.1):=(hcut.2.cell (p:=⟨b2,o2+k*2,none⟩) hb2).trans (hcs k r hr).1
   have c2:wr.cell? ⟨b2,o2+k*2+1,none⟩=some (.int .i64 r.2):=(hcut.2.cell (p:=⟨b2,o2+k*2+1,none⟩) hb2).trans (hcs k r hr).2
   have hlt':(k:Int)<(m.length:Int):=by omega
   have hrok:=HK.1 r (List.mem_of_getElem? hr)
   unfold okR at hrok
   have hst:=same_step hr
   have hsum:=sum_take HK.1 hr
   have hpl:=same_len (m:=m.take k) fun q hq=>HK.1 q (List.mem_of_mem_take hq)
   have hmm:=HM.1
   have hpre:((sameL (m.take k)).length:Int)+3*(r.2-r.1+1)≤6000:=by omega
   have HST:=hide hst
   have HC:=hide hcut
   clear hcs hr hcut hst hsum hpl hmm hb2
   generalize sameL (m.take k)=pre at *
   go_wp2
   have hst0:=cinv_start HC.1 r.1 r.2
   obtain ⟨gb,hgb⟩:∃ gb,wr.heap.size=gb:=⟨_,rfl⟩
   rw [hgb] at hst0
   rw [hgb]
   have HST0:=hide hst0
   clear hst0 c1 c2 hgb
   go_loopw [3,6] (fun v x wx=>CMid pre r gb w1 v x wx) (fun _ x _=>(r.2+1-intOf x).toNat)
   case atStart=>exact ⟨0,by simp,by omega,by simpa [orbs] using HST0.1⟩
   case round=>
    obtain ⟨j,rfl,hj,hinv⟩:=hrel
    have c3:=hinv.2.1.cell 1
    simp only [List.getElem?_toArray,List.getElem?_cons_succ,List.getElem?_cons_zero] at c3
    by_cases hle:r.1+(j:Int)≤r.2
    ·have HINV:=hide hinv
     have hbw:=hinv.1.2
     have HTr:=hide (HT1.1.below hbw (Nat.le_refl _))
     have hos3:=orb_three (r.1+(j:Int))
     have hob:=orbs_step r.1 j
     have hol:=orbs_len r.1 j
     have hzl:(pre++orbs r.1 j).length≤6000:=by rw [List.length_append];omega
     have HOS:=hide (show pre++orbs r.1 (j+1)=(pre++orbs r.1 j)++(orb (r.1+(j:Int))).map fun y=>(y,y) by rw [hob,List.append_assoc];rfl)
     clear hinv hbw hob hol
     go_wp2_with fail
     refine (porbit_any (r.1+(j:Int)) wr HTr.1).mono ?_
     rintro e w3 ⟨u,rfl,hcut3⟩
     have HINV3:=hide (cinv_below HINV.1 hcut3.2)
     have HU:=hide hcut3.1
     obtain ⟨A5,c5,rfl,hr5,hc5⟩:=own_reads hcut3.1
     clear hcut3 HINV hr5 c3
     generalize orb (r.1+(j:Int))=os at *
     generalize pre++orbs r.1 j=zs at *
     generalize wr.heap.size=B5 at *
     go_wp2
     go_loopw [3,28] (fun v i wx=>CIn zs os (.slice A5 os.length c5) B5 gb r.1 r.2 w1 v i wx) (fun _ i _=>os.length-(intOf i).toNat)
     case atStart=>exact ⟨0,rfl,Nat.zero_le _,by simpa using HINV3.1,HU.1⟩
     case round=>
      obtain ⟨p,rfl,hp,hin,hown⟩:=hrel
      by_cases hpl:p<os.length
      ·have hrd:=Reads.of_own hown
       obtain ⟨g6,o6,rfl,_,hc6⟩:=hrd.flat (by omega)
       obtain ⟨y,hy⟩:∃ y,os[p]?=some y:=⟨_,List.getElem?_eq_getElem hpl⟩
       have c6:wr.cell? ⟨g6,o6+p,none⟩=some (.int .i64 y):=hc6 p _ (by simp [hy,i64])
       have hpl':(p:Int)<(os.length:Int):=by omega
       have htk:os.take (p+1)=os.take p++[y]:=by
        have e:os[p]=y:=by simpa [List.getElem?_eq_getElem hpl] using hy
        rw [List.take_succ_eq_append_getElem hpl,e]
       have HTK:=hide (show zs++(os.take (p+1)).map (fun y=>(y,y))=(zs++(os.take p).map fun y=>(y,y))++[(y,y)] by rw [htk];simp)
       have hql:(zs++(os.take p).map fun y=>((y,y):R)).length≤6003:=by
        rw [List.length_append,List.length_map]
        have:=List.length_take_le p os
        omega
       have hwz:=hin.1.2.size
       have HIN:=hide hin
       have HOWN:=hide hown
       clear hrd hc6 hy htk hin hown
       generalize zs++(os.take p).map (fun y=>((y,y):R))=qs at *
       have hmx:qs.length+1≤maxLen:=by unfold maxLen;omega
       have hone:∀ u∈(#[.int .i64 y,.int .i64 y]:Array Value).toList,u.oneCell'=true:=by simp [Value.oneCell']
       go_wp2_with (at_builtin;refine wpList_append_any _ rfl (.tmp 32) (.tmp 36) 46 rfl w1.heap.size 56 i0 (.agg #[.int .i64 0,.int .i64 0]) 2 16 Tryz.underlying46 hi hz0 hz1 hz2 rfl (by decide) _ qs.length _ rfl (HIN.1.1.1.alloc _) _ _ 1 1 _ rfl (Rs.reads_new wr #[.int .i64 y,.int .i64 y] 56 1 2 rfl) hone hmx (by omega) (by rw [World.size_alloc];omega) ?_;intro v5 w5 ho5 hg5 hn5;have HO5:=hide ho5;have HG5:=hide hg5;have HN5:=hide hn5;clear ho5 hg5 hn5)
       first|go_roundw|refine ⟨?rel,?measure⟩
       case rel=>exact ⟨p+1,by go_num,by omega,by rw [HTK.1];exact cinv_app HIN.1 HO5.1 HG5.1 HN5.1,(HOWN.1.alloc _).kept HG5.1 (own_own_ne HOWN.1 HIN.1.1.1 (by decide))⟩
       case measure=>simp [intOf];omega
      ·obtain rfl:p=os.length:=by omega
       rw [List.take_length] at hin
       have HIN:=hide hin
       clear hin hown
       go_wp2
       refine ⟨⟨j+1,by go_num,by omega,by rw [HOS.1];exact HIN.1⟩,by simp [intOf];omega⟩
    ·have hj2:j=(r.2-r.1+1).toNat:=by omega
     have hdle:decide (r.1+(j:Int)≤r.2)=false:=by simpa using hle
     have HINV:=hide hinv
     clear hinv hle
     go_wp2
     refine ⟨⟨k+1,by go_num,by omega,by rw [HST.1,← hj2];exact HINV.1.1⟩,by simp [intOf];omega⟩
  ·obtain rfl:k=m.length:=by omega
   rw [List.take_length] at hcut
   obtain ⟨A7,c7,rfl,hl7,hc7,hcm7⟩:=Rs.own_lst hcut.1
   have hsl:=same_len HK.1
   have hmm:=HM.1
   have HLR:=hide (HLw1.1.below (hcut.2.mono (Nat.le_refl _)) |>.more hcut.2.size)
   have HL7:=hide hl7
   have HB7:=hide (HB1.1.trans (hcut.2.mono HB1.1.size))
   have hs5:(sameL m).length≤50000:=by omega
   clear hcut hl7 hsl hmm
   generalize sameL m=sm at *
   go_wp2_with fail
   refine (Rs.or_any l sm A A7 ca c7 wr (by omega) hs5 HLR.1 HL7.1).mono ?_
   rintro e w8 ⟨v8,rfl,hcut8⟩
   have HC8:=hide hcut8
   clear hcut8
   go_wp2
   go_ret
   exact ⟨_,rfl,by rw [HFIN.1];exact Rs.own_lower HC8.1.1 HB7.1.size,HB7.1.trans (HC8.1.2.mono HB7.1.size)⟩
end
end Go.Proofs.YtmlbklcmblofkaaGreatDoor.Fo
