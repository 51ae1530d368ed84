/-
  fold.Orbit, walked: a number's orbit, rising.
-/
import Derived.Deep.DeepMust
import Derived.Test.YtmlbklcmblofkaaGreatDoorMFoE
set_option linter.unusedSimpArgs false
set_option linter.unusedVariables false
set_option maxHeartbeats 2000000
set_option maxRecDepth 100000
namespace Go.Proofs.YtmlbklcmblofkaaGreatDoor.Fo
section
open Go.RowKit Go.Shelf Mem
attribute [local go_sem] Oper.semAt_some
theorem wpListIn_append_at {F:Fence} {n:Nat} {P:Program} (w:World) {ops:Array Oper} {rest:List Oper} {o:Oper} {a:Act} {Q:Exit→Act→World→Prop}
  (hg:o.guard=none) (s x:Operand) (t:TypeId) (hop:o.op=Op.call { callee:=Callee.builtin Builtin.append,args:=#[s,x],argTypes:=#[t,t] })
  (base:Nat) (e:TypeId) (i:TypeInfo) (z:Value) (size bytes:Nat) (h1:P.underlying t=some (.slice e)) (h2:P.info? e=some i) (h3:i.zero=some z) (h4:i.size=size) (h5:i.bytes=bytes) (h6:z.cells.size=size) (h7:0<size)
  (v:Value) (k:Nat) (xs:List Value) (hs:a.eval s=v) (hown:w.ownsRow base e size v k xs) (ad:Addr) (m c:Nat) (news:List Value) (hx:a.eval x=.slice (some ad) m c) (hn:news.length=m*size)
  (hc:∀ j u,news[j]?=some u→w.cell? (ad.add j)=some u) (h1c:∀ u∈news,u.oneCell'=true) (b1:k+m≤maxLen) (b2:(k+m)*bytes≤140737488355328) (b3:base≤w.heap.size)
  (hK:∀ v' w',w'.ownsRow base e size v' (k+m) (xs++news)→w.grownBy w' v.ownBlock→(v'.ownBlock=v.ownBlock∨v'.ownBlock=some w.heap.size)→wpListIn F n P ops Q rest (a.put o.dst v') w') :
  wpListIn F n P ops Q (o :: rest) a w:=by
 refine wpListIn_plain hg fun K hK'=>?_
 obtain ⟨v',w',hrun,r1,r2,_,r3⟩:=run_append_own_at (P:=P) w base t o.type e i z size bytes h1 h2 h3 h4 h5 h6 h7 v k xs hown ad m c news hn hc h1c b1 b2 b3
 unfold Oper.wpIn
 refine ⟨?_,?_⟩
 ·simp [Oper.about,hop,resolve,Target.leads,Sem.run_pure]
 ·rw [Oper.semAt_plain F _ _ (by rw [hop];intro c hc';cases hc')]
  simp [execOp,hop,resolve,invoke,builtin,hs,hx,hrun,Result.andThen]
  exact hK' _ _ (hK v' w' r1 r2 r3)
def KB (B Bs:Nat) (k:Nat):Prop:=k<B∨k=Bs
def AInv (B Bs:Nat) (low:Int) (w:World) (pre:List Int) (W:World):Prop:=
 ((∃ v,Boxed W w.heap.size 47 v∧W.ownsRow B 3 1 v (1+pre.length) ((low :: pre).map i64)∧v.ownBlock≠some Bs)∧Boxed W Bs 3 (.int .i64 low))∧Below B w W
theorem ainv_own (B Bs:Nat) (low:Int) (w:World) (C:Nat) (hC:w.heap.size≤C) (hB:B≤w.heap.size):OwnFrom C (AInv B Bs low w):=
 OwnFrom.and (OwnFrom.and (Own.from (holdsRow_own B w.heap.size 47 3 1 (fun pre:List Int=>1+pre.length) (fun pre=>(low :: pre).map i64) (fun _ v=>v.ownBlock≠some Bs)) _) (Own.from (boxed_own _ _ _) _)) (ownFrom_below hB (Nat.le_trans hB hC))
theorem ainv_step {B Bs:Nat} {low:Int} {w W w1:World} {pre:List Int} {x:Int} {v:Value} {tmp:Obj} {g cap:Nat} (hBw:B≤w.heap.size) (hBs:Bs<w.heap.size) (hv:Boxed W w.heap.size 47 v)
  (hrow:W.ownsRow B 3 1 v (1+pre.length) ((low :: pre).map i64)) (hne:v.ownBlock≠some Bs) (hbx:Boxed W Bs 3 (.int .i64 low)) (hB:Below B w W)
  (hown':w1.ownsRow B 3 1 (.slice (some ⟨g,0,none⟩) (1+pre.length+1) cap) (1+pre.length+1) ((low :: pre).map i64++[.int .i64 x])) (hgrow:(W.alloc tmp).grownBy w1 v.ownBlock)
  (hnew:(Value.slice (some ⟨g,0,none⟩) (1+pre.length+1) cap).ownBlock=v.ownBlock∨(Value.slice (some ⟨g,0,none⟩) (1+pre.length+1) cap).ownBlock=some (W.alloc tmp).heap.size) :
  KeepsOthers W (w1.setCell ⟨w.heap.size,0,none⟩ (.slice (some ⟨g,0,none⟩) (1+pre.length+1) cap))∧Keeps (KB B Bs) W (w1.setCell ⟨w.heap.size,0,none⟩ (.slice (some ⟨g,0,none⟩) (1+pre.length+1) cap)) ∧
   AInv B Bs low w (pre++[x]) (w1.setCell ⟨w.heap.size,0,none⟩ (.slice (some ⟨g,0,none⟩) (1+pre.length+1) cap)):=by
 have hz:=hB.size
 obtain ⟨hv1,hv2,hr2,hk2,hb2⟩:=hv.appended (by decide) hrow (by omega) hBw hown' hgrow
 have hbx2:Boxed (w1.setCell ⟨w.heap.size,0,none⟩ (.slice (some ⟨g,0,none⟩) (1+pre.length+1) cap)) Bs 3 (.int .i64 low):=
  ((hbx.alloc tmp).kept hgrow (fun e=>hne e.symm)).other (by omega) _
 refine ⟨hk2,⟨fun k hk=>?_,hb2.size⟩,⟨⟨⟨_,hv2,?_,?_⟩,hbx2⟩,hB.trans hb2⟩⟩
 ·rcases hk with h|rfl
  ·exact hb2.block k h
  ·exact (show _=_ from hbx2).trans (show _=_ from hbx).symm
 ·have h:=hr2
  simpa [i64,Nat.add_assoc] using h
 ·rcases hnew with h|h
  ·rw [h];exact hne
  ·rw [h,World.size_alloc]
   intro e
   injection e with e
   omega
theorem append_ups (B Bs:Nat) (low:Int) (hlo:-9223372036854775808≤low) (hhi:low≤9223372036854775807) (v0:Value) (w:World) {b off cap:Nat} (hT:Tab b off cap w) (hb0:3<B) (hb1:b<B) (hBw:B≤w.heap.size) (hBs:Bs<w.heap.size)
  (hrow0:w.ownsRow B 3 1 v0 1 [.int .i64 low]) (hne0:v0.ownBlock≠some Bs) (hbx0:Boxed w Bs 3 (.int .i64 low)) :
  Calls Tryz.prog 111 #[v0,.func (.func 127) #[] #[.pointer (some ⟨Bs,0,none⟩)]] w fun e W'=>∃ v,e=.returned v∧W'.ownsRow B 3 1 v (1+(upsP low U).length) ((low :: upsP low U).map i64)∧Below B w W':=by
 refine (callsIn_wide (n:=3)).1 ?_
 obtain ⟨i0,hi,hz0,hz1,hz2⟩:=info_parts info_int
 refine callsIn_of_wp_marks Tryz.func111 rfl trivial ?_ rfl
 simp only [Tryz.ntmps111,List.size_toArray,List.length_cons,List.length_nil,Nat.reduceAdd,Nat.reduceSub,Array.replicate_succ,Array.replicate_zero,List.push_toArray,List.append_toArray,List.nil_append,List.cons_append]
 obtain ⟨g0,c0,rfl⟩:=ownsRow_succ (k:=0) hrow0
 gi_wp2_with fail
 have bO:=Boxed.new w 47 (.slice (some ⟨g0,0,none⟩) (0+1) c0)
 have hB0:Below B w (w.alloc (.cells #[.slice (some ⟨g0,0,none⟩) (0+1) c0] 47)):=(Below.refl _ w).alloc hBw _
 have hBA:Below w.heap.size w (w.alloc (.cells #[.slice (some ⟨g0,0,none⟩) (0+1) c0] 47)):=(Below.refl _ w).alloc (Nat.le_refl _) _
 have hKlt:∀ k,KB B Bs k→k<(w.alloc (.cells #[.slice (some ⟨g0,0,none⟩) (0+1) c0] 47)).heap.size:=fun k hk=>by
  rcases hk with h|h<;>(simp;omega)
 have hups:=ups_two low
 refine wpIn_rangeFunc_ownG rfl (by omega) (gf:=127) (lb:=#[.pointer (some ⟨Bs,0,none⟩)]) rfl trivial (enters_of Tryz.func127 (by kernel_rfl) rfl)
  (ups_stops (3-1) (by omega) Bs low hlo hhi (KB B Bs) (.inr rfl) (.inl hb0) (.inl hb1) _ hKlt (hT.below hBA (Nat.le_refl _)) (hbx0.alloc _)) keeps_t (keeps_b hKlt) (Below.refl _ _) (fun _=>rfl)
  (AInv B Bs low w)
  (fun _ _ _=>False)
  (ainv_own B Bs low w _ (by simp) hBw)
  (fun _ _ _ _ _ hs _ _=>hs)
  ⟨⟨⟨_,bO,hrow0.alloc _,hne0⟩,hbx0.alloc _⟩,hB0⟩
  (fun x=>{ tmps:=#[.slice (some ⟨g0,0,none⟩) (0+1) c0,.func (.func 127) #[] #[.pointer (some ⟨Bs,0,none⟩)],.pointer (some ⟨w.heap.size,0,none⟩),undef,.slice none 0 0,.int .i64 x,.func (.func 127) #[] #[.pointer (some ⟨Bs,0,none⟩)],.int .i64 x,undef,undef,undef,undef,undef],defers:=[] }) ?assign ?body ?done ?stop
 case assign=>
  intro l x W K hK
  gi_wp2
  exact hK
 case body=>
  rintro l pre x W ⟨⟨⟨v,hv,hrow,hne⟩,hbx⟩,hB⟩ hlt
  have hc:=hv.cell
  have hpl:pre.length+1≤2:=by omega
  have hmx:1+pre.length+1≤maxLen:=by unfold maxLen;omega
  gi_wp2_with (gi_at_builtin;refine wpListIn_append_at _ rfl _ _ 47 rfl B 3 i0 (.int .i64 0) 1 8 Tryz.underlying47 hi hz0 hz1 hz2 rfl (by decide) _ _ _ rfl (hrow.alloc _) ⟨W.heap.size,0,none⟩ 1 1 [.int .i64 x] rfl rfl (cell_one_new _ _ _) (by simp [Value.oneCell']) (by omega) (by omega) (by have:=hB.size;simp;omega) ?_;intro v' w1 hown' hgrow hnew;obtain ⟨g',cap',rfl⟩:=ownsRow_succ hown';obtain ⟨hv1,-,-,-,-⟩:=hv.appended (by decide) hrow (by have:=hB.size;omega) hBw hown' hgrow;have hc1:=hv1.cell;have hf1:=hv1.frozen;have HS:=hide (ainv_step (x:=x) hBw hBs hv hrow hne hbx hB hown' hgrow hnew))
  have h:=HS.1
  exact ⟨h.1.from _,h.2⟩
 case done=>
  rintro D ys W hD rfl ⟨⟨⟨v,hv,hrow,hne⟩,hbx⟩,hB⟩ hK
  have hc:=hv.cell
  gi_wp2
  refine ⟨by simp,.inl ⟨_,_,rfl,run_takeDeferred hK,?_⟩⟩
  exact ⟨_,results_tmp rfl _ _ _,v,rfl,ownsRow_putObj hrow _ hK rfl,hB.trans (belowK_b (w:=w) hBw W D _ _ (by simp at hD;omega) hK rfl rfl)⟩
 case stop=>
  rintro D c pre W _ _ h _
  exact h.elim
end
section
open Go.RowKit Go.Shelf Mem
attribute [local go_sem] Oper.semAt_some
theorem orb_of_perm (x:Int) (h0:0≤x) (h1:x≤1114367) {l:List Int} (hp:l.Perm (withP x :: upsP (withP x) U)) (hs:l.Pairwise (·≤·)):l=orb x:=orb_unique (orbit_low x h0 h1 hp hs)
theorem orb_three (x:Int):(orb x).length≤3:=by
 by_cases h:0≤x∧x≤1114367
 ·have e:=orb_of_perm x h.1 h.2 (l:=(withP x :: upsP (withP x) U).mergeSort (fun a b=>decide (a≤b))) (List.mergeSort_perm _ _) (by
   have hs:=List.pairwise_mergeSort (le:=fun a b:Int=>decide (a≤b)) (fun a b c h1 h2=>by simp at h1 h2 ⊢;omega) (fun a b=>by simp;omega) (withP x :: upsP (withP x) U)
   exact hs.imp fun h=>by simpa using h)
  rw [← e,List.length_mergeSort]
  have:=(ups_two (withP x)).1
  simp only [List.length_cons]
  omega
 ·rw [(foldZ_out h).1];simp
theorem one_row (w:World) (z:Int):(w.alloc (.cells #[.int .i64 z] 3)).ownsRow w.heap.size 3 1 (.slice (some ⟨w.heap.size,0,none⟩) 1 1) 1 [.int .i64 z]:=
 ⟨rfl,.inr ⟨w.heap.size,1,#[.int .i64 z],rfl,Nat.le_refl _,World.alloc_heap_new w _,Nat.le_refl _,by unfold maxLen;omega,rfl,rfl⟩⟩
theorem porbit_in (x:Int) (w:World) {b off cap:Nat} (hT:Tab b off cap w) (h0:0≤x) (h1:x≤1114367) :
  Calls Tryz.prog 94 #[.int .i64 x] w fun e w'=>∃ v,e=.returned v∧CutI w (orb x) v w':=by
 have HT:=hide hT
 clear hT
 go_enter Tryz.func94,Tryz.ntmps94
 go_wp2_with fail
 refine (lower_any x w HT.1).mono ?_
 rintro e w1 ⟨rfl,hB1⟩
 have hbd:=withP_bound x h0 h1
 have HO:=hide (fun l hp hs=>orb_of_perm x h0 h1 (l:=l) hp hs)
 have HB1:=hide hB1
 have HT1:=hide (HT.1.below hB1 (Nat.le_refl _))
 clear hB1 HT
 generalize withP x=low at *
 go_wp2_with fail
 refine (uppers_any low _).mono ?_
 rintro e w2 ⟨rfl,rfl⟩
 have hr:=(one_row w1 low).alloc (.cells #[.int .i64 low] 3)
 have hbx:=Boxed.new (w1.alloc (.cells #[.int .i64 low] 3)) 3 (.int .i64 low)
 rw [World.size_alloc] at hbx
 have hB2:Below w1.heap.size w1 ((w1.alloc (.cells #[.int .i64 low] 3)).alloc (.cells #[.int .i64 low] 3)):=((Below.refl _ w1).alloc (Nat.le_refl _) _).alloc (by simp) _
 have hT2:=HT1.1.below hB2 (Nat.le_refl _)
 have hlt:=HT1.1.lt
 have hap:=append_ups w1.heap.size (w1.heap.size+1) low (by omega) (by omega) (.slice (some ⟨w1.heap.size,0,none⟩) 1 1) _ hT2 hlt.1 hlt.2 hB2.size (by simp) hr (by simp [Value.ownBlock]) hbx
 have HAP:=hide hap
 have HB2:=hide hB2
 clear hr hbx hB2 hT2 hlt hap
 go_wp2_with fail
 refine HAP.1.mono ?_
 rintro e w3 ⟨v,rfl,hrow,hB3⟩
 have hups:=ups_two low
 have hlen:(low :: upsP low U).length=1∨(low :: upsP low U).length=2∨(low :: upsP low U).length=3:=by simp only [List.length_cons];omega
 have hrow2:w3.ownsRow w1.heap.size 3 1 v (low :: upsP low U).length ((low :: upsP low U).map i64):=by rw [List.length_cons,Nat.add_comm];exact hrow
 have HROW:=hide hrow2
 have HLEN:=hide hlen
 have HB3:=hide (HB2.1.trans hB3)
 clear hrow hrow2 hlen hB3 hups HB2 HAP
 generalize hout:low :: upsP low U=out at *
 go_wp2_with fail
 refine (sort_any w1.heap.size out v w3 HLEN.1 HROW.1).mono ?_
 rintro e w4 ⟨rfl,l,hp,hs,hrow,hg⟩
 have HP:=hide hp
 have HS:=hide hs
 have HR:=hide hrow
 have HG:=hide hg
 clear hp hs hrow hg
 go_wp2
 go_ret
 have e:=HO.1 l HP.1 HS.1
 subst e
 have hb:=own_base HROW.1
 have h4:Below w1.heap.size w1 w4:=HB3.1.grown HG.1 HB3.1.size hb
 exact ⟨_,rfl,cut_up HB1.1 ⟨HR.1,h4⟩⟩
theorem porbit_out (x:Int) (w:World) (h:¬ (0≤x∧x≤1114367)) :
  Calls Tryz.prog 94 #[.int .i64 x] w fun e w'=>∃ v,e=.returned v∧CutI w (orb x) v w':=by
 have HO:=hide (foldZ_out h).1
 by_cases hn:x<0
 ·clear h
  go_enter Tryz.func94,Tryz.ntmps94
  go_wp2
  go_ret
  refine ⟨_,rfl,?_⟩
  rw [HO.1]
  exact ⟨World.ownsRow_nil _ _ _ _,Below.refl _ _⟩
 ·have hn2:1114367<x:=by omega
  clear h
  go_enter Tryz.func94,Tryz.ntmps94
  go_wp2
  go_ret
  refine ⟨_,rfl,?_⟩
  rw [HO.1]
  exact ⟨World.ownsRow_nil _ _ _ _,Below.refl _ _⟩
theorem porbit_any (x:Int) (w:World) {b off cap:Nat} (hT:Tab b off cap w) :
  Calls Tryz.prog 94 #[.int .i64 x] w fun e w'=>∃ v,e=.returned v∧CutI w (orb x) v w':=by
 by_cases h:0≤x∧x≤1114367
 ·exact porbit_in x w hT h.1 h.2
 ·exact porbit_out x w h
end
end Go.Proofs.YtmlbklcmblofkaaGreatDoor.Fo
