/-
  rset.Of, walked.
-/
import Derived.Shelf.SlSortCmp.NoneTotal
import Derived.Shelf.SlSortCmp.WholeK
import Derived.Shelf.SlicesG.Cmp
import Derived.Shelf.Lay
import Derived.Shelf.SlGeneric
import Derived.Ground.SlsfProg
import Derived.Ground.SlgcProg
import Derived.Ground.NamesProg
import Derived.Deep.QuietTactic
import Derived.BigQuiet
import Derived.Laws.Slices
import Derived.Lib.Walk
import Derived.Test.YtmlbklcmblofkaaGreatDoorMRsA
set_option linter.unusedSimpArgs false
set_option linter.unusedVariables false
set_option maxHeartbeats 4000000
set_option maxRecDepth 100000
namespace Go.Proofs
shelf_lay_g SlLaysF0.n6 Slsf 6 at Tryz 97 as Tryz.sortRg
shelf_lay_g SlLaysC2.n5 Slgc 5 at Tryz 99 as Tryz.cmpRg
end Go.Proofs
namespace Go.Proofs.YtmlbklcmblofkaaGreatDoor.Rs
section
open Go.Shelf Go.RowKit Mem
theorem by_lo (x y:R) (W:World):Calls Tryz.prog 98 #[.agg #[.int .i64 x.1,.int .i64 x.2],.agg #[.int .i64 y.1,.int .i64 y.2]] W fun e w'=>e=.returned (.int .i64 (Lib.compareInt x.1 y.1))∧∃ q os',w'=Sort.grow (W.drewN q) os':=by
 have hcon:=fun W'=>AnyG.cmp_Compare_int Tryz.cmpRg x.1 y.1 W'
 change ∀ W',Calls Tryz.prog 99 _ _ _ at hcon
 generalize Lib.compareInt x.1 y.1=r at hcon ⊢
 go_enter Tryz.func98,Tryz.ntmps98
 go_wp2_with (go_at_call 99;refine (hcon _).mono ?_;rintro e w' ⟨rfl,rfl⟩)
 go_ret
 exact ⟨rfl,0,_,by rw [Sort.alloc_eq_grow,Sort.alloc_eq_grow,Sort.grow_grow];rfl⟩
theorem lays_lo (blk off size:Nat) (w:World):CmpLays Tryz.prog 98 #[] enc 2 (fun x y:R=>Lib.compareInt x.1 y.1) blk off size w:=
 fun _ _ _ _ x y=>by_lo x y _
theorem lt_lo (x y:R):ltOf (fun x y:R=>Lib.compareInt x.1 y.1) x y=decide (x.1<y.1):=by
 unfold ltOf Lib.compareInt
 by_cases h1:x.1<y.1
 ·simp [h1]
 ·by_cases h2:y.1<x.1<;>simp [h1,h2]
theorem swo_lo:Sort.SWO (ltOf fun x y:R=>Lib.compareInt x.1 y.1) where
 irrefl x:=by rw [lt_lo];simp
 trans x y z h1 h2:=by rw [lt_lo] at *;simp at *;omega
 ntrans x y z h1 h2:=by rw [lt_lo] at *;simp at *;omega
theorem flatK_flat (d:Array R):(Sort.flatK enc 2 d).toList=flat d.toList:=by
 apply List.ext_getElem?
 intro j
 by_cases hj:j<d.size*2
 ·have hd:j / 2<d.size:=by omega
  have e1:(Sort.flatK enc 2 d).toList[j]?=some ((Sort.flatK enc 2 d)[j]!):=by
   rw [Array.getElem?_toList,getElem!_pos _ j (by simpa using hj),Array.getElem?_eq_getElem]
  have e2:d.toList[j / 2]?=some d[j / 2]!:=by
   rw [Array.getElem?_toList,getElem!_pos _ (j / 2) hd,Array.getElem?_eq_getElem hd]
  rw [e1,Sort.get_flatK enc 2 d j hj]
  rcases Nat.mod_two_eq_zero_or_one j with h|h
  ·have h3:=flat_lo d.toList (j / 2)
   rw [e2,show j / 2*2=j by omega] at h3
   rw [h3,h];rfl
  ·have h3:=flat_hi d.toList (j / 2)
   rw [e2,show j / 2*2+1=j by omega] at h3
   rw [h3,h];rfl
 ·rw [List.getElem?_eq_none (by simp;omega),List.getElem?_eq_none (by rw [flat_len];simp;omega)]
theorem sort_own (l:List R) (B:Nat) (v:Value) (w:World) (hlen:l.length≤8796093021952) (h:w.ownsRow B 56 2 v l.length (flat l)) :
  Calls Tryz.prog 97 #[v,.func (.func 98) #[] #[]] w fun e w'=>e=.returned (.tuple #[]) ∧
   ∃ s:List R,s.Perm l∧Sorted s∧s.length=l.length∧w'.ownsRow B 56 2 v l.length (flat s)∧w.grownBy w' v.ownBlock:=by
 rcases h.2 with ⟨rfl,hn⟩|⟨g,cap,cur,rfl,hb,hh,hnc,hcm,hcs,htk⟩
 ·have hl:l=[]:=List.eq_nil_of_length_eq_zero hn
  subst hl
  have hc:=AnyF.slices_SortFunc_none Tryz.sortRg none 0 (.func (.func 98) #[] #[]) w
  refine hc.mono ?_
  rintro e w' ⟨rfl,rfl⟩
  exact ⟨rfl,[],List.Perm.refl _,List.Pairwise.nil,rfl,h,World.grownBy.refl _ _⟩
 ·have hgl:g<w.heap.size:=by
   rcases Nat.lt_or_ge g w.heap.size with hlt|hge
   ·exact hlt
   ·rw [Array.getElem?_eq_none hge] at hh;cases hh
  have eg:∀ args w,(callFunc 98 args).run Tryz.prog w=.ok (.enter 98 args) w:=enters_of Tryz.func98 (by kernel_rfl) rfl
  have hH:Sort.HoldsK enc 2 w g 0 l.toArray:=by
   intro j hj
   have hj2:j<l.length*2:=by simpa using hj
   have e1:(Sort.flatK enc 2 l.toArray)[j]! = (flat l)[j]'(by rw [flat_len];exact hj2):=by
    have e:=flatK_flat l.toArray
    have e3:(Sort.flatK enc 2 l.toArray).toList[j]?=(flat l)[j]?:=by rw [e]
    rw [Array.getElem?_toList,Array.getElem?_eq_getElem hj,List.getElem?_eq_getElem (by rw [flat_len];exact hj2)] at e3
    rw [getElem!_pos _ j hj]
    exact Option.some.inj e3
   refine ⟨?_,?_⟩
   ·rw [Nat.zero_add,cell_of_row w g j cur _ _ hh]
    have:(cur.toList.take (l.length*2))[j]?=(flat l)[j]?:=by rw [htk]
    rw [List.getElem?_take_of_lt hj2,Array.getElem?_toList] at this
    rw [this,List.getElem?_eq_getElem (by rw [flat_len];exact hj2),e1];rfl
   ·simp [World.frozen?,hh]
  have hcon:=AnyQ.slices_SortFunc Tryz.sortRg 2 Tryz.isAgg56 Tryz.sizeOf56 enc (fun _=>rfl) (fun x v hv=>by simp [enc] at hv;rcases hv with rfl|rfl<;>rfl) (fun x y:R=>Lib.compareInt x.1 y.1) swo_lo 98 #[] g 0 cap l.toArray w eg (lays_lo g 0 _ w) hH hgl (by simp;omega)
  change Calls Tryz.prog 97 #[.slice (some ⟨g,0,none⟩) l.length cap,_] _ _ at hcon
  refine hcon.mono ?_
  rintro e w' ⟨rfl,d',n,os,hp,hs,rfl⟩
  have hsz:d'.size=l.length:=by simpa using hp.1
  refine ⟨rfl,d'.toList,?_,?_,by simpa using hsz,?_,?_⟩
  ·have h2:=hp.2.2
   have e1:d'.extract 0 l.toArray.size=d':=by rw [show l.toArray.size=d'.size by simp [hsz]];simp
   have e2:l.toArray.extract 0 l.toArray.size=l.toArray:=by simp
   rw [e1,e2] at h2
   simpa using h2
  ·unfold Sorted
   rw [List.pairwise_iff_getElem]
   intro i j hi hj hij
   have hi':i<d'.size:=by simpa using hi
   have hj':j<d'.size:=by simpa using hj
   have h2:=hs i j (Nat.zero_le _) hij (by simp;omega)
   rw [lt_lo,getElem!_pos d' i hi',getElem!_pos d' j hj'] at h2
   simp at h2 ⊢
   exact h2
  ·refine ⟨by rw [flat_len];simp [hsz],.inr ⟨g,cap,Sort.putCells id 0 (Sort.flatK enc 2 d') cur,rfl,hb,?_,hnc,hcm,by simp [Sort.putCells,hcs],?_⟩⟩
   ·show ((w.heap.modify g _)++os)[g]?=_
    rw [Array.getElem?_append_left (by simpa using hgl),Array.getElem?_modify,if_pos rfl,hh]
    rfl
   ·rw [← flatK_flat]
    apply List.ext_getElem?
    intro j
    by_cases hj:j<l.length*2
    ·rw [List.getElem?_take_of_lt hj,Array.getElem?_toList,Array.getElem?_toList]
     have hjc:j<cur.size:=by rw [hcs];have:=Nat.mul_le_mul_right 2 hnc;omega
     have hjf:j<(Sort.flatK enc 2 d').size:=by simp [hsz,hj]
     simp only [Sort.putCells,Array.getElem?_mapIdx,Array.getElem?_eq_getElem hjc,Option.map_some,Nat.zero_le,true_and,Nat.zero_add,if_pos hjf,Nat.sub_zero,id]
     rw [getElem!_pos _ j hjf,Array.getElem?_eq_getElem hjf]
    ·rw [List.getElem?_eq_none (by simp;omega),List.getElem?_eq_none (by simp;omega)]
  ·refine ⟨rfl,rfl,rfl,by simp [sortWorldK,Sort.putRowK,Sort.grow],fun i hi hne=>?_⟩
   have hig:i≠g:=fun e=>hne (by subst e;rfl)
   show ((w.heap.modify g _)++os)[i]?=_
   rw [Array.getElem?_append_left (by simpa using hi),Array.getElem?_modify,if_neg (Ne.symm hig)]
end
section
open Go.RowKit Mem
variable {s cur:List R} {m k:Nat}
theorem flat_set_hi:∀ (l:List R) (k:Nat) (q:R) (x:Int),l[k]?=some q→flat (l.set k (q.1,x))=(flat l).set (k*2+1) (.int .i64 x)
 | [],k,q,x,h=>by simp at h
 | r :: l,0,q,x,h=>by
  obtain rfl:r=q:=by simpa using h
  rfl
 | r :: l,k+1,q,x,h=>by
  rw [List.set_cons_succ,flat_cons,flat_set_hi l k q x (by simpa using h),show (k+1)*2+1=(k*2+1)+1+1 by omega,flat_cons,List.set_cons_succ,List.set_cons_succ]
theorem flat_set:∀ (l:List R) (k:Nat) (q:R),k<l.length→flat (l.set k q)=((flat l).set (k*2) (.int .i64 q.1)).set (k*2+1) (.int .i64 q.2)
 | [],k,q,h=>by simp at h
 | r :: l,0,q,h=>rfl
 | r :: l,k+1,q,h=>by
  rw [List.set_cons_succ,flat_cons,flat_set l k q (by simpa using h),show (k+1)*2+1=(k*2+1)+1+1 by omega,show (k+1)*2=k*2+1+1 by omega,flat_cons,List.set_cons_succ,List.set_cons_succ,List.set_cons_succ,List.set_cons_succ]
def Joined (s cur:List R) (k m:Nat):Prop:=
 m≤k∧k≤s.length∧cur.length=s.length∧cur.drop k=s.drop k∧(∀ r∈cur,okR r) ∧
  ((m=0∧k=0)∨∃ j q,m=j+1∧cur[j]?=some q∧joinL s=cur.take j++joinF q (s.drop k))
theorem Joined.start (h:∀ r∈s,okR r):Joined s s 0 0:=⟨Nat.le_refl _,Nat.zero_le _,rfl,rfl,h,.inl ⟨rfl,rfl⟩⟩
theorem Joined.here (h:Joined s cur k m) (hk:k<s.length):∃ r,cur[k]?=some r∧s.drop k=r :: s.drop (k+1)∧okR r:=by
 obtain ⟨h1,h2,h3,h4,h5,h6⟩:=h
 have hc:k<cur.length:=by omega
 refine ⟨cur[k],List.getElem?_eq_getElem hc,?_,h5 _ (List.getElem_mem hc)⟩
 have e1:=List.drop_eq_getElem_cons hc
 have e2:=List.drop_eq_getElem_cons hk
 rw [h4,e2] at e1
 rw [e2]
 injection e1 with e1 _
 rw [e1]
theorem Joined.last {j:Nat} {q r:R} (h:Joined s cur k m) (hk:k<s.length) (hr:cur[k]?=some r) (hm:m=j+1) (hq:cur[j]?=some q) (hle:r.1≤q.2+1) :
  Joined s (cur.set j (q.1,max q.2 r.2)) (k+1) m:=by
 obtain ⟨r',hr',hd,hok⟩:=Joined.here h hk
 obtain rfl:r=r':=by rw [hr] at hr';exact Option.some.inj hr'
 obtain ⟨h1,h2,h3,h4,h5,h6⟩:=h
 subst hm
 have hj:j<cur.length:=by omega
 have hqm:okR q:=h5 q (List.mem_of_getElem? hq)
 refine ⟨by omega,hk,by simpa using h3,?_,?_,.inr ⟨j,(q.1,max q.2 r.2),rfl,by simp [hj],?_⟩⟩
 ·rw [List.drop_set,if_pos (by omega),← List.drop_drop,← List.drop_drop,h4]
 ·intro a ha
  rcases List.mem_or_eq_of_mem_set ha with h|rfl
  ·exact h5 a h
  ·unfold okR at hqm hok ⊢;simp only;omega
 ·rcases h6 with ⟨h,_⟩|⟨j',q',hj',hq',hjo⟩
  ·omega
  ·obtain rfl:j=j':=by omega
   obtain rfl:q=q':=by rw [hq] at hq';exact Option.some.inj hq'
   rw [hjo,hd,List.take_set_of_le (by omega)]
   conv=>lhs;unfold joinF
   rw [if_pos hle]
theorem Joined.next {r:R} (h:Joined s cur k m) (hk:k<s.length) (hr:cur[k]?=some r) (hno:∀ j q,m=j+1→cur[j]?=some q→¬ r.1≤q.2+1) :
  Joined s (cur.set m r) (k+1) (m+1):=by
 obtain ⟨r',hr',hd,hok⟩:=Joined.here h hk
 obtain rfl:r=r':=by rw [hr] at hr';exact Option.some.inj hr'
 obtain ⟨h1,h2,h3,h4,h5,h6⟩:=h
 have hm:m<cur.length:=by omega
 refine ⟨by omega,hk,by simpa using h3,?_,?_,.inr ⟨m,r,rfl,by simp [hm],?_⟩⟩
 ·rw [List.drop_set,if_pos (by omega),← List.drop_drop,← List.drop_drop,h4]
 ·intro a ha
  rcases List.mem_or_eq_of_mem_set ha with h|rfl
  ·exact h5 a h
  ·exact hok
 ·rw [List.take_set_of_le (Nat.le_refl _)]
  rcases h6 with ⟨rfl,rfl⟩|⟨j,q,hj,hq,hjo⟩
  ·have:s=r :: s.drop 1:=by simpa using hd
   rw [this]
   simp [joinL]
  ·have hn:=hno j q hj hq
   rw [hjo,hd]
   conv=>lhs;unfold joinF
   rw [if_neg hn]
   subst hj
   have hjl:j<cur.length:=by omega
   have e:cur[j]=q:=by simpa [List.getElem?_eq_getElem hjl] using hq
   rw [List.take_succ_eq_append_getElem hjl,e]
   simp
theorem Joined.done (h:Joined s cur s.length m):joinL s=cur.take m∧m≤s.length:=by
 obtain ⟨h1,h2,h3,h4,h5,h6⟩:=h
 refine ⟨?_,h1⟩
 rcases h6 with ⟨rfl,h0⟩|⟨j,q,rfl,hq,hjo⟩
 ·rw [List.eq_nil_of_length_eq_zero h0];rfl
 ·rw [hjo,List.drop_length]
  have hjl:j<cur.length:=by omega
  have e:cur[j]=q:=by simpa [List.getElem?_eq_getElem hjl] using hq
  rw [List.take_succ_eq_append_getElem hjl,e];rfl
def JRel (s:List R) (B g cap:Nat) (w:World) (n i:Value) (wr:World):Prop:=
 ∃ (k m:Nat) (cur:List R),i=.int .i64 k∧n=.int .i64 m∧Joined s cur k m∧wr.ownsRow B 56 2 (.slice (some ⟨g,0,none⟩) s.length cap) s.length (flat cur)∧w.grownBy wr (some g)
theorem join_none {B:Nat} (w:World):Calls Tryz.prog 100 #[.slice none 0 0] w fun e w'=>∃ v',e=.returned v'∧w'.ownsRow B 56 2 v' (joinL []).length (flat (joinL []))∧w.grownBy w' (Value.slice none 0 0).ownBlock:=by
 go_enter Tryz.func100,Tryz.ntmps100
 go_wp2
 go_loop [3,8] (fun v i=>v=.int .i64 0∧i=.int .i64 0) (fun _ _=>0)
 case atStart=>exact ⟨rfl,rfl⟩
 case round=>
  obtain ⟨rfl,rfl⟩:=hrel
  go_wp2
  go_ret
  exact ⟨_,rfl,World.ownsRow_nil _ _ _ _,World.grownBy.refl _ _⟩
theorem own_cap {W:World} {base e size n g cap:Nat} {xs:List Value} (h:W.ownsRow base e size (.slice (some ⟨g,0,none⟩) n cap) n xs):n≤cap∧cap≤maxLen:=by
 rcases h.2 with ⟨h',_⟩|⟨g',cap',cur,h',hb,hg,hnc,hcm,_⟩
 ·simp at h'
 ·simp only [Value.slice.injEq,Option.some.injEq,Addr.mk.injEq,and_true,true_and] at h'
  obtain ⟨rfl,rfl⟩:=h'
  exact ⟨hnc,hcm⟩
theorem own_cut {W:World} {base e g cap n:Nat} {l:List R} (h:W.ownsRow base e 2 (.slice (some ⟨g,0,none⟩) n cap) n (flat l)) (m:Nat) (hm:m≤n) (hn:l.length=n):W.ownsRow base e 2 (.slice (some ⟨g,0,none⟩) m cap) (l.take m).length (flat (l.take m)):=by
 rcases h.2 with ⟨h',_⟩|⟨g',cap',cur,h',hb,hg,hnc,hcm,hcs,ht⟩
 ·simp at h'
 ·simp only [Value.slice.injEq,Option.some.injEq,Addr.mk.injEq,and_true,true_and] at h'
  obtain ⟨rfl,rfl⟩:=h'
  have hl:(l.take m).length=m:=by rw [List.length_take];omega
  rw [hl]
  refine ⟨by rw [flat_len,hl],.inr ⟨g,cap,cur,rfl,hb,hg,by omega,hcm,hcs,?_⟩⟩
  have e:flat l=flat (l.take m)++flat (l.drop m):=by rw [← flat_append,List.take_append_drop]
  have e2:(flat l).take (m*2)=flat (l.take m):=by
   rw [e,List.take_append_of_le_length (by rw [flat_len,hl];exact Nat.le_refl _),List.take_of_length_le (by rw [flat_len,hl];exact Nat.le_refl _)]
  rw [← e2,← ht,List.take_take]
  congr 1
  omega
theorem join_flat (s:List R) (B g cap:Nat) (w:World) (hlen:s.length≤8796093021952) (hok:∀ r∈s,okR r) (h:w.ownsRow B 56 2 (.slice (some ⟨g,0,none⟩) s.length cap) s.length (flat s)) :
  Calls Tryz.prog 100 #[.slice (some ⟨g,0,none⟩) s.length cap] w fun e w'=>∃ v,e=.returned v∧w'.ownsRow B 56 2 v (joinL s).length (flat (joinL s))∧w.grownBy w' (some g):=by
 have hgl:g<w.heap.size:=(h.lt g rfl).2
 have H:=hide h
 have HOK:=hide hok
 clear h hok
 go_enter Tryz.func100,Tryz.ntmps100
 go_wp2
 go_loopw [3,8] (fun n i wr=>JRel s B g cap w n i wr) (fun _ i _=>s.length-(intOf i).toNat)
 case atStart=>exact ⟨0,0,s,rfl,rfl,Joined.start HOK.1,H.1,World.grownBy.refl _ _⟩
 case round=>
  obtain ⟨k,m,cur,rfl,rfl,hj,hown,hgr⟩:=hrel
  by_cases hlt:k<s.length
  ·obtain ⟨r,hr,hd,hrok⟩:=hj.here hlt
   have c1:wr.cell? ⟨g,k*2,none⟩=some (.int .i64 r.1):=by rw [hown.cellAt (k*2) (by omega),flat_lo,hr];rfl
   have c2:wr.cell? ⟨g,k*2+1,none⟩=some (.int .i64 r.2):=by rw [hown.cellAt (k*2+1) (by omega),flat_hi,hr];rfl
   have hlt':(k:Int)<(s.length:Int):=by omega
   have hm:m≤k:=hj.1
   have hjj:=hj.2.2.2.2.2
   have HJ:=hide hj
   have HO:=hide hown
   have HG:=hide hgr
   have HD:=hide hd
   have HR:=hide hr
   clear hj hown hgr hd hr
   rcases hjj with ⟨hm0,hk0⟩|⟨j,q,rfl,hq,hjo⟩
   ·have hd:decide (0<m)=false:=by simp;omega
    have HM0:=hide hm0
    have HK0:=hide hk0
    clear hm0 hk0
    go_wp2_with fail
    go_quiet (fail)
    have ho2:((wr.alloc (.cells #[.int .i64 r.1,.int .i64 r.2] 56)).drewN nq).ownsRow B 56 2 (.slice (some ⟨g,0,none⟩) s.length cap) s.length (flat cur):=(HO.1.alloc _)
    have hcl:cur.length=s.length:=HJ.1.2.2.1
    obtain ⟨c,hc⟩:∃ c,cur[m]?=some c:=⟨_,List.getElem?_eq_getElem (by omega)⟩
    have e0:=ho2.cellAt ((m)*2) (by omega)
    rw [flat_lo,hc] at e0
    have e1:=ho2.frozenAt ((m)*2)
    have st:=ho2.stored ((m)*2) (.int .i64 r.1)
    have e2:=st.1.cellAt ((m)*2+1) (by omega)
    rw [List.getElem?_set_ne (by omega),flat_hi,hc] at e2
    have e3:=st.1.frozenAt ((m)*2+1)
    have st2:=st.1.stored ((m)*2+1) (.int .i64 r.2)
    rw [← flat_set cur (m) r (by omega)] at st2
    have hgm:w.grownBy ((((wr.alloc (.cells #[.int .i64 r.1,.int .i64 r.2] 56)).drewN nq).setCell ⟨g,(m)*2,none⟩ (.int .i64 r.1)).setCell ⟨g,(m)*2+1,none⟩ (.int .i64 r.2)) (some g):=
     only_setCell (only_setCell (only_drewN (only_alloc HG.1 _) nq) (.inl rfl) _) (.inl rfl) _
    have hws:IntKind.i64.wrap (((m:Nat):Int)+1)=((m:Nat):Int)+1:=wrap_id _ (by omega) (by omega)
    have hml:((m:Nat):Int)<(s.length:Int):=by omega
    have ST:=hide st2.1
    have HGM:=hide hgm
    clear ho2 hc st st2 hgm
    go_wp2_with fail
    go_roundw
    case rel=>
     refine ⟨k+1,m+1,cur.set m r,by go_num,by go_num,?_,ST.1,HGM.1⟩
     exact HJ.1.next hlt HR.1 fun j q hj=>by have:=HM0.1;omega
    case measure=>simp [intOf];omega
   ·have hd:decide ((0:Int)<((j+1:Nat):Int))=true:=by simp
    have hq1:=(HO.1.alloc (.cells #[.int .i64 r.1,.int .i64 r.2] 56)).cellAt (j*2+1) (by omega)
    have hqj:(flat cur)[j*2+1]?=some (.int .i64 q.2):=by rw [flat_hi,hq];rfl
    rw [hqj] at hq1
    have hjm:j+1≤s.length:=by omega
    have hqok:okR q:=HJ.1.2.2.2.2.1 q (List.mem_of_getElem? hq)
    have hw1:IntKind.i64.wrap (j:Int)=j:=wrap_id _ (by omega) (by omega)
    have hw2:IntKind.i64.wrap (q.2+1)=q.2+1:=wrap_id _ (by have:=hqok.1;have:=hqok.2.1;omega) (by have:=hqok.2.2;omega)
    have hjl:(j:Int)<(s.length:Int):=by omega
    have hj0:(0:Int)≤(j:Int):=by omega
    have HQOK:=hide hqok
    have HQ:=hide hq
    have HJO:=hide hjo
    clear hq hjo hqj hqok
    by_cases hle:r.1≤q.2+1
    ·go_wp2_with fail
     go_quiet (fail)
     have HLE:=hide hle
     have ho2:((wr.alloc (.cells #[.int .i64 r.1,.int .i64 r.2] 56)).drewN nq).ownsRow B 56 2 (.slice (some ⟨g,0,none⟩) s.length cap) s.length (flat cur):=(HO.1.alloc _)
     have e1:=(HO.1.alloc (.cells #[.int .i64 r.1,.int .i64 r.2] 56)).frozenAt (j*2+1)
     have HO2:=hide ho2
     clear ho2 hle
     go_wp2_with fail
     go_region
     have st:=(HO2.1.stored (j*2+1) (.int .i64 (max q.2 r.2))).1
     rw [← flat_set_hi cur j q (max q.2 r.2) HQ.1] at st
     have hgm:=only_setCell (only_drewN (only_alloc HG.1 (.cells #[.int .i64 r.1,.int .i64 r.2] 56)) (nq+1)) (p:=⟨g,j*2+1,none⟩) (.inl rfl) (.int .i64 (max q.2 r.2))
     have ST:=hide st
     have HGM:=hide hgm
     clear st hgm e1 hq1
     go_wp2_with fail
     go_roundw
     case rel=>
      refine ⟨k+1,j+1,cur.set j (q.1,max q.2 r.2),by go_num,by go_num,HJ.1.last hlt HR.1 rfl HQ.1 HLE.1,ST.1,HGM.1⟩
     case measure=>simp [intOf];omega
    ·go_wp2_with fail
     go_quiet (fail)
     have ho2:((wr.alloc (.cells #[.int .i64 r.1,.int .i64 r.2] 56)).drewN nq).ownsRow B 56 2 (.slice (some ⟨g,0,none⟩) s.length cap) s.length (flat cur):=(HO.1.alloc _)
     have hcl:cur.length=s.length:=HJ.1.2.2.1
     obtain ⟨c,hc⟩:∃ c,cur[j+1]?=some c:=⟨_,List.getElem?_eq_getElem (by omega)⟩
     have e0:=ho2.cellAt ((j+1)*2) (by omega)
     rw [flat_lo,hc] at e0
     have e1:=ho2.frozenAt ((j+1)*2)
     have st:=ho2.stored ((j+1)*2) (.int .i64 r.1)
     have e2:=st.1.cellAt ((j+1)*2+1) (by omega)
     rw [List.getElem?_set_ne (by omega),flat_hi,hc] at e2
     have e3:=st.1.frozenAt ((j+1)*2+1)
     have st2:=st.1.stored ((j+1)*2+1) (.int .i64 r.2)
     rw [← flat_set cur (j+1) r (by omega)] at st2
     have hgm:w.grownBy ((((wr.alloc (.cells #[.int .i64 r.1,.int .i64 r.2] 56)).drewN nq).setCell ⟨g,(j+1)*2,none⟩ (.int .i64 r.1)).setCell ⟨g,(j+1)*2+1,none⟩ (.int .i64 r.2)) (some g):=
      only_setCell (only_setCell (only_drewN (only_alloc HG.1 _) nq) (.inl rfl) _) (.inl rfl) _
     have hws:IntKind.i64.wrap (((j+1:Nat):Int)+1)=((j+1:Nat):Int)+1:=wrap_id _ (by omega) (by omega)
     have hml:((j+1:Nat):Int)<(s.length:Int):=by omega
     have ST:=hide st2.1
     have HGM:=hide hgm
     clear ho2 hc st st2 hgm
     go_wp2_with fail
     go_roundw
     case rel=>
      refine ⟨k+1,j+1+1,cur.set (j+1) r,by go_num,by go_num,?_,ST.1,HGM.1⟩
      refine HJ.1.next hlt HR.1 fun j' q' hj' hq'=>?_
      obtain rfl:j=j':=by omega
      rw [HQ.1] at hq'
      obtain rfl:q=q':=Option.some.inj hq'
      omega
     case measure=>simp [intOf];omega
  ·have hkl:k=s.length:=by have:=hj.2.1;omega
   subst hkl
   have hd:=hj.done
   have hm:m≤s.length:=hd.2
   have hmc:s.length≤cap:=(own_cap hown).1
   have hmi:(m:Int)≤(s.length:Int):=by omega
   have hmic:(m:Int)≤(cap:Int):=by omega
   have HD:=hide hd
   have HO:=hide hown
   have HG:=hide hgr
   have hjl:cur.length=s.length:=hj.2.2.1
   clear hj hd hown hgr
   go_wp2
   go_ret
   refine ⟨_,rfl,?_,HG.1⟩
   rw [HD.1.1]
   exact own_cut HO.1 m hm hjl
theorem join_any (s:List R) (B:Nat) (v:Value) (w:World) (hlen:s.length≤8796093021952) (hok:∀ r∈s,okR r) (h:w.ownsRow B 56 2 v s.length (flat s)) :
  Calls Tryz.prog 100 #[v] w fun e w'=>∃ v',e=.returned v'∧w'.ownsRow B 56 2 v' (joinL s).length (flat (joinL s))∧w.grownBy w' v.ownBlock:=by
 rcases h.2 with ⟨rfl,hn⟩|⟨g,cap,cur,rfl,h1,h2⟩
 ·rw [List.eq_nil_of_length_eq_zero hn]
  exact join_none w
 ·exact join_flat s B g cap w hlen hok h
end
section
open Go.RowKit Mem
theorem made_sort {l s:List R} (hp:s.Perm (withinL l)):∀ r∈s,okR r:=fun r hr=>ok_withinL l r (hp.mem_iff.1 hr)
theorem make_any (l:List R) (A:Option Addr) (cap:Nat) (w:World) (hlen:l.length≤8796093021952) (hcap:l.length≤cap) (h:Lst w w.heap.size A l) :
  Calls Tryz.prog 78 #[.slice A l.length cap] w fun e w'=>∃ v,e=.returned v∧Cut w (mk l) v w':=by
 have H:=hide h
 clear h
 go_enter Tryz.func78,Tryz.ntmps78
 go_wp2_with fail
 refine (within_any l A cap w hlen hcap H.1).mono ?_
 rintro e w1 ⟨v1,rfl,hcut⟩
 have hl1:=within_len l
 have HC:=hide hcut
 clear hcut
 go_wp2_with fail
 refine (sort_own (withinL l) w.heap.size v1 w1 (by omega) HC.1.1).mono ?_
 rintro e w2 ⟨rfl,s,hp,hs,hsl,ho,hg⟩
 have HP:=hide hp
 have HS:=hide hs
 have HO:=hide ho
 have HG:=hide hg
 clear hp hs ho hg
 go_wp2_with fail
 refine (join_any s w.heap.size v1 w2 (by omega) (made_sort HP.1) (by rw [hsl];exact HO.1)).mono ?_
 rintro e w3 ⟨v3,rfl,ho3,hg3⟩
 have HO3:=hide ho3
 have HG3:=hide hg3
 clear ho3 hg3
 go_wp2
 go_ret
 refine ⟨_,rfl,by rw [← join_mk HP.1 HS.1];exact HO3.1,?_⟩
 have hb:=own_base HC.1.1
 have h2:=HC.1.2.grown HG.1 HC.1.2.size hb
 exact h2.grown HG3.1 h2.size hb
theorem own_lst {W:World} {base e:Nat} {v:Value} {l:List R} (h:W.ownsRow base e 2 v l.length (flat l)):∃ A cap,v=.slice A l.length cap∧Lst W W.heap.size A l∧l.length≤cap∧cap≤maxLen:=by
 rcases h.2 with ⟨rfl,hn⟩|⟨g,cap,cur,rfl,hb,hh,hnc,hcm,hcs,ht⟩
 ·refine ⟨none,0,by rw [hn],fun hl=>by omega,by omega,by unfold maxLen;omega⟩
 ·exact ⟨_,cap,rfl,Lst.of_reads (Reads.of_own h),hnc,hcm⟩
theorem mk_len (l:List R):(mk l).length≤l.length:=by
 unfold mk
 refine Nat.le_trans (joinL_len _) ?_
 rw [List.length_mergeSort]
 exact within_len l
end
section
open Go.RowKit Mem
attribute [local go_sem] build_range
theorem of_any (x:Int) (w:World):Calls Tryz.prog 60 #[.int .i64 x] w fun e w'=>∃ v,e=.returned v∧Cut w (ofL x) v w':=by
 have hl:Lst (w.alloc (.cells #[.int .i64 x,.int .i64 x] 56)) (w.alloc (.cells #[.int .i64 x,.int .i64 x] 56)).heap.size (some ⟨w.heap.size,0,none⟩) [(x,x)]:=
  Lst.of_reads ((reads_new w #[.int .i64 x,.int .i64 x] 56 1 2 rfl).more (by simp))
 have HL:=hide hl
 clear hl
 go_enter Tryz.func60,Tryz.ntmps60
 go_wp2_with fail
 refine (make_any [(x,x)] (some ⟨w.heap.size,0,none⟩) 1 _ (by simp) (by simp) HL.1).mono ?_
 rintro e w1 ⟨v1,rfl,hcut⟩
 have HC:=hide hcut
 clear hcut
 go_wp2
 go_ret
 refine ⟨_,rfl,own_lower HC.1.1 (by simp),?_⟩
 exact (below_al (Below.refl _ _) (Nat.le_refl _) _).trans (HC.1.2.mono (by simp))
end
end Go.Proofs.YtmlbklcmblofkaaGreatDoor.Rs
