/-
  Closing a list under orbits: which numbers the closed list stands for; closed again it is the same; how long i
-/
set_option linter.unusedSimpArgs false
set_option linter.unusedVariables false
set_option maxRecDepth 100000
namespace Go.Proofs.YtmlbklcmblofkaaGreatDoor.Cl
def nmB:List (List UInt8):=[[97,108,110,117,109],[97,108,112,104,97],[97,115,99,105,105],[98,108,97,110,107],[99,110,116,114,108],[100,105,103,105,116],[103,114,97,112,104],[108,111,119,101,114],[112,114,105,110,116],[112,117,110,99,116],[115,112,97,99,101],[117,112,112,101,114],[119,111,114,100],[120,100,105,103,105,116]]
theorem nmB_len:nmB.length=14:=rfl
end Go.Proofs.YtmlbklcmblofkaaGreatDoor.Cl
namespace Go.Proofs.YtmlbklcmblofkaaGreatDoor.Rs
variable {p:Int}
abbrev R:=Int×Int
def inR (x:Int) (r:R):Bool:=decide (0≤x∧x≤1114367∧r.1≤x∧x≤r.2)
def hasL (l:List R) (x:Int):Bool:=l.any (inR x)
def okR (r:R):Prop:=0≤r.1∧r.1≤r.2∧r.2≤1114367
instance (r:R):Decidable (okR r):=by unfold okR;infer_instance
def LeastF:Int→List R→Prop
 | _,[]=>True
 | p,r :: t=>p<r.1-1∧r.1≤r.2∧r.2≤1114367∧LeastF r.2 t
instance decLeastF:(p:Int)→(l:List R)→Decidable (LeastF p l)
 | _,[]=>.isTrue trivial
 | p,r :: t=>by
  have:=decLeastF r.2 t
  unfold LeastF
  infer_instance
def Least (l:List R):Prop:=LeastF (-2) l
instance (l:List R):Decidable (Least l):=decLeastF _ _
@[simp] theorem hasL_nil (x:Int):hasL [] x=false:=rfl
@[simp] theorem hasL_cons (r:R) (l:List R) (x:Int):hasL (r :: l) x=(inR x r||hasL l x):=rfl
theorem hasL_append (a b:List R) (x:Int):hasL (a++b) x=(hasL a x||hasL b x):=by simp [hasL]
theorem hasL_perm {a b:List R} (h:a.Perm b) (x:Int):hasL a x=hasL b x:=by
 unfold hasL
 rw [Bool.eq_iff_iff,List.any_eq_true,List.any_eq_true]
 exact ⟨fun ⟨r,h1,h2⟩=>⟨r,h.mem_iff.1 h1,h2⟩,fun ⟨r,h1,h2⟩=>⟨r,h.mem_iff.2 h1,h2⟩⟩
theorem LeastF.mono {q:Int} {l:List R} (h:LeastF p l) (hq:q≤p):LeastF q l:=by
 cases l with
 | nil=>trivial
 | cons r t=>exact ⟨by have:=h.1;omega,h.2⟩
theorem LeastF.lo {l:List R} (h:LeastF p l):∀ r∈l,p+1<r.1∧r.1≤r.2∧r.2≤1114367:=by
 induction l generalizing p with
 | nil=>intro r hr;cases hr
 | cons a t ih=>
  intro r hr
  rcases List.mem_cons.1 hr with rfl|hr
  ·have:=h.1
   exact ⟨by omega,h.2.1,h.2.2.1⟩
  ·have h1:=ih h.2.2.2 r hr
   have h2:=h.1
   have h3:=h.2.1
   exact ⟨by omega,h1.2⟩
theorem LeastF.has {l:List R} (h:LeastF p l) {x:Int} (hx:hasL l x=true):p+1<x:=by
 simp only [hasL,List.any_eq_true] at hx
 obtain ⟨r,hr,hx⟩:=hx
 have:=h.lo r hr
 simp [inR] at hx
 omega
theorem least_unique (hp:-2≤p):∀ {a b:List R},LeastF p a→LeastF p b→(∀ x,hasL a x=hasL b x)→a=b:=by
 intro a
 induction a generalizing p with
 | nil=>
  intro b ha hb hx
  cases b with
  | nil=>rfl
  | cons r t=>
   exfalso
   have h:=hx r.1
   have h1:=hb.1;have h2:=hb.2.1;have h3:=hb.2.2.1
   simp [inR] at h
   omega
 | cons a s ih=>
  intro b ha hb hx
  cases b with
  | nil=>
   exfalso
   have h:=hx a.1
   have h1:=ha.1;have h2:=ha.2.1;have h3:=ha.2.2.1
   simp [inR] at h
   omega
  | cons b t=>
   have a1:=ha.1;have a2:=ha.2.1;have a3:=ha.2.2.1;have a4:=ha.2.2.2
   have b1:=hb.1;have b2:=hb.2.1;have b3:=hb.2.2.1;have b4:=hb.2.2.2
   have key:∀ x,(inR x a||hasL s x)=(inR x b||hasL t x):=hx
   have lo:a.1=b.1:=by
    rcases Int.lt_trichotomy a.1 b.1 with h|h|h
    ·exfalso
     have e:=key a.1
     have ea:inR a.1 a=true:=by simp [inR];omega
     have eb:inR a.1 b=false:=by simp [inR];omega
     rw [ea,eb] at e
     have:=b4.has (x:=a.1) (by simpa using e.symm)
     omega
    ·exact h
    ·exfalso
     have e:=key b.1
     have ea:inR b.1 b=true:=by simp [inR];omega
     have eb:inR b.1 a=false:=by simp [inR];omega
     rw [ea,eb] at e
     have:=a4.has (x:=b.1) (by simpa using e)
     omega
   have hi:a.2=b.2:=by
    rcases Int.lt_trichotomy a.2 b.2 with h|h|h
    ·exfalso
     have e:=key (a.2+1)
     have ea:inR (a.2+1) b=true:=by simp [inR];omega
     have eb:inR (a.2+1) a=false:=by simp [inR];omega
     rw [ea,eb] at e
     have:=a4.has (x:=a.2+1) (by simpa using e)
     omega
    ·exact h
    ·exfalso
     have e:=key (b.2+1)
     have ea:inR (b.2+1) a=true:=by simp [inR];omega
     have eb:inR (b.2+1) b=false:=by simp [inR];omega
     rw [ea,eb] at e
     have:=b4.has (x:=b.2+1) (by simpa using e.symm)
     omega
   have e:a=b:=Prod.ext lo hi
   subst e
   congr 1
   refine ih (p:=a.2) (by omega) a4 b4 fun x=>?_
   have k:=key x
   by_cases hx:inR x a=true
   ·have hle:x≤a.2:=by simp [inR] at hx;omega
    cases h1:hasL s x with
    | true=>have:=a4.has h1;omega
    | false=>
     cases h2:hasL t x with
     | true=>have:=b4.has h2;omega
     | false=>rfl
   ·rw [Bool.not_eq_true] at hx
    rw [hx] at k
    simpa using k
def cutR (r:R):R:=(max r.1 0,min r.2 1114367)
def withinL (l:List R):List R:=(l.map cutR).filter fun r=>decide (r.1≤r.2)
theorem inR_cutR (x:Int) (r:R):inR x (cutR r)=inR x r:=by
 rw [Bool.eq_iff_iff];simp only [inR,cutR,decide_eq_true_eq,Int.max_le,Int.le_min];omega
theorem hasL_withinL (l:List R) (x:Int):hasL (withinL l) x=hasL l x:=by
 induction l with
 | nil=>rfl
 | cons r t ih=>
  unfold withinL at ih ⊢
  rw [List.map_cons,List.filter_cons]
  split
  ·rw [hasL_cons,hasL_cons,ih,inR_cutR]
  ·rename_i h
   rw [ih,hasL_cons]
   have:inR x r=false:=by
    rw [← inR_cutR]
    simp [inR] at h ⊢
    omega
   simp [this]
theorem ok_withinL (l:List R):∀ r∈withinL l,okR r:=by
 intro r hr
 simp only [withinL,List.mem_filter,List.mem_map,decide_eq_true_eq] at hr
 obtain ⟨⟨a,_,rfl⟩,h⟩:=hr
 simp only [cutR,okR] at h ⊢
 omega
theorem withinL_concat (l:List R) (r:R):withinL (l++[r])=withinL l++(if (cutR r).1≤(cutR r).2 then [cutR r] else []):=by
 simp only [withinL,List.map_append,List.filter_append,List.map_cons,List.map_nil,List.filter_cons,List.filter_nil,decide_eq_true_eq]
def joinF (q:R):List R→List R
 | []=>[q]
 | r :: t=>if r.1≤q.2+1 then joinF (q.1,max q.2 r.2) t else q :: joinF r t
def joinL:List R→List R
 | []=>[]
 | r :: t=>joinF r t
def Sorted (l:List R):Prop:=l.Pairwise fun a b=>a.1≤b.1
theorem joinF_least:∀ (t:List R) (p:Int) (q:R),p<q.1-1→okR q→(∀ r∈t,okR r)→(∀ r∈t,q.1≤r.1)→Sorted t→LeastF p (joinF q t)
 | [],p,q,hp,hq,_,_,_=>⟨hp,hq.2.1,hq.2.2,trivial⟩
 | r :: t,p,q,hp,hq,hok,hge,hs=>by
  have hr:=hok r (by simp)
  have hqr:=hge r (by simp)
  have hs':=List.pairwise_cons.1 hs
  unfold joinF
  split
  ·refine joinF_least t p _ hp ⟨hq.1,?_,?_⟩ (fun a ha=>hok a (by simp [ha])) (fun a ha=>hge a (by simp [ha])) hs'.2
   ·have:=hq.2.1;simp only;omega
   ·have:=hq.2.2;have:=hr.2.2;simp only;omega
  ·refine ⟨hp,hq.2.1,hq.2.2,joinF_least t q.2 r (by omega) hr (fun a ha=>hok a (by simp [ha])) hs'.1 hs'.2⟩
theorem joinF_has:∀ (t:List R) (q:R) (x:Int),q.1≤q.2→(∀ r∈t,q.1≤r.1)→(∀ r∈t,r.1≤r.2)→Sorted t→hasL (joinF q t) x=(inR x q||hasL t x)
 | [],q,x,_,_,_,_=>by simp [joinF]
 | r :: t,q,x,hq,hge,hok,hs=>by
  have hs':=List.pairwise_cons.1 hs
  have hqr:=hge r (by simp)
  have hr:=hok r (by simp)
  unfold joinF
  split
  ·rename_i h
   rw [joinF_has t (q.1,max q.2 r.2) x (by show q.1≤max q.2 r.2;omega) (fun a ha=>hge a (by simp [ha])) (fun a ha=>hok a (by simp [ha])) hs'.2,hasL_cons,← Bool.or_assoc]
   congr 1
   rw [Bool.eq_iff_iff]
   simp only [inR,Bool.or_eq_true,decide_eq_true_eq]
   omega
  ·rw [hasL_cons,joinF_has t r x hr hs'.1 (fun a ha=>hok a (by simp [ha])) hs'.2,hasL_cons]
theorem joinL_least {l:List R} (hok:∀ r∈l,okR r) (hs:Sorted l):Least (joinL l):=by
 cases l with
 | nil=>trivial
 | cons r t=>
  have hr:=hok r (by simp)
  exact joinF_least t (-2) r (by have:=hr.1;omega) hr (fun a ha=>hok a (by simp [ha])) (List.pairwise_cons.1 hs).1 (List.pairwise_cons.1 hs).2
theorem joinL_has {l:List R} (hok:∀ r∈l,okR r) (hs:Sorted l) (x:Int):hasL (joinL l) x=hasL l x:=by
 cases l with
 | nil=>rfl
 | cons r t=>
  exact joinF_has t r x (hok r (by simp)).2.1 (List.pairwise_cons.1 hs).1 (fun a ha=>(hok a (by simp [ha])).2.1) (List.pairwise_cons.1 hs).2
theorem joinF_len:∀ (t:List R) (q:R),(joinF q t).length≤t.length+1
 | [],q=>by simp [joinF]
 | r :: t,q=>by
  unfold joinF
  split
  ·have:=joinF_len t (q.1,max q.2 r.2);simp only [List.length_cons];omega
  ·have:=joinF_len t r;simp only [List.length_cons];omega
theorem joinL_len (l:List R):(joinL l).length≤l.length:=by
 cases l with
 | nil=>exact Nat.le_refl _
 | cons r t=>exact joinF_len t r
def mk (l:List R):List R:=joinL ((withinL l).mergeSort fun a b=>decide (a.1≤b.1))
theorem sorted_mergeSort (l:List R):Sorted (l.mergeSort fun a b=>decide (a.1≤b.1)):=by
 have h:=List.pairwise_mergeSort (le:=fun a b:R=>decide (a.1≤b.1)) (fun a b c h1 h2=>by simp at h1 h2 ⊢;omega) (fun a b=>by simp;omega) l
 exact h.imp fun h=>by simpa using h
theorem mk_least (l:List R):Least (mk l):=
 joinL_least (fun r hr=>ok_withinL l r (by simpa using (List.mergeSort_perm (withinL l) _).mem_iff.1 hr)) (sorted_mergeSort _)
theorem mk_has (l:List R) (x:Int):hasL (mk l) x=hasL l x:=by
 rw [mk,joinL_has (fun r hr=>ok_withinL l r (by simpa using (List.mergeSort_perm (withinL l) _).mem_iff.1 hr)) (sorted_mergeSort _),hasL_perm (List.mergeSort_perm _ _),hasL_withinL]
theorem mk_unique {l m:List R} (hm:Least m) (h:∀ x,hasL m x=hasL l x):m=mk l:=
 least_unique (by omega) hm (mk_least l) fun x=>(h x).trans (mk_has l x).symm
theorem join_mk {l s:List R} (hp:s.Perm (withinL l)) (hs:Sorted s):joinL s=mk l:=by
 have hok:∀ r∈s,okR r:=fun r hr=>ok_withinL l r (hp.mem_iff.1 hr)
 exact mk_unique (joinL_least hok hs) fun x=>by rw [joinL_has hok hs,hasL_perm hp,hasL_withinL]
theorem mk_of_least {l:List R} (h:Least l):mk l=l:=(mk_unique h fun _=>rfl).symm
theorem Least.ok {l:List R} (h:Least l):∀ r∈l,okR r:=fun r hr=>by
 have:=LeastF.lo h r hr
 unfold okR;omega
def notF:Int→List R→List R
 | f,[]=>if f≤1114367 then [(f,1114367)] else []
 | f,r :: t=>(if f<r.1 then [(f,r.1-1)] else [])++notF (r.2+1) t
def notL (l:List R):List R:=notF 0 (mk l)
def ovR (a b:R):R:=(max a.1 b.1,min a.2 b.2)
def ov1 (a b:R):List R:=if (ovR a b).1≤(ovR a b).2 then [ovR a b] else []
def andF:List R→List R→List R
 | [],_=>[]
 | _ :: _,[]=>[]
 | a :: s,b :: t=>ov1 a b++(if a.2<b.2 then andF s (b :: t) else andF (a :: s) t)
termination_by a b=>a.length+b.length
theorem andF_nil (b:List R):andF [] b=[]:=by unfold andF;rfl
theorem andF_nil' (a:List R):andF a []=[]:=by cases a<;>unfold andF<;>rfl
theorem andF_cons (a b:R) (s t:List R):andF (a :: s) (b :: t)=ov1 a b++(if a.2<b.2 then andF s (b :: t) else andF (a :: s) t):=by rw [andF]
theorem andF_least:∀ (n:Nat) (A B:List R),A.length+B.length≤n→∀ (p q:Int),LeastF p A→LeastF q B→LeastF (max p q) (andF A B):=by
 intro n
 induction n with
 | zero=>
  intro A B h p q hA hB
  have:A=[]:=List.eq_nil_of_length_eq_zero (by omega)
  subst this
  rw [andF_nil];trivial
 | succ n ih=>
  intro A B h p q hA hB
  cases A with
  | nil=>rw [andF_nil];trivial
  | cons a s=>
   cases B with
   | nil=>rw [andF_nil'];trivial
   | cons b t=>
    rw [andF_cons]
    have a1:=hA.1;have a2:=hA.2.1;have a3:=hA.2.2.1
    have b1:=hB.1;have b2:=hB.2.1;have b3:=hB.2.2.1
    simp only [List.length_cons] at h
    by_cases hlt:a.2<b.2
    ·rw [if_pos hlt]
     have h1:=ih s (b :: t) (by simp only [List.length_cons];omega) a.2 q hA.2.2.2 hB
     unfold ov1
     split
     ·refine ⟨by simp only [ovR];omega,by assumption,by simp only [ovR];omega,h1.mono (by simp only [ovR];omega)⟩
     ·exact h1.mono (by omega)
    ·rw [if_neg hlt]
     have h1:=ih (a :: s) t (by simp only [List.length_cons];omega) p b.2 hA hB.2.2.2
     unfold ov1
     split
     ·refine ⟨by simp only [ovR];omega,by assumption,by simp only [ovR];omega,h1.mono (by simp only [ovR];omega)⟩
     ·exact h1.mono (by omega)
theorem andF_has:∀ (n:Nat) (A B:List R),A.length+B.length≤n→∀ (p q x:Int),LeastF p A→LeastF q B→hasL (andF A B) x=(hasL A x&&hasL B x):=by
 intro n
 induction n with
 | zero=>
  intro A B h p q x hA hB
  have:A=[]:=List.eq_nil_of_length_eq_zero (by omega)
  subst this
  rw [andF_nil];rfl
 | succ n ih=>
  intro A B h p q x hA hB
  cases A with
  | nil=>rw [andF_nil];rfl
  | cons a s=>
   cases B with
   | nil=>rw [andF_nil'];simp
   | cons b t=>
    rw [andF_cons,hasL_append]
    have a1:=hA.1;have a2:=hA.2.1;have a3:=hA.2.2.1
    have b1:=hB.1;have b2:=hB.2.1;have b3:=hB.2.2.1
    simp only [List.length_cons] at h
    have ho:hasL (ov1 a b) x=(inR x a&&inR x b):=by
     unfold ov1
     split
     ·rw [Bool.eq_iff_iff];simp [inR,ovR];omega
     ·rename_i hn
      rw [Bool.eq_iff_iff];simp [inR,ovR] at hn ⊢;omega
    rw [ho]
    by_cases hlt:a.2<b.2
    ·rw [if_pos hlt,ih s (b :: t) (by simp only [List.length_cons];omega) a.2 q x hA.2.2.2 hB,hasL_cons,hasL_cons]
     cases hs:hasL s x with
     | true=>
      have:=hA.2.2.2.has hs
      have e:inR x a=false:=by simp [inR];omega
      rw [e];simp
     | false=>
      cases ht:hasL t x with
      | true=>
       have:=hB.2.2.2.has ht
       have e:inR x a=false:=by simp [inR];omega
       rw [e];simp
      | false=>simp
    ·rw [if_neg hlt,ih (a :: s) t (by simp only [List.length_cons];omega) p b.2 x hA hB.2.2.2,hasL_cons,hasL_cons]
     cases ht:hasL t x with
     | true=>
      have:=hB.2.2.2.has ht
      have e:inR x b=false:=by simp [inR];omega
      rw [e];simp
     | false=>
      cases hs:hasL s x with
      | true=>
       have:=hA.2.2.2.has hs
       have e:inR x b=false:=by simp [inR];omega
       rw [e];simp
      | false=>simp
def andL (a b:List R):List R:=andF (mk a) (mk b)
theorem andL_least (a b:List R):Least (andL a b):=andF_least _ _ _ (Nat.le_refl _) (-2) (-2) (mk_least a) (mk_least b)
theorem andL_has (a b:List R) (x:Int):hasL (andL a b) x=(hasL a x&&hasL b x):=by
 rw [andL,andF_has _ _ _ (Nat.le_refl _) (-2) (-2) x (mk_least a) (mk_least b),mk_has,mk_has]
def orL (a b:List R):List R:=mk (a++b)
def sumL (l:List R):Int:=(l.map fun r=>r.2-r.1+1).sum
@[simp] theorem sumL_nil:sumL []=0:=rfl
@[simp] theorem sumL_cons (r:R) (l:List R):sumL (r :: l)=r.2-r.1+1+sumL l:=by simp [sumL]
theorem sumL_append (a b:List R):sumL (a++b)=sumL a+sumL b:=by simp [sumL]
def cntN (N:Nat) (f:Int→Bool):Nat:=(List.range N).countP fun x:Nat=>f (x:Int)
theorem cntN_congr {N:Nat} {f g:Int→Bool} (h:∀ x:Int,f x=g x):cntN N f=cntN N g:=by
 unfold cntN;congr 1;funext x;exact h x
theorem countP_or_and {α:Type} (f g:α→Bool) (l:List α):(l.countP fun x=>f x||g x)+(l.countP fun x=>f x&&g x)=l.countP f+l.countP g:=by
 induction l with
 | nil=>rfl
 | cons a t ih=>
  simp only [List.countP_cons]
  cases f a<;>cases g a<;>simp<;>omega
theorem cntN_or_and (N:Nat) (f g:Int→Bool):cntN N (fun x=>f x||g x)+cntN N (fun x=>f x&&g x)=cntN N f+cntN N g:=countP_or_and _ _ _
theorem cntN_false (N:Nat):cntN N (fun _=>false)=0:=by simp [cntN]
theorem cntN_range (N:Nat) (lo hi:Int) (h0:0≤lo) (h1:lo≤hi+1) (h2:hi<N):(cntN N fun x=>decide (lo≤x∧x≤hi):Int)=hi-lo+1:=by
 induction N generalizing hi with
 | zero=>
  have:hi-lo+1=0:=by omega
  simp [cntN];omega
 | succ N ih=>
  unfold cntN at ih ⊢
  dsimp only at ih ⊢
  rw [List.range_succ,List.countP_append,List.countP_cons,List.countP_nil]
  by_cases hN:hi=N
  ·by_cases hl:lo≤hi
   ·have h:=ih (hi-1) (by omega) (by omega)
    have e:(List.countP (fun x:Nat=>decide (lo≤(x:Int)∧(x:Int)≤hi)) (List.range N))=List.countP (fun x:Nat=>decide (lo≤(x:Int)∧(x:Int)≤hi-1)) (List.range N):=by
     refine List.countP_congr fun x hx=>?_
     have:=List.mem_range.1 hx
     simp only [decide_eq_true_eq];omega
    rw [e]
    have hd:decide (lo≤(N:Int)∧(N:Int)≤hi)=true:=by simp;omega
    simp only [hd,if_true]
    push_cast
    omega
   ·have e:(List.countP (fun x:Nat=>decide (lo≤(x:Int)∧(x:Int)≤hi)) (List.range N))=0:=by
     rw [List.countP_eq_zero]
     intro x hx
     simp;omega
    have hd:decide (lo≤(N:Int)∧(N:Int)≤hi)=false:=by simp;omega
    rw [e]
    simp only [hd]
    simp
    omega
  ·have h:=ih hi h1 (by omega)
   have hd:decide (lo≤(N:Int)∧(N:Int)≤hi)=false:=by simp;omega
   simp only [hd]
   simp only [Bool.false_eq_true,if_false,Nat.add_zero]
   exact h
theorem sumL_cnt (N:Nat) (hN:(N:Int)=1114368):∀ (l:List R) (p:Int),-2≤p→LeastF p l→sumL l=(cntN N (hasL l):Int)
 | [],p,_,_=>by
  have:cntN N (hasL [])=0:=(cntN_congr fun x=>hasL_nil x).trans (cntN_false _)
  rw [this];rfl
 | r :: t,p,hp,h=>by
  have h1:=h.1;have h2:=h.2.1;have h3:=h.2.2.1
  rw [sumL_cons,sumL_cnt N hN t r.2 (by omega) h.2.2.2]
  have e:=cntN_or_and N (fun x=>inR x r) (hasL t)
  have e1:cntN N (fun x=>inR x r&&hasL t x)=0:=by
   rw [cntN_congr (g:=fun _=>false),cntN_false]
   intro x
   cases ht:hasL t x with
   | false=>simp
   | true=>
    have:=h.2.2.2.has ht
    simp [inR];omega
  have e2:(cntN N (fun x=>inR x r):Int)=r.2-r.1+1:=by
   rw [← cntN_range N r.1 r.2 (by omega) (by omega) (by omega)]
   congr 1
   refine cntN_congr fun x=>?_
   simp only [inR,decide_eq_decide];omega
  have e3:cntN N (hasL (r :: t))=cntN N (fun x=>inR x r||hasL t x):=cntN_congr fun x=>rfl
  rw [e3]
  omega
def ofL (x:Int):List R:=mk [(x,x)]
end Go.Proofs.YtmlbklcmblofkaaGreatDoor.Rs
namespace Go.Proofs.YtmlbklcmblofkaaGreatDoor.Cl
section
open Rs
def sets:List (List R):=[[(48,57),(65,90),(97,122)],[(65,90),(97,122)],[(0,127)],[(9,9),(32,32)],[(0,31),(127,127)],[(48,57)],[(33,126)],[(97,122)],[(32,126)],[(33,47),(58,64),(91,96),(123,126)],[(9,13),(32,32)],[(65,90)],[(48,57),(65,90),(95,95),(97,122)],[(48,57),(65,70),(97,102)]]
theorem sets_len:sets.length=14:=rfl
theorem sets_least:∀ l∈sets,Least l:=by decide
theorem sets_some:∀ l∈sets,0<l.length∧l.length≤4:=by decide
def place (s:List UInt8):Option Nat:=nmB.findIdx? (·==s)
theorem place_lt {s:List UInt8} {j:Nat} (h:place s=some j):j<14:=by
 have:=(List.findIdx?_eq_some_iff_findIdx_eq.1 h).1
 rwa [nmB_len] at this
theorem sets_at {j:Nat} (h:j<14):∃ l,sets[j]?=some l∧l∈sets:=by
 have hj:j<sets.length:=by rw [sets_len];exact h
 exact ⟨sets[j],List.getElem?_eq_getElem hj,List.getElem_mem hj⟩
def nameL (s:List UInt8):List R:=match place s with
 | some j=>sets.getD j []
 | none=>[]
def isName (s:List UInt8):Bool:=(place s).isSome
theorem nameL_least (s:List UInt8):Least (nameL s):=by
 unfold nameL
 cases h:place s with
 | none=>exact trivial
 | some j=>
  obtain ⟨l,hs,hm⟩:=sets_at (place_lt h)
  show Least (sets.getD j [])
  rw [List.getD,hs]
  exact sets_least _ hm
theorem nameL_len (s:List UInt8):(nameL s).length≤4∧(isName s=true→0<(nameL s).length)∧(isName s=false→nameL s=[]):=by
 unfold nameL isName
 cases h:place s with
 | none=>simp
 | some j=>
  obtain ⟨l,hs,hm⟩:=sets_at (place_lt h)
  have:=sets_some _ hm
  simp only [List.getD,hs,Option.getD_some,Option.isSome_some]
  exact ⟨this.2,fun _=>this.1,fun h=>by cases h⟩
end
section
def nmOf (c:Nat):Option (List UInt8×Bool):=if c=100 then some ([100,105,103,105,116],false)
 else if c=68 then some ([100,105,103,105,116],true)
 else if c=119 then some ([119,111,114,100],false)
 else if c=87 then some ([119,111,114,100],true)
 else if c=115 then some ([115,112,97,99,101],false)
 else if c=83 then some ([115,112,97,99,101],true)
 else none
end
section
open Rs
def listOf (c:Nat):List R:=match nmOf c with
 | some (n,t)=>if t then notL (nameL n) else nameL n
 | none=>[]
def isOf (c:Nat):Bool:=(nmOf c).isSome
theorem notF_short:∀ (m:List R) (f:Int),(notF f m).length≤m.length+1
 | [],f=>by unfold notF;split<;>simp
 | r :: t,f=>by
  have:=notF_short t (r.2+1)
  unfold notF
  split<;>simp<;>omega
theorem listOf_len (c:Nat):(listOf c).length≤5∧(isOf c=false→listOf c=[]):=by
 refine ⟨?_,fun h=>?_⟩
 ·unfold listOf
  split
  ·rename_i n t _
   have h4:=(nameL_len n).1
   split
   ·unfold notL
    rw [mk_of_least (nameL_least n)]
    have:=notF_short (nameL n) 0
    omega
   ·omega
  ·simp
 ·unfold isOf at h
  unfold listOf
  cases hn:nmOf c with
  | none=>rfl
  | some q=>rw [hn] at h;cases h
end
end Go.Proofs.YtmlbklcmblofkaaGreatDoor.Cl
namespace Go.Proofs.YtmlbklcmblofkaaGreatDoor.Fo
section
structure Row where
 lo:Int
 hi:Int
 step:Int
 far:Int
def T:List Row:=[⟨65,90,1,32⟩,⟨192,214,1,32⟩,⟨216,222,1,32⟩,⟨256,302,2,1⟩,⟨306,310,2,1⟩,⟨313,327,2,1⟩,⟨330,374,2,1⟩,⟨377,381,2,1⟩,⟨913,929,1,32⟩,⟨931,939,1,32⟩,⟨1024,1039,1,80⟩,⟨1040,1071,1,32⟩,⟨1120,1152,2,1⟩,⟨1329,1366,1,48⟩,⟨7680,7828,2,1⟩,⟨9398,9423,1,26⟩,⟨65313,65338,1,32⟩,⟨66560,66599,1,40⟩]
def S:List (Int×Int):=[(181,956),(376,255),(383,115),(962,963),(8490,107),(8491,229)]
def inRow (x:Int) (r:Row):Bool:=decide (r.lo≤x)&&decide (x≤r.hi)&&(r.step==1||x.tmod 2==r.lo.tmod 2)
def withP (x:Int):Int:=
 match S.find? (fun p=>p.1==x) with
 | some p=>p.2
 | none=>match T.find? (inRow x) with
  | some r=>x+r.far
  | none=>x
def far:List Int:=[80,48,40,32,26,1,0]
def spec:List Int:=[181,376,383,962,8490,8491]
theorem withP_cases (x:Int):(x∈spec)∨(∃ f∈far,withP x=x+f):=by
 unfold withP
 cases h:S.find? (fun p=>p.1==x) with
 | some p=>
  left
  have h1:=List.find?_some h
  have h2:=List.mem_of_find?_eq_some h
  simp at h1
  subst h1
  simp [S] at h2
  rcases h2 with rfl|rfl|rfl|rfl|rfl|rfl<;>simp [spec]
 | none=>
  right
  cases h2:T.find? (inRow x) with
  | none=>exact ⟨0,by simp [far],by simp⟩
  | some r=>
   have h3:=List.mem_of_find?_eq_some h2
   refine ⟨r.far,?_,rfl⟩
   simp [T] at h3
   rcases h3 with rfl|rfl|rfl|rfl|rfl|rfl|rfl|rfl|rfl|rfl|rfl|rfl|rfl|rfl|rfl|rfl|rfl|rfl<;>simp [far]
theorem withP_bound (x:Int) (h0:0≤x) (h1:x≤1114367):0≤withP x∧withP x≤1114367∧(x≤withP x∨x∈spec):=by
 unfold withP
 cases h:S.find? (fun p=>p.1==x) with
 | some p=>
  have h1:=List.find?_some h
  have h2:=List.mem_of_find?_eq_some h
  simp at h1
  subst h1
  simp [S] at h2
  rcases h2 with rfl|rfl|rfl|rfl|rfl|rfl<;>simp [spec]
 | none=>
  cases h2:T.find? (inRow x) with
  | none=>simp;omega
  | some r=>
   have h3:=List.mem_of_find?_eq_some h2
   have h4:=List.find?_some h2
   simp only [inRow,Bool.and_eq_true,decide_eq_true_eq] at h4
   obtain ⟨⟨h5,h6⟩,_⟩:=h4
   simp only
   simp [T] at h3
   rcases h3 with rfl|rfl|rfl|rfl|rfl|rfl|rfl|rfl|rfl|rfl|rfl|rfl|rfl|rfl|rfl|rfl|rfl|rfl<;>simp only at h5 h6 ⊢ <;> omega
def IsOrbit (x:Int) (l:List Int):Prop:=
 if 0≤x∧x≤1114367 then l.Pairwise (·<·)∧∀ y,y∈l↔(0≤y∧y≤1114367∧withP y=withP x) else l=[]
theorem sorted_unique:∀ {a b:List Int},a.Pairwise (·<·)→b.Pairwise (·<·)→(∀ y,y∈a↔y∈b)→a=b
 | [],[],_,_,_=>rfl
 | [],y :: b,_,_,h=>by have:=(h y).2 (by simp);simp at this
 | x :: a,[],_,_,h=>by have:=(h x).1 (by simp);simp at this
 | x :: a,y :: b,ha,hb,h=>by
  rw [List.pairwise_cons] at ha hb
  have hxy:x=y:=by
   have h1:=(h x).1 (by simp)
   have h2:=(h y).2 (by simp)
   rcases List.mem_cons.1 h1 with e|e
   ·exact e
   ·rcases List.mem_cons.1 h2 with e2|e2
    ·exact e2.symm
    ·have:=hb.1 x e
     have:=ha.1 y e2
     omega
  subst hxy
  congr 1
  refine sorted_unique ha.2 hb.2 fun z=>⟨fun hz=>?_,fun hz=>?_⟩
  ·have h1:=(h z).1 (by simp [hz])
   rcases List.mem_cons.1 h1 with e|e
   ·have:=ha.1 z hz;omega
   ·exact e
  ·have h1:=(h z).2 (by simp [hz])
   rcases List.mem_cons.1 h1 with e|e
   ·have:=hb.1 z hz;omega
   ·exact e
theorem orbit_unique {x:Int} {a b:List Int} (ha:IsOrbit x a) (hb:IsOrbit x b):a=b:=by
 unfold IsOrbit at ha hb
 split at ha
 ·rename_i h
  rw [if_pos h] at hb
  exact sorted_unique ha.1 hb.1 fun y=>(ha.2 y).trans (hb.2 y).symm
 ·rename_i h
  rw [if_neg h] at hb
  rw [ha,hb]
def near (b:Int) (fs:List Int):List Int:=(fs.map fun f=>b-f).filter fun y=>decide (0≤y)&&withP y==b
def six (b:Int) (out:List Int):List Int→List Int
 | []=>out
 | y :: t=>six b (if withP y=b∧y ∉ out then out++[y] else out) t
theorem six_mem (b:Int):∀ (t out:List Int) (y:Int),y∈six b out t↔(y∈out∨(y∈t∧withP y=b))
 | [],out,y=>by simp [six]
 | z :: t,out,y=>by
  unfold six
  rw [six_mem b t]
  by_cases h:withP z=b∧z ∉ out
  ·rw [if_pos h]
   simp only [List.mem_append,List.mem_cons,List.not_mem_nil,or_false]
   constructor
   ·rintro ((h1|rfl)|h1)
    ·exact .inl h1
    ·exact .inr ⟨.inl rfl,h.1⟩
    ·exact .inr ⟨.inr h1.1,h1.2⟩
   ·rintro (h1|⟨rfl|h1,h2⟩)
    ·exact .inl (.inl h1)
    ·exact .inl (.inr rfl)
    ·exact .inr ⟨h1,h2⟩
  ·rw [if_neg h]
   simp only [List.mem_cons]
   constructor
   ·rintro (h1|h1)
    ·exact .inl h1
    ·exact .inr ⟨.inr h1.1,h1.2⟩
   ·rintro (h1|⟨rfl|h1,h2⟩)
    ·exact .inl h1
    ·by_cases hy:y∈out
     ·exact .inl hy
     ·exact absurd ⟨h2,hy⟩ h
    ·exact .inr ⟨h1,h2⟩
theorem six_nodup (b:Int):∀ (t out:List Int),out.Nodup→(six b out t).Nodup
 | [],out,h=>h
 | z :: t,out,h=>by
  unfold six
  refine six_nodup b t _ ?_
  split
  ·rename_i hz
   rw [List.nodup_append]
   refine ⟨h,by simp,fun a ha c hc=>?_⟩
   rw [List.mem_singleton.1 hc]
   rintro rfl
   exact hz.2 ha
  ·exact h
theorem near_nodup (b:Int):(near b far).Nodup:=by
 unfold near
 refine List.Pairwise.filter _ ?_
 rw [List.pairwise_map]
 have h:far.Pairwise (·≠·):=by decide
 exact h.imp fun {x y} hne=>by intro e;exact hne (by omega)
theorem near_mem (b y:Int):y∈near b far↔(∃ f∈far,y=b-f)∧0≤y∧withP y=b:=by
 simp only [near,List.mem_filter,List.mem_map,Bool.and_eq_true,decide_eq_true_eq,beq_iff_eq]
 constructor
 ·rintro ⟨⟨f,hf,rfl⟩,h⟩;exact ⟨⟨f,hf,rfl⟩,h⟩
 ·rintro ⟨⟨f,hf,rfl⟩,h⟩;exact ⟨⟨f,hf,rfl⟩,h⟩
theorem spec_bound {y:Int} (h:y∈spec):0≤y∧y≤1114367:=by
 simp [spec] at h
 omega
theorem orbit_of (x:Int) (h0:0≤x) (h1:x≤1114367) {l:List Int} (hp:l.Perm (six (withP x) (near (withP x) far) spec)) (hs:l.Pairwise (·≤·)):IsOrbit x l:=by
 unfold IsOrbit
 rw [if_pos ⟨h0,h1⟩]
 have hnd:l.Nodup:=hp.nodup_iff.2 (six_nodup _ _ _ (near_nodup _))
 refine ⟨?_,fun y=>?_⟩
 ·have:=List.Pairwise.and hs hnd
  exact this.imp fun ⟨h,hne⟩=>by omega
 ·rw [hp.mem_iff,six_mem,near_mem]
  have hb:=withP_bound x h0 h1
  constructor
  ·rintro (⟨⟨f,hf,rfl⟩,h2,h3⟩|⟨h2,h3⟩)
   ·refine ⟨h2,?_,h3⟩
    simp [far] at hf
    omega
   ·exact ⟨(spec_bound h2).1,(spec_bound h2).2,h3⟩
  ·rintro ⟨h2,h3,h4⟩
   rcases withP_cases y with h5|⟨f,hf,h5⟩
   ·exact .inr ⟨h5,h4⟩
   ·exact .inl ⟨⟨f,hf,by omega⟩,h2,h4⟩
end
section
def orb (x:Int):List Int:=if 0≤x∧x≤1114367 then (six (withP x) (near (withP x) far) spec).mergeSort (fun a b=>decide (a≤b)) else []
theorem orb_is (x:Int):IsOrbit x (orb x):=by
 by_cases h:0≤x∧x≤1114367
 ·unfold orb
  rw [if_pos h]
  refine orbit_of x h.1 h.2 (List.mergeSort_perm _ _) ?_
  have hs:=List.pairwise_mergeSort (le:=fun a b:Int=>decide (a≤b)) (fun a b c h1 h2=>by simp at h1 h2 ⊢;omega) (fun a b=>by simp;omega) (six (withP x) (near (withP x) far) spec)
  exact hs.imp fun h=>by simpa using h
 ·unfold orb IsOrbit
  rw [if_neg h,if_neg h]
theorem orb_unique {x:Int} {l:List Int} (h:IsOrbit x l):l=orb x:=orbit_unique h (orb_is x)
def foldZ (x:Int):Int:=(orb x).headD x
theorem foldZ_out {x:Int} (h:¬ (0≤x∧x≤1114367)):orb x=[]∧foldZ x=x:=by
 have:orb x=[]:=by unfold orb;rw [if_neg h]
 exact ⟨this,by unfold foldZ;rw [this];rfl⟩
end
section
variable {x y:Int} {r:Row}
def U:List Row:=T++[⟨181,181,1,775⟩,⟨376,376,1,-121⟩,⟨383,383,1,-268⟩,⟨962,962,1,1⟩,⟨8490,8490,1,-8383⟩,⟨8491,8491,1,-8262⟩]
def hasR (x:Int) (r:Row):Bool:=decide (r.lo≤x)&&(decide (x≤r.hi)&&((x-r.lo).tmod r.step==0))
def lowP (x:Int):Int:=match U.find? (hasR x) with
 | some r=>x+r.far
 | none=>x
def upsP (low:Int) (l:List Row):List Int:=l.filterMap fun r=>if hasR (low-r.far) r then some (low-r.far) else none
def rowLetters (r:Row):List (Int×Int):=(List.range ((r.hi-r.lo).toNat / r.step.toNat+1)).map fun (i:Nat)=>(r.lo+i*r.step,r.lo+i*r.step+r.far)
def letters:List (Int×Int):=U.flatMap rowLetters
def okLetter (p:Int×Int):Bool:=withP p.1==p.2&&(withP p.2==p.2&&(decide (p.1≠p.2)&&(decide (0≤p.1)&&(decide (p.1≤1114367)&&(decide (0≤p.2)&&(decide (p.2≤1114367)&&(decide ((upsP p.2 U).length≤2)&&decide ((upsP p.2 U).Nodup))))))))
theorem letters_all:letters.all okLetter=true:=by decide +kernel
structure Letter (x y:Int):Prop where
 to:withP x=y
 low:withP y=y
 ne:x≠y
 a0:0≤x
 a1:x≤1114367
 b0:0≤y
 b1:y≤1114367
 two:(upsP y U).length≤2
 nodup:(upsP y U).Nodup
theorem letter_of (h:(x,y)∈letters):Letter x y:=by
 have h1:=List.all_eq_true.1 letters_all _ h
 simp only [okLetter,Bool.and_eq_true,decide_eq_true_eq,beq_iff_eq] at h1
 obtain ⟨h1,h2,h3,h4,h5,h6,h7,h8,h9⟩:=h1
 exact ⟨h1,h2,h3,h4,h5,h6,h7,h8,h9⟩
theorem row_ok:∀ r∈U,0≤r.lo∧r.lo≤r.hi∧r.hi≤1114367∧(r.step=1∨r.step=2)∧-8383≤r.far∧r.far≤775:=by decide +kernel
theorem has_iff:hasR x r=true↔r.lo≤x∧x≤r.hi∧(x-r.lo).tmod r.step=0:=by simp [hasR]
theorem mem_letters (hr:r∈U) (h:hasR x r=true):(x,x+r.far)∈letters:=by
 obtain ⟨h0,h1,h2,h3,_,_⟩:=row_ok r hr
 obtain ⟨k0,k1,k2⟩:=has_iff.1 h
 refine List.mem_flatMap.2 ⟨r,hr,List.mem_map.2 ⟨(x-r.lo).toNat / r.step.toNat,?_,?_⟩⟩
 ·rw [List.mem_range]
  rcases h3 with h3|h3<;>rw [h3]<;>simp<;>omega
 ·rw [Int.tmod_eq_emod_of_nonneg (by omega)] at k2
  rcases h3 with h3|h3
  ·rw [h3];simp;omega
  ·rw [h3] at k2 ⊢
   have e:r.lo+(((x-r.lo).toNat / (2:Int).toNat:Nat):Int)*2=x:=by
    have:(2:Int).toNat=2:=rfl
    rw [this]
    omega
   rw [e]
theorem spec_in:∀ p∈S,∃ r∈U,hasR p.1 r=true:=by decide +kernel
theorem T_in:∀ r∈T,r∈U:=fun r h=>List.mem_append_left _ h
theorem has_of_in (hr:r∈T) (h:inRow x r=true):hasR x r=true:=by
 obtain ⟨h0,h1,h2,h3,_,_⟩:=row_ok r (T_in r hr)
 simp only [inRow,Bool.and_eq_true,Bool.or_eq_true,decide_eq_true_eq,beq_iff_eq] at h
 obtain ⟨⟨k0,k1⟩,k2⟩:=h
 refine has_iff.2 ⟨k0,k1,?_⟩
 rw [Int.tmod_eq_emod_of_nonneg (by omega)]
 rcases h3 with h3|h3
 ·rw [h3];omega
 ·rw [h3]
  rcases k2 with k2|k2
  ·omega
  ·rw [Int.tmod_eq_emod_of_nonneg (by omega),Int.tmod_eq_emod_of_nonneg h0] at k2
   omega
theorem alone_of (h:∀ r∈U,hasR x r=false):withP x=x:=by
 unfold withP
 cases h1:S.find? (fun p=>p.1==x) with
 | some p=>
  have h2:=List.find?_some h1
  have h3:=List.mem_of_find?_eq_some h1
  simp at h2
  subst h2
  obtain ⟨r,hr,k⟩:=spec_in p h3
  rw [h r hr] at k
  cases k
 | none=>
  cases h2:T.find? (inRow x) with
  | none=>rfl
  | some r=>
   have h3:=List.mem_of_find?_eq_some h2
   have h4:=List.find?_some h2
   have:=has_of_in h3 h4
   rw [h r (T_in r h3)] at this
   cases this
theorem lowP_eq (x:Int):lowP x=withP x:=by
 unfold lowP
 cases h:U.find? (hasR x) with
 | some r=>exact ((letter_of (mem_letters (List.mem_of_find?_eq_some h) (List.find?_some h))).to).symm
 | none=>exact (alone_of fun r hr=>by simpa using List.find?_eq_none.1 h r hr).symm
theorem letter_with (h:withP x≠x):Letter x (withP x):=by
 have h0:=lowP_eq x
 unfold lowP at h0
 cases h1:U.find? (hasR x) with
 | some r=>
  rw [h1] at h0
  rw [← h0]
  exact letter_of (mem_letters (List.mem_of_find?_eq_some h1) (List.find?_some h1))
 | none=>rw [h1] at h0;exact absurd h0.symm h
theorem with_with (x:Int):withP (withP x)=withP x:=by
 by_cases h:withP x=x
 ·rw [h,h]
 ·exact (letter_with h).low
theorem ups_letter {low:Int} (h:y∈upsP low U):Letter y low:=by
 obtain ⟨r,hr,k⟩:=List.mem_filterMap.1 h
 split at k
 ·rename_i hh
  injection k with k
  subst k
  have:=letter_of (mem_letters hr hh)
  rwa [show low-r.far+r.far=low by omega] at this
 ·cases k
theorem mem_ups {low:Int}:y∈upsP low U↔withP y=low∧y≠low:=by
 constructor
 ·intro h;exact ⟨(ups_letter h).to,(ups_letter h).ne⟩
 ·rintro ⟨h,hne⟩
  have h0:=lowP_eq y
  unfold lowP at h0
  cases h1:U.find? (hasR y) with
  | some r=>
   rw [h1] at h0
   have h2:=List.find?_some h1
   refine List.mem_filterMap.2 ⟨r,List.mem_of_find?_eq_some h1,?_⟩
   simp only at h0
   have e:low-r.far=y:=by omega
   rw [e,if_pos h2]
  | none=>rw [h1] at h0;simp only at h0;omega
theorem ups_two (low:Int):(upsP low U).length≤2∧(upsP low U).Nodup:=by
 cases h:upsP low U with
 | nil=>simp
 | cons y t=>
  have hl:=ups_letter (show y∈upsP low U by rw [h];simp)
  rw [← h]
  exact ⟨hl.two,hl.nodup⟩
theorem orbit_low (x:Int) (h0:0≤x) (h1:x≤1114367) {l:List Int} (hp:l.Perm (withP x :: upsP (withP x) U)) (hs:l.Pairwise (·≤·)):IsOrbit x l:=by
 unfold IsOrbit
 rw [if_pos ⟨h0,h1⟩]
 have hnd:l.Nodup:=hp.nodup_iff.2 (List.nodup_cons.2 ⟨fun h=>(mem_ups.1 h).2 rfl,(ups_two _).2⟩)
 refine ⟨?_,fun y=>?_⟩
 ·have:=List.Pairwise.and hs hnd
  exact this.imp fun ⟨h,hne⟩=>by omega
 ·rw [hp.mem_iff,List.mem_cons]
  have hb:=withP_bound x h0 h1
  constructor
  ·rintro (rfl|h)
   ·exact ⟨hb.1,hb.2.1,with_with x⟩
   ·have hl:=ups_letter h
    exact ⟨hl.a0,hl.a1,hl.to⟩
  ·rintro ⟨_,_,h⟩
   by_cases hy:y=withP x
   ·exact .inl hy
   ·exact .inr (mem_ups.2 ⟨h,hy⟩)
end
section
open Rs
def spansL:List R:=U.flatMap fun r=>[(r.lo,r.hi),(r.lo+r.far,r.hi+r.far)]
def expand (r:R):List Int:=(List.range (r.2-r.1+1).toNat).map fun i:Nat=>r.1+i
def orbR (x:Int):List R:=(orb x).map fun y=>(y,y)
def sameL (m:List R):List R:=m.flatMap fun r=>(expand r).flatMap orbR
def closeL (l:List R):List R:=orL l (sameL (andL l spansL))
theorem spans_ok:∀ r∈spansL,0≤r.1∧r.1≤r.2∧r.2≤1114367:=by decide +kernel
theorem spans_sum:sumL spansL≤2000:=by decide +kernel
theorem cntN_mono {N:Nat} {f g:Int→Bool} (h:∀ x,f x=true→g x=true):cntN N f≤cntN N g:=by
 unfold cntN
 exact List.countP_mono_left fun x _ hx=>h _ hx
theorem cnt_le_sum (N:Nat) (hN:(N:Int)=1114368):∀ (l:List R),(∀ r∈l,0≤r.1∧r.1≤r.2∧r.2≤1114367)→(cntN N (hasL l):Int)≤sumL l
 | [],_=>by
  have:cntN N (hasL [])=0:=(cntN_congr fun x=>hasL_nil x).trans (cntN_false _)
  rw [this];simp
 | r :: t,h=>by
  have ih:=cnt_le_sum N hN t fun q hq=>h q (by simp [hq])
  obtain ⟨h0,h1,h2⟩:=h r (by simp)
  have e:=cntN_or_and N (fun x=>inR x r) (hasL t)
  have e2:(cntN N (fun x=>inR x r):Int)=r.2-r.1+1:=by
   rw [← cntN_range N r.1 r.2 (by omega) (by omega) (by omega)]
   congr 1
   refine cntN_congr fun x=>?_
   simp only [inR,decide_eq_decide];omega
  have e3:cntN N (hasL (r :: t))=cntN N (fun x=>inR x r||hasL t x):=cntN_congr fun x=>rfl
  rw [e3,sumL_cons]
  omega
theorem and_sum (l:List R):sumL (andL l spansL)≤2000:=by
 obtain ⟨N,hN⟩:∃ N:Nat,(N:Int)=1114368:=⟨1114368,by decide⟩
 rw [sumL_cnt N hN _ (-2) (by omega) (andL_least _ _)]
 have h1:cntN N (hasL (andL l spansL))≤cntN N (hasL spansL):=cntN_mono fun x hx=>by
  rw [andL_has,Bool.and_eq_true] at hx;exact hx.2
 have h2:=cnt_le_sum N hN spansL spans_ok
 have:=spans_sum
 omega
end
end Go.Proofs.YtmlbklcmblofkaaGreatDoor.Fo
