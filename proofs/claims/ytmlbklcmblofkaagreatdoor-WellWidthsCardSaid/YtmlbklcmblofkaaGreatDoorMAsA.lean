/-
  Words that the tree's walks share (split off AsSearch, AsAlike, AsPath, AsEnd).
-/
import Derived.Test.YtmlbklcmblofkaaGreatDoorMPaPu
import Derived.Test.YtmlbklcmblofkaaGreatDoorMRsA
import Derived.Laws.StructEq
import Derived.Shelf.Lay
import Derived.Shelf.SlicesQ.Equal
import Derived.Shelf.SlGeneric
import Derived.WalkHide
import Derived.RangeFuncBox
import Derived.RangeFuncNested
import Derived.RangeFuncLeaves
import Derived.RangeFuncBound
import Derived.RangeFuncCalls
import Derived.Shelf.Abstract
import Derived.OwnWalkIn
import Derived.TacticsInMore
import Derived.LoopNIn
import Derived.LoopIn
import Derived.Shelf.AbstractIn
import Derived.Laws.ByValue
import Derived.Deep.DeepMust
import Derived.Deep.QuietTactic
import Derived.BigQuiet
set_option linter.unusedSimpArgs false
set_option linter.unusedVariables false
namespace Go.Proofs.YtmlbklcmblofkaaGreatDoor.As
section
def kidsN (e:Nat→Int):List Int→Nat→Int
 | [],next=>next
 | k :: ks,next=>if k=(next:Int) then (if e next<0 then -1 else kidsN e ks (e next).toNat) else -1
def endN (L:List Nd):Nat→Nat→Int
 | 0,_=>-1
 | f+1,i=>match L[i]? with
  | none=>-1
  | some nd=>kidsN (endN L f) nd.kids (i+1)
theorem kidsN_ge {e:Nat→Int} (he:∀ i,0≤e i→(i:Int)<e i):∀ (ks:List Int) (n:Nat),0≤kidsN e ks n→(n:Int)≤kidsN e ks n
 | [],n,_=>by simp [kidsN]
 | k :: ks,n,h=>by
  unfold kidsN at h ⊢
  split at h
  ·rename_i hk
   rw [if_pos hk]
   split at h
   ·omega
   ·rename_i hm
    rw [if_neg hm]
    have h1:=he n (by omega)
    have h2:=kidsN_ge he ks (e n).toNat h
    omega
  ·omega
theorem endN_gt (L:List Nd):∀ (f i:Nat),0≤endN L f i→(i:Int)<endN L f i
 | 0,i,h=>by simp [endN] at h
 | f+1,i,h=>by
  cases hL:L[i]? with
  | none=>
   unfold endN at h
   rw [hL] at h
   simp at h
  | some nd=>
   have e:endN L (f+1) i=kidsN (endN L f) nd.kids (i+1):=by unfold endN;rw [hL]
   rw [e] at h ⊢
   have:=kidsN_ge (endN_gt L f) nd.kids (i+1) h
   omega
theorem kidsN_le {e:Nat→Int} {m:Nat} (he:∀ i,e i≤m):∀ (ks:List Int) (n:Nat),n≤m→kidsN e ks n≤m
 | [],n,h=>by simp [kidsN];omega
 | k :: ks,n,h=>by
  unfold kidsN
  split
  ·split
   ·omega
   ·exact kidsN_le he ks _ (by have:=he n;omega)
  ·omega
theorem endN_le (L:List Nd):∀ (f i:Nat),endN L f i≤L.length
 | 0,i=>by show (-1:Int)≤_;omega
 | f+1,i=>by
  cases hL:L[i]? with
  | none=>unfold endN;rw [hL];show (-1:Int)≤_;omega
  | some nd=>
   have e:endN L (f+1) i=kidsN (endN L f) nd.kids (i+1):=by unfold endN;rw [hL]
   rw [e]
   exact kidsN_le (endN_le L f) nd.kids (i+1) (List.getElem?_eq_some_iff.1 hL).1
theorem endN_some {L:List Nd} {f i:Nat} {nd:Nd} (h:L[i]?=some nd):endN L (f+1) i=kidsN (endN L f) nd.kids (i+1):=by
 unfold endN
 rw [h]
theorem endN_none {L:List Nd} {f i:Nat} (h:L.length≤i):endN L f i=-1:=by
 cases f with
 | zero=>rfl
 | succ f=>unfold endN;rw [List.getElem?_eq_none h]
theorem kidsN_end {e:Nat→Int} {ks:List Int} {k n:Nat} (h:ks.length≤k):kidsN e (ks.drop k) n=n:=by
 rw [List.drop_of_length_le h];rfl
theorem kidsN_at {e:Nat→Int} {ks:List Int} {k n:Nat} {y:Int} (h:ks[k]?=some y):kidsN e (ks.drop k) n=if y=(n:Int) then (if e n<0 then -1 else kidsN e (ks.drop (k+1)) (e n).toNat) else -1:=by
 obtain ⟨hk,rfl⟩:=List.getElem?_eq_some_iff.1 h
 rw [List.drop_eq_getElem_cons hk,kidsN]
end
section
variable {i:Nat} {L:List Nd} {nd:Nd}
def E (L:List Nd) (i:Nat):Int:=endN L L.length i
def Laid (L:List Nd):Prop:=0<L.length∧E L 0=L.length
theorem kidsN_congr {e e':Nat→Int} (h:∀ j,0≤e j→e' j=e j):∀ (ks:List Int) (n:Nat),0≤kidsN e ks n→kidsN e' ks n=kidsN e ks n
 | [],n,_=>rfl
 | k :: ks,n,hk=>by
  unfold kidsN at hk ⊢
  split at hk
  ·rename_i h1
   split at hk
   ·omega
   ·rename_i h2
    rw [if_pos h1,if_pos h1,h n (by omega),if_neg h2,if_neg h2]
    exact kidsN_congr h ks _ hk
  ·omega
theorem endN_succ (L:List Nd):∀ (f i:Nat),0≤endN L f i→endN L (f+1) i=endN L f i
 | 0,i,h=>by simp [endN] at h
 | f+1,i,h=>by
  cases hL:L[i]? with
  | none=>rw [endN_none (by simpa using hL)] at h;omega
  | some nd=>
   rw [endN_some hL] at h ⊢
   rw [endN_some hL]
   exact kidsN_congr (endN_succ L f) nd.kids (i+1) h
theorem kidsN_in {e:Nat→Int} (he:∀ i,0≤e i→(i:Int)<e i):∀ (ks:List Int) (n:Nat),0≤kidsN e ks n→∀ j:Nat,n≤j→(j:Int)<kidsN e ks n→∃ k:Nat,(k:Int)∈ks∧n≤k∧0≤e k∧k≤j∧(j:Int)<e k∧e k≤kidsN e ks n
 | [],n,_,j,h1,h2=>by simp [kidsN] at h2;omega
 | k :: ks,n,h,j,h1,h2=>by
  unfold kidsN at h h2 ⊢
  split at h
  ·rename_i hk
   rw [if_pos hk] at h2 ⊢
   split at h
   ·omega
   ·rename_i hm
    rw [if_neg hm] at h2 ⊢
    have hge:=kidsN_ge he ks (e n).toNat h
    by_cases hj:(j:Int)<e n
    ·exact ⟨n,by rw [hk];exact List.mem_cons_self,Nat.le_refl _,by omega,h1,hj,by omega⟩
    ·obtain ⟨k',p1,p2,p3,p4,p5,p6⟩:=kidsN_in he ks (e n).toNat h j (by omega) h2
     have:=he n (by omega)
     exact ⟨k',List.mem_cons_of_mem _ p1,by omega,p3,p4,p5,p6⟩
  ·omega
theorem kidsN_kid {e:Nat→Int} (he:∀ i,0≤e i→(i:Int)<e i):∀ (ks:List Int) (n:Nat),0≤kidsN e ks n→∀ y∈ks,∃ k:Nat,y=k∧n≤k∧0≤e k∧e k≤kidsN e ks n
 | [],n,_,y,hy=>by cases hy
 | k :: ks,n,h,y,hy=>by
  unfold kidsN at h ⊢
  split at h
  ·rename_i hk
   rw [if_pos hk]
   split at h
   ·omega
   ·rename_i hm
    rw [if_neg hm]
    have hge:=kidsN_ge he ks (e n).toNat h
    have hn:=he n (by omega)
    rcases List.mem_cons.1 hy with rfl|hy
    ·exact ⟨n,hk,Nat.le_refl _,by omega,by omega⟩
    ·obtain ⟨k',p1,p2,p3,p4⟩:=kidsN_kid he ks (e n).toNat h y hy
     exact ⟨k',p1,by omega,p3,p4⟩
  ·omega
theorem kidsN_apart {e:Nat→Int} (he:∀ i,0≤e i→(i:Int)<e i):∀ (ks:List Int) (n:Nat),0≤kidsN e ks n→∀ a b:Nat,(a:Int)∈ks→(b:Int)∈ks→a<b→e a≤b
 | [],n,_,a,b,ha,_,_=>by cases ha
 | k :: ks,n,h,a,b,ha,hb,hab=>by
  unfold kidsN at h
  split at h
  ·rename_i hk
   split at h
   ·omega
   ·rename_i hm
    have hn:=he n (by omega)
    have kid:=fun y hy=>kidsN_kid he ks (e n).toNat h y hy
    rcases List.mem_cons.1 ha with ha|ha<;>rcases List.mem_cons.1 hb with hb|hb
    ·omega
    ·obtain ⟨k',p1,p2,p3,p4⟩:=kid _ hb
     have:a=n:=by omega
     subst this
     omega
    ·obtain ⟨k',p1,p2,p3,p4⟩:=kid _ ha
     omega
    ·exact kidsN_apart he ks (e n).toNat h a b ha hb hab
  ·omega
theorem endN_all (L:List Nd):∀ (f i:Nat),0≤endN L f i→∀ j:Nat,i≤j→(j:Int)<endN L f i→0≤endN L f j
 | 0,i,h,_,_,_=>by simp [endN] at h
 | f+1,i,h,j,h1,h2=>by
  rcases Nat.lt_or_ge i j with hij|hij
  ·cases hL:L[i]? with
   | none=>rw [endN_none (by simpa using hL)] at h;omega
   | some nd=>
    rw [endN_some hL] at h h2
    obtain ⟨k,p1,p2,p3,p4,p5,p6⟩:=kidsN_in (endN_gt L f) nd.kids (i+1) h j hij h2
    have:=endN_all L f k p3 j p4 p5
    rw [endN_succ L f j this];exact this
  ·obtain rfl:j=i:=by omega
   exact h
theorem Laid.le (_:Laid L) (i:Nat):E L i≤L.length:=endN_le L _ i
theorem Laid.out (_:Laid L) {i:Nat} (hi:L.length≤i):E L i=-1:=endN_none hi
theorem Laid.egt (_:Laid L):∀ i,0≤E L i→(i:Int)<E L i:=fun i hi=>endN_gt L _ i hi
section
variable {L:List Nd} (h:Laid L)
include h
theorem Laid.ok (hi:i<L.length):0≤E L i:=endN_all L L.length 0 (by have:=h.2;unfold E at this;omega) i (Nat.zero_le _) (by have:=h.2;unfold E at this;omega)
theorem Laid.eq (hn:L[i]?=some nd):E L i=kidsN (E L) nd.kids (i+1):=by
 have hi:i<L.length:=(List.getElem?_eq_some_iff.1 hn).1
 have h1:=endN_succ L L.length i (h.ok hi)
 rw [endN_some hn] at h1
 exact h1.symm
theorem Laid.kid (hn:L[i]?=some nd) {y:Int} (hy:y∈nd.kids):∃ k:Nat,y=k∧i<k∧k<L.length∧E L k≤E L i∧(k:Int)<E L k:=by
 have hi:i<L.length:=(List.getElem?_eq_some_iff.1 hn).1
 have h0:=h.ok hi
 rw [h.eq hn] at h0
 obtain ⟨k,p1,p2,p3,p4⟩:=kidsN_kid h.egt nd.kids (i+1) h0 y hy
 have:=h.egt k p3
 have:=h.le k
 exact ⟨k,p1,p2,by omega,by rw [h.eq hn];exact p4,by omega⟩
theorem Laid.inkid (hn:L[i]?=some nd) {j:Nat} (h1:i<j) (h2:(j:Int)<E L i):∃ k:Nat,(k:Int)∈nd.kids∧i<k∧k≤j∧(j:Int)<E L k∧E L k≤E L i:=by
 have hi:i<L.length:=(List.getElem?_eq_some_iff.1 hn).1
 have h0:=h.ok hi
 rw [h.eq hn] at h0 h2
 obtain ⟨k,p1,p2,p3,p4,p5,p6⟩:=kidsN_in h.egt nd.kids (i+1) h0 j h1 h2
 exact ⟨k,p1,p2,p4,p5,by rw [h.eq hn];exact p6⟩
theorem Laid.nest {i j:Nat} (h1:i≤j) (h2:(j:Int)<E L i):E L j≤E L i:=by
 rcases Nat.lt_or_ge i j with hij|hij
 ·obtain ⟨nd,hn⟩:∃ nd,L[i]?=some nd:=by
   have:=h.le i
   exact ⟨_,List.getElem?_eq_getElem (by
    rcases Nat.lt_or_ge i L.length with hl|hl
    ·exact hl
    ·have:=h.out hl;omega)⟩
  obtain ⟨k,p1,p2,p3,p4,p5⟩:=h.inkid hn hij h2
  have:=Laid.nest p3 p4
  omega
 ·obtain rfl:i=j:=by omega
  exact Int.le_refl _
termination_by j-i
theorem Laid.one {p q j:Nat} {np nq:Nd} (hp:L[p]?=some np) (hq:L[q]?=some nq) (h1:(j:Int)∈np.kids) (h2:(j:Int)∈nq.kids):p=q:=by
 have key:∀ {p q:Nat} {np nq:Nd},L[p]?=some np→L[q]?=some nq→(j:Int)∈np.kids→(j:Int)∈nq.kids→¬ p<q:=by
  intro p q np nq hp hq h1 h2 hlt
  obtain ⟨k1,e1,a1,a2,a3,a4⟩:=h.kid hp h1
  obtain ⟨k2,e2,b1,b2,b3,b4⟩:=h.kid hq h2
  obtain rfl:k1=j:=by omega
  obtain rfl:k2=k1:=by omega
  obtain ⟨c,c1,c2,c3,c4,c5⟩:=h.inkid hp (j:=q) hlt (by omega)
  have hi:p<L.length:=(List.getElem?_eq_some_iff.1 hp).1
  have h0:=h.ok hi
  rw [h.eq hp] at h0
  have:=kidsN_apart h.egt np.kids (p+1) h0 c k2 c1 h1 (by omega)
  have hq':=(h.nest c3 c4)
  omega
 rcases Nat.lt_trichotomy p q with h3|h3|h3
 ·exact absurd h3 (key hp hq h1 h2)
 ·exact h3
 ·exact absurd h3 (key hq hp h2 h1)
theorem Laid.zero:(0:Int)<E L 0:=by have:=h.1;have:=h.2;omega
end
def anc (L:List Nd) (i:Int) (k:Nat):Bool:=decide ((k:Int)≤i)&&decide (i<E L k)
def pathL (L:List Nd) (i:Int):List Nat:=(List.range L.length).filter (anc L i)
end
section
section
variable {L:List Nd} (h:Laid L)
include h
end
section
variable {L:List Nd} (h:Laid L)
include h
end
def below (L:List Nd) (i:Int) (a:Nat):List Nat:=(pathL L i).filter fun q=>decide (q<a)
end
section
def items (n:Nat):List (Fin n):=(List.finRange n).reverse
theorem items_len (n:Nat):(items n).length=n:=by simp [items]
theorem items_at {n p:Nat} (h:p<n):(items n)[p]?=some ⟨n-1-p,by omega⟩:=by
 unfold items
 rw [List.getElem?_reverse (by simpa using h),List.length_finRange,List.getElem?_eq_getElem (by simp;omega)]
 simp
end
section
open Go.RowKit Mem Rs
def Stays (K:Nat→Prop) (A B:World):Prop:=∀ k,K k→B.heap[k]?=A.heap[k]?
theorem Stays.refl (K:Nat→Prop) (A:World):Stays K A A:=fun _ _=>rfl
theorem Stays.trans {K:Nat→Prop} {A B C:World} (h:Stays K A B) (k:Stays K B C):Stays K A C:=fun i hi=>(k i hi).trans (h i hi)
def Keeps (K:Nat→Prop) (A B:World):Prop:=Stays K A B∧A.heap.size≤B.heap.size
theorem keeps_t {K:Nat→Prop} {A B C:World} (h:Keeps K A B) (k:Keeps K B C):Keeps K A C:=⟨h.1.trans k.1,Nat.le_trans h.2 k.2⟩
theorem keeps_b {K:Nat→Prop} {w:World} (hK:∀ k,K k→k<w.heap.size) (W:World) (l:Nat) (o o':Obj) (hl:w.heap.size≤l) (h:W.heap[l]?=some o) (_:o.isCells=false) (_:o.isWalk=false):Keeps K W (W.putObj l o'):=
 ⟨fun k hk=>World.putObj_heap_other (by have:=hK k hk;omega),by have:=(grownBy_putObj' W l o').size;exact this⟩
end
end Go.Proofs.YtmlbklcmblofkaaGreatDoor.As
