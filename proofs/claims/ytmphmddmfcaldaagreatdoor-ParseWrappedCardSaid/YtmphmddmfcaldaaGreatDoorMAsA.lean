/-
  Words that the tree's walks share (split off AsSearch, AsAlike, AsPath, AsEnd).
-/
import Derived.Test.YtmphmddmfcaldaaGreatDoorMPaPu
import Derived.Test.YtmphmddmfcaldaaGreatDoorMRsC
import Derived.WalkHide
import Derived.RangeFuncBox
import Derived.RangeFuncNested
import Derived.RangeFuncLeaves
import Derived.RangeFuncBound
import Derived.RangeFuncCalls
import Derived.Shelf.Abstract
import Derived.OwnWalkIn
import Derived.TacticsInMore
import Derived.LoopNIn
import Derived.LoopIn
import Derived.Shelf.AbstractIn
import Derived.Laws.ByValue
import Derived.Deep.DeepMust
set_option linter.unusedSimpArgs false
set_option linter.unusedVariables false
set_option maxHeartbeats 1000000
set_option maxRecDepth 100000
namespace Go.Proofs.YtmphmddmfcaldaaGreatDoor.As
section
def kidsN (e:Nat→Int):List Int→Nat→Int
 | [],next=>next
 | k :: ks,next=>if k=(next:Int) then (if e next<0 then -1 else kidsN e ks (e next).toNat) else -1
def endN (L:List Nd):Nat→Nat→Int
 | 0,_=>-1
 | f+1,i=>match L[i]? with
  | none=>-1
  | some nd=>kidsN (endN L f) nd.kids (i+1)
theorem kidsN_ge {e:Nat→Int} (he:∀ i,0≤e i→(i:Int)<e i):∀ (ks:List Int) (n:Nat),0≤kidsN e ks n→(n:Int)≤kidsN e ks n
 | [],n,_=>by simp [kidsN]
 | k :: ks,n,h=>by
  unfold kidsN at h ⊢
  split at h
  ·rename_i hk
   rw [if_pos hk]
   split at h
   ·omega
   ·rename_i hm
    rw [if_neg hm]
    have h1:=he n (by omega)
    have h2:=kidsN_ge he ks (e n).toNat h
    omega
  ·omega
theorem endN_gt (L:List Nd):∀ (f i:Nat),0≤endN L f i→(i:Int)<endN L f i
 | 0,i,h=>by simp [endN] at h
 | f+1,i,h=>by
  cases hL:L[i]? with
  | none=>
   unfold endN at h
   rw [hL] at h
   simp at h
  | some nd=>
   have e:endN L (f+1) i=kidsN (endN L f) nd.kids (i+1):=by unfold endN;rw [hL]
   rw [e] at h ⊢
   have:=kidsN_ge (endN_gt L f) nd.kids (i+1) h
   omega
theorem kidsN_le {e:Nat→Int} {m:Nat} (he:∀ i,e i≤m):∀ (ks:List Int) (n:Nat),n≤m→kidsN e ks n≤m
 | [],n,h=>by simp [kidsN];omega
 | k :: ks,n,h=>by
  unfold kidsN
  split
  ·split
   ·omega
   ·exact kidsN_le he ks _ (by have:=he n;omega)
  ·omega
theorem endN_le (L:List Nd):∀ (f i:Nat),endN L f i≤L.length
 | 0,i=>by show (-1:Int)≤_;omega
 | f+1,i=>by
  cases hL:L[i]? with
  | none=>unfold endN;rw [hL];show (-1:Int)≤_;omega
  | some nd=>
   have e:endN L (f+1) i=kidsN (endN L f) nd.kids (i+1):=by unfold endN;rw [hL]
   rw [e]
   exact kidsN_le (endN_le L f) nd.kids (i+1) (List.getElem?_eq_some_iff.1 hL).1
theorem endN_some {L:List Nd} {f i:Nat} {nd:Nd} (h:L[i]?=some nd):endN L (f+1) i=kidsN (endN L f) nd.kids (i+1):=by
 unfold endN
 rw [h]
theorem endN_none {L:List Nd} {f i:Nat} (h:L.length≤i):endN L f i=-1:=by
 cases f with
 | zero=>rfl
 | succ f=>unfold endN;rw [List.getElem?_eq_none h]
end
section
variable {i:Nat} {L:List Nd} {nd:Nd}
def E (L:List Nd) (i:Nat):Int:=endN L L.length i
def Laid (L:List Nd):Prop:=0<L.length∧E L 0=L.length
theorem kidsN_congr {e e':Nat→Int} (h:∀ j,0≤e j→e' j=e j):∀ (ks:List Int) (n:Nat),0≤kidsN e ks n→kidsN e' ks n=kidsN e ks n
 | [],n,_=>rfl
 | k :: ks,n,hk=>by
  unfold kidsN at hk ⊢
  split at hk
  ·rename_i h1
   split at hk
   ·omega
   ·rename_i h2
    rw [if_pos h1,if_pos h1,h n (by omega),if_neg h2,if_neg h2]
    exact kidsN_congr h ks _ hk
  ·omega
theorem endN_succ (L:List Nd):∀ (f i:Nat),0≤endN L f i→endN L (f+1) i=endN L f i
 | 0,i,h=>by simp [endN] at h
 | f+1,i,h=>by
  cases hL:L[i]? with
  | none=>rw [endN_none (by simpa using hL)] at h;omega
  | some nd=>
   rw [endN_some hL] at h ⊢
   rw [endN_some hL]
   exact kidsN_congr (endN_succ L f) nd.kids (i+1) h
theorem endN_mono (L:List Nd) {f f' i:Nat} (h:0≤endN L f i) (hf:f≤f'):endN L f' i=endN L f i:=by
 induction f' with
 | zero=>
  obtain rfl:f=0:=by omega
  rfl
 | succ g ih=>
  rcases Nat.lt_or_ge f (g+1) with h1|h1
  ·rw [endN_succ L g i (by rw [ih (by omega)];exact h),ih (by omega)]
  ·obtain rfl:f=g+1:=by omega
   rfl
theorem kidsN_in {e:Nat→Int} (he:∀ i,0≤e i→(i:Int)<e i):∀ (ks:List Int) (n:Nat),0≤kidsN e ks n→∀ j:Nat,n≤j→(j:Int)<kidsN e ks n→∃ k:Nat,(k:Int)∈ks∧n≤k∧0≤e k∧k≤j∧(j:Int)<e k∧e k≤kidsN e ks n
 | [],n,_,j,h1,h2=>by simp [kidsN] at h2;omega
 | k :: ks,n,h,j,h1,h2=>by
  unfold kidsN at h h2 ⊢
  split at h
  ·rename_i hk
   rw [if_pos hk] at h2 ⊢
   split at h
   ·omega
   ·rename_i hm
    rw [if_neg hm] at h2 ⊢
    have hge:=kidsN_ge he ks (e n).toNat h
    by_cases hj:(j:Int)<e n
    ·exact ⟨n,by rw [hk];exact List.mem_cons_self,Nat.le_refl _,by omega,h1,hj,by omega⟩
    ·obtain ⟨k',p1,p2,p3,p4,p5,p6⟩:=kidsN_in he ks (e n).toNat h j (by omega) h2
     have:=he n (by omega)
     exact ⟨k',List.mem_cons_of_mem _ p1,by omega,p3,p4,p5,p6⟩
  ·omega
theorem kidsN_kid {e:Nat→Int} (he:∀ i,0≤e i→(i:Int)<e i):∀ (ks:List Int) (n:Nat),0≤kidsN e ks n→∀ y∈ks,∃ k:Nat,y=k∧n≤k∧0≤e k∧e k≤kidsN e ks n
 | [],n,_,y,hy=>by cases hy
 | k :: ks,n,h,y,hy=>by
  unfold kidsN at h ⊢
  split at h
  ·rename_i hk
   rw [if_pos hk]
   split at h
   ·omega
   ·rename_i hm
    rw [if_neg hm]
    have hge:=kidsN_ge he ks (e n).toNat h
    have hn:=he n (by omega)
    rcases List.mem_cons.1 hy with rfl|hy
    ·exact ⟨n,hk,Nat.le_refl _,by omega,by omega⟩
    ·obtain ⟨k',p1,p2,p3,p4⟩:=kidsN_kid he ks (e n).toNat h y hy
     exact ⟨k',p1,by omega,p3,p4⟩
  ·omega
theorem kidsN_apart {e:Nat→Int} (he:∀ i,0≤e i→(i:Int)<e i):∀ (ks:List Int) (n:Nat),0≤kidsN e ks n→∀ a b:Nat,(a:Int)∈ks→(b:Int)∈ks→a<b→e a≤b
 | [],n,_,a,b,ha,_,_=>by cases ha
 | k :: ks,n,h,a,b,ha,hb,hab=>by
  unfold kidsN at h
  split at h
  ·rename_i hk
   split at h
   ·omega
   ·rename_i hm
    have hn:=he n (by omega)
    have kid:=fun y hy=>kidsN_kid he ks (e n).toNat h y hy
    rcases List.mem_cons.1 ha with ha|ha<;>rcases List.mem_cons.1 hb with hb|hb
    ·omega
    ·obtain ⟨k',p1,p2,p3,p4⟩:=kid _ hb
     have:a=n:=by omega
     subst this
     omega
    ·obtain ⟨k',p1,p2,p3,p4⟩:=kid _ ha
     omega
    ·exact kidsN_apart he ks (e n).toNat h a b ha hb hab
  ·omega
theorem endN_all (L:List Nd):∀ (f i:Nat),0≤endN L f i→∀ j:Nat,i≤j→(j:Int)<endN L f i→0≤endN L f j
 | 0,i,h,_,_,_=>by simp [endN] at h
 | f+1,i,h,j,h1,h2=>by
  rcases Nat.lt_or_ge i j with hij|hij
  ·cases hL:L[i]? with
   | none=>rw [endN_none (by simpa using hL)] at h;omega
   | some nd=>
    rw [endN_some hL] at h h2
    obtain ⟨k,p1,p2,p3,p4,p5,p6⟩:=kidsN_in (endN_gt L f) nd.kids (i+1) h j hij h2
    have:=endN_all L f k p3 j p4 p5
    rw [endN_succ L f j this];exact this
  ·obtain rfl:j=i:=by omega
   exact h
theorem Laid.le (_:Laid L) (i:Nat):E L i≤L.length:=endN_le L _ i
theorem Laid.out (_:Laid L) {i:Nat} (hi:L.length≤i):E L i=-1:=endN_none hi
theorem Laid.egt (_:Laid L):∀ i,0≤E L i→(i:Int)<E L i:=fun i hi=>endN_gt L _ i hi
section
variable {L:List Nd} (h:Laid L)
include h
theorem Laid.ok (hi:i<L.length):0≤E L i:=endN_all L L.length 0 (by have:=h.2;unfold E at this;omega) i (Nat.zero_le _) (by have:=h.2;unfold E at this;omega)
theorem Laid.eq (hn:L[i]?=some nd):E L i=kidsN (E L) nd.kids (i+1):=by
 have hi:i<L.length:=(List.getElem?_eq_some_iff.1 hn).1
 have h1:=endN_succ L L.length i (h.ok hi)
 rw [endN_some hn] at h1
 exact h1.symm
theorem Laid.kid (hn:L[i]?=some nd) {y:Int} (hy:y∈nd.kids):∃ k:Nat,y=k∧i<k∧k<L.length∧E L k≤E L i∧(k:Int)<E L k:=by
 have hi:i<L.length:=(List.getElem?_eq_some_iff.1 hn).1
 have h0:=h.ok hi
 rw [h.eq hn] at h0
 obtain ⟨k,p1,p2,p3,p4⟩:=kidsN_kid h.egt nd.kids (i+1) h0 y hy
 have:=h.egt k p3
 have:=h.le k
 exact ⟨k,p1,p2,by omega,by rw [h.eq hn];exact p4,by omega⟩
theorem Laid.inkid (hn:L[i]?=some nd) {j:Nat} (h1:i<j) (h2:(j:Int)<E L i):∃ k:Nat,(k:Int)∈nd.kids∧i<k∧k≤j∧(j:Int)<E L k∧E L k≤E L i:=by
 have hi:i<L.length:=(List.getElem?_eq_some_iff.1 hn).1
 have h0:=h.ok hi
 rw [h.eq hn] at h0 h2
 obtain ⟨k,p1,p2,p3,p4,p5,p6⟩:=kidsN_in h.egt nd.kids (i+1) h0 j h1 h2
 exact ⟨k,p1,p2,p4,p5,by rw [h.eq hn];exact p6⟩
theorem Laid.nest {i j:Nat} (h1:i≤j) (h2:(j:Int)<E L i):E L j≤E L i:=by
 rcases Nat.lt_or_ge i j with hij|hij
 ·obtain ⟨nd,hn⟩:∃ nd,L[i]?=some nd:=by
   have:=h.le i
   exact ⟨_,List.getElem?_eq_getElem (by
    rcases Nat.lt_or_ge i L.length with hl|hl
    ·exact hl
    ·have:=h.out hl;omega)⟩
  obtain ⟨k,p1,p2,p3,p4,p5⟩:=h.inkid hn hij h2
  have:=Laid.nest p3 p4
  omega
 ·obtain rfl:i=j:=by omega
  exact Int.le_refl _
termination_by j-i
theorem Laid.one {p q j:Nat} {np nq:Nd} (hp:L[p]?=some np) (hq:L[q]?=some nq) (h1:(j:Int)∈np.kids) (h2:(j:Int)∈nq.kids):p=q:=by
 have key:∀ {p q:Nat} {np nq:Nd},L[p]?=some np→L[q]?=some nq→(j:Int)∈np.kids→(j:Int)∈nq.kids→¬ p<q:=by
  intro p q np nq hp hq h1 h2 hlt
  obtain ⟨k1,e1,a1,a2,a3,a4⟩:=h.kid hp h1
  obtain ⟨k2,e2,b1,b2,b3,b4⟩:=h.kid hq h2
  obtain rfl:k1=j:=by omega
  obtain rfl:k2=k1:=by omega
  obtain ⟨c,c1,c2,c3,c4,c5⟩:=h.inkid hp (j:=q) hlt (by omega)
  have hi:p<L.length:=(List.getElem?_eq_some_iff.1 hp).1
  have h0:=h.ok hi
  rw [h.eq hp] at h0
  have:=kidsN_apart h.egt np.kids (p+1) h0 c k2 c1 h1 (by omega)
  have hq':=(h.nest c3 c4)
  omega
 rcases Nat.lt_trichotomy p q with h3|h3|h3
 ·exact absurd h3 (key hp hq h1 h2)
 ·exact h3
 ·exact absurd h3 (key hq hp h2 h1)
theorem Laid.zero:(0:Int)<E L 0:=by have:=h.1;have:=h.2;omega
end
def anc (L:List Nd) (i:Int) (k:Nat):Bool:=decide ((k:Int)≤i)&&decide (i<E L k)
def pathL (L:List Nd) (i:Int):List Nat:=(List.range L.length).filter (anc L i)
end
section
open Rs
def Fit (t:Tr):Prop:=t.nodes.length≤100000∧(∀ nd∈t.nodes,nd.set.length≤8796093021952)∧TrIn t
def alikeN (a b:Nd):Bool:=decide (a.kind=b.kind∧a.num=b.num∧a.mn=b.mn∧a.mx=b.mx∧a.mode=b.mode∧a.name=b.name∧a.set=b.set∧a.kids=b.kids)
def alikeL:List Nd→List Nd→Bool
 | [],[]=>true
 | a :: l,b :: m=>alikeN a b&&alikeL l m
 | _,_=>false
def sameT (a b:Tr):Bool:=decide (a.groups=b.groups)&&decide (a.names=b.names)&&alikeL a.nodes b.nodes
end
section
section
variable {L:List Nd} (h:Laid L)
include h
end
section
variable {L:List Nd} (h:Laid L)
include h
end
def below (L:List Nd) (i:Int) (a:Nat):List Nat:=(pathL L i).filter fun q=>decide (q<a)
end
section
variable {L:List Nd} {nd:Nd} {es:List Int}
def hasI (n:Nat) (i:Int):Bool:=decide (0≤i)&&decide (i<n)
def covB (nd kid:Nd):Bool:=decide (nd.from_≤kid.from_)&&decide (kid.to_≤nd.to_)
def covAt (L:List Nd) (nd:Nd) (k:Nat):Bool:=match L[k]? with
 | some kid=>covB nd kid
 | none=>false
def kidsB (L:List Nd) (nd:Nd) (e:Nat→Int):List Int→Int→Bool
 | [],_=>true
 | k :: ks,en=>decide (k=en)&&hasI L.length k&&covAt L nd k.toNat&&kidsB L nd e ks (e k.toNat)
def kidsZ (e:Nat→Int):List Int→Int→Int
 | [],en=>en
 | k :: ks,en=>kidsZ e ks (e k.toNat)
def nodeOk (L:List Nd) (i:Nat):Bool:=match L[i]? with
 | some nd=>kidsB L nd (E L) nd.kids ((i:Int)+1)
 | none=>true
def ordB (L:List Nd):Bool:=(List.range L.length).all (nodeOk L)&&decide (E L 0=L.length)
theorem kids_congr {L:List Nd} {nd:Nd} {e e':Nat→Int} {i:Nat} (h:∀ j:Nat,i<j→j<L.length→e' j=e j∧(j:Int)<e j):∀ (ks:List Int) (en:Int),(i:Int)<en→kidsB L nd e' ks en=kidsB L nd e ks en∧(kidsB L nd e ks en=true→kidsZ e' ks en=kidsZ e ks en)
 | [],en,_=>⟨rfl,fun _=>rfl⟩
 | k :: ks,en,hen=>by
  unfold kidsB kidsZ
  by_cases hk:k=en∧hasI L.length k=true
  ·obtain ⟨rfl,hh⟩:=hk
   have hb:0≤k∧k<L.length:=by unfold hasI at hh;simpa using hh
   obtain ⟨h1,h2⟩:=h k.toNat (by omega) (by omega)
   rw [h1]
   obtain ⟨g1,g2⟩:=kids_congr h ks (e k.toNat) (by omega)
   rw [g1]
   refine ⟨rfl,fun ht=>g2 ?_⟩
   simp only [Bool.and_eq_true] at ht
   exact ht.2
  ·have hf:(decide (k=en)&&hasI L.length k)=false:=by
    rw [Bool.eq_false_iff,ne_eq,Bool.and_eq_true,decide_eq_true_eq];exact hk
   rw [hf]
   simp
theorem kids_N {L:List Nd} {nd:Nd} {i:Nat} (h:∀ j:Nat,i<j→j<L.length→(j:Int)<E L j):∀ (ks:List Int) (en:Nat),i<en→kidsB L nd (E L) ks en=true→kidsN (E L) ks en=kidsZ (E L) ks en∧(en:Int)≤kidsZ (E L) ks en
 | [],en,_,_=>⟨rfl,by simp [kidsZ]⟩
 | k :: ks,en,hen,hb=>by
  unfold kidsB at hb
  simp only [Bool.and_eq_true,decide_eq_true_eq] at hb
  obtain ⟨⟨⟨rfl,hh⟩,_⟩,hb⟩:=hb
  have hbd:en<L.length:=by unfold hasI at hh;simpa using hh
  have hgt:=h en hen hbd
  rw [Int.toNat_natCast] at hb
  have ecast:E L en=((E L en).toNat:Int):=by omega
  rw [ecast] at hb
  obtain ⟨g1,g2⟩:=kids_N h ks (E L en).toNat (by omega) hb
  unfold kidsN kidsZ
  rw [if_pos rfl,if_neg (by omega),Int.toNat_natCast,g1,← ecast]
  rw [← ecast] at g2
  exact ⟨rfl,by omega⟩
theorem kidsN_up {e e':Nat→Int} {lo:Nat} (h:∀ j,lo≤j→0≤e j→e' j=e j∧(j:Int)<e j):∀ (ks:List Int) (n:Nat),lo≤n→0≤kidsN e ks n→kidsN e' ks n=kidsN e ks n
 | [],n,_,_=>rfl
 | k :: ks,n,hn,hk=>by
  unfold kidsN at hk ⊢
  split at hk
  ·rename_i h1
   split at hk
   ·omega
   ·rename_i h2
    obtain ⟨g1,g2⟩:=h n hn (by omega)
    rw [if_pos h1,if_pos h1,g1,if_neg h2,if_neg h2]
    exact kidsN_up h ks _ (by omega) hk
  ·omega
def Good (L:List Nd) (i:Nat):Prop:=∀ j,i≤j→j<L.length→0≤endN L (L.length-j) j∧nodeOk L j=true
theorem Good.e {L:List Nd} {i j:Nat} (h:Good L i) (h1:i≤j) (h2:j<L.length):E L j=endN L (L.length-j) j∧(j:Int)<E L j:=by
 have h0:=(h j h1 h2).1
 have e:E L j=endN L (L.length-j) j:=endN_mono L h0 (by omega)
 exact ⟨e,by rw [e];exact endN_gt L _ j h0⟩
theorem Good.step {i:Nat} (h:Good L (i+1)) (hn:L[i]?=some nd) (hk:kidsB L nd (E L) nd.kids ((i:Int)+1)=true):Good L i∧E L i=kidsZ (E L) nd.kids ((i:Int)+1):=by
 have hi:i<L.length:=(List.getElem?_eq_some_iff.1 hn).1
 have hgt:∀ j:Nat,i<j→j<L.length→(j:Int)<E L j:=fun j h1 h2=>(h.e h1 h2).2
 have hk':kidsB L nd (E L) nd.kids ((i+1:Nat):Int)=true:=by rw [show ((i+1:Nat):Int)=(i:Int)+1 by omega];exact hk
 obtain ⟨g1,g2⟩:=kids_N hgt nd.kids (i+1) (by omega) hk'
 rw [show ((i+1:Nat):Int)=(i:Int)+1 by omega] at g1 g2
 have hf:endN L (L.length-i) i=kidsN (E L) nd.kids (i+1):=by
  rw [show L.length-i=(L.length-i-1)+1 by omega,endN_some hn]
  refine kidsN_up (lo:=i+1) (fun j h1 h2=>?_) nd.kids (i+1) (Nat.le_refl _) (by omega)
  rcases Nat.lt_or_ge j L.length with hj|hj
  ·obtain ⟨e1,e2⟩:=h.e h1 hj
   exact ⟨(endN_mono L (h j h1 hj).1 (by omega)).trans e1.symm,e2⟩
  ·have:E L j=-1:=endN_none hj
   omega
 have h0:0≤endN L (L.length-i) i:=by rw [hf,g1];omega
 refine ⟨fun j h1 h2=>?_,?_⟩
 ·rcases Nat.lt_or_ge i j with hij|hij
  ·exact h j hij h2
  ·obtain rfl:j=i:=by omega
   exact ⟨h0,by unfold nodeOk;rw [hn];exact hk⟩
 ·rw [show E L i=endN L (L.length-i) i from endN_mono L h0 (by omega),hf,g1]
theorem Good.ord (h:Good L 0):ordB L=decide (E L 0=L.length):=by
 unfold ordB
 rw [List.all_eq_true.2 fun j hj=>(h j (Nat.zero_le _) (List.mem_range.1 hj)).2,Bool.true_and]
theorem ord_false {i:Nat} (hn:L[i]?=some nd) (hk:kidsB L nd (E L) nd.kids ((i:Int)+1)=false):ordB L=false:=by
 unfold ordB
 rw [show (List.range L.length).all (nodeOk L)=false from by
  rw [Bool.eq_false_iff,ne_eq]
  intro h
  have:=List.all_eq_true.1 h i (List.mem_range.2 (List.getElem?_eq_some_iff.1 hn).1)
  unfold nodeOk at this
  rw [hn] at this
  exact absurd (this.symm.trans hk) (by simp)]
 rfl
theorem Good.top (L:List Nd):Good L L.length:=fun j h1 h2=>absurd h2 (by omega)
def items (n:Nat):List (Fin n):=(List.finRange n).reverse
theorem items_len (n:Nat):(items n).length=n:=by simp [items]
theorem items_at {n p:Nat} (h:p<n):(items n)[p]?=some ⟨n-1-p,by omega⟩:=by
 unfold items
 rw [List.getElem?_reverse (by simpa using h),List.length_finRange,List.getElem?_eq_getElem (by simp;omega)]
 simp
def Known (L:List Nd) (es:List Int) (pre:List (Fin L.length)):Prop:=pre <+: items L.length→Good L (L.length-pre.length)∧∀ j:Nat,L.length-pre.length≤j→j<L.length→es.getD j 0=E L j
theorem known_nil (L:List Nd) (es:List Int):Known L es []:=fun _=>⟨by rw [List.length_nil,Nat.sub_zero];exact Good.top L,fun j h1 h2=>absurd h2 (by simp at h1;omega)⟩
theorem pre_at {n:Nat} {pre:List (Fin n)} {x:Fin n} (h:pre++[x] <+: items n):pre <+: items n∧pre.length<n∧x.val=n-1-pre.length:=by
 have hl:=h.length_le
 rw [List.length_append,items_len] at hl
 simp only [List.length_cons,List.length_nil] at hl
 refine ⟨(List.prefix_append _ _).trans h,by omega,?_⟩
 obtain ⟨s,hs⟩:=h
 have h1:(items n)[pre.length]?=some x:=by rw [← hs];simp
 rw [items_at (by omega)] at h1
 have:=Option.some.inj h1
 rw [← this]
theorem known_kids {pre:List (Fin L.length)} {x:Fin L.length} (h:Known L es pre) (hp:pre++[x] <+: items L.length):Good L (x.val+1)∧∀ j:Nat,x.val<j→j<L.length→(fun j=>es.getD j 0) j=E L j∧(j:Int)<E L j:=by
 obtain ⟨h1,h2,h3⟩:=pre_at hp
 obtain ⟨g,he⟩:=h h1
 have e:L.length-pre.length=x.val+1:=by omega
 rw [e] at g he
 exact ⟨g,fun j h4 h5=>⟨he j h4 h5,(g.e h4 h5).2⟩⟩
theorem known_snoc {pre:List (Fin L.length)} {x:Fin L.length} (h:Known L es pre) (hes:es.length=L.length) (hn:L[x.val]?=some nd) (hk:kidsB L nd (fun j=>es.getD j 0) nd.kids ((x.val:Int)+1)=true) :
  Known L (es.set x.val (kidsZ (fun j=>es.getD j 0) nd.kids ((x.val:Int)+1))) (pre++[x]):=fun hp=>by
 obtain ⟨g,he⟩:=known_kids h hp
 obtain ⟨h1,h2,h3⟩:=pre_at hp
 obtain ⟨c1,c2⟩:=kids_congr (nd:=nd) he nd.kids ((x.val:Int)+1) (by omega)
 rw [c1] at hk
 have hz:=c2 hk
 obtain ⟨s1,s2⟩:=g.step hn hk
 have e:L.length-(pre++[x]).length=x.val:=by simp;omega
 rw [e]
 refine ⟨s1,fun j h4 h5=>?_⟩
 rw [hz,← s2]
 rcases Nat.lt_or_ge x.val j with hj|hj
 ·rw [List.getD,List.getElem?_set_ne (by omega)]
  exact (he j hj h5).1
 ·obtain rfl:j=x.val:=by omega
  rw [List.getD,List.getElem?_set_self (by rw [hes];exact h5)]
  rfl
theorem known_bad {pre:List (Fin L.length)} {x:Fin L.length} (h:Known L es pre) (hn:L[x.val]?=some nd) (hk:kidsB L nd (fun j=>es.getD j 0) nd.kids ((x.val:Int)+1)=false) (hp:pre++[x] <+: items L.length):ordB L=false:=by
 obtain ⟨g,he⟩:=known_kids h hp
 obtain ⟨c1,c2⟩:=kids_congr (nd:=nd) he nd.kids ((x.val:Int)+1) (by omega)
 rw [c1] at hk
 exact ord_false hn hk
theorem known_all (hpos:0<L.length) (h:Known L es (items L.length)):ordB L=decide (es.getD 0 0=(L.length:Int)):=by
 obtain ⟨g,he⟩:=h (List.prefix_refl _)
 rw [items_len,Nat.sub_self] at g he
 rw [g.ord,he 0 (Nat.le_refl _) hpos]
theorem kidsB_drop {e:Nat→Int} {ks:List Int} {k:Nat} {y:Int} (h:ks[k]?=some y) (en:Int):kidsB L nd e (ks.drop k) en=(decide (y=en)&&hasI L.length y&&covAt L nd y.toNat&&kidsB L nd e (ks.drop (k+1)) (e y.toNat))∧kidsZ e (ks.drop k) en=kidsZ e (ks.drop (k+1)) (e y.toNat):=by
 obtain ⟨hk,rfl⟩:=List.getElem?_eq_some_iff.1 h
 rw [List.drop_eq_getElem_cons hk]
 exact ⟨rfl,rfl⟩
end
section
open Go.RowKit Mem Rs
theorem kids_at {w:World} {B:Nat} {A:Option Addr} {ks:List Int} (h:Reads w B 1 A ks.length (ks.map Mem.i64)) (hn:0<ks.length):∃ b off,A=some ⟨b,off,none⟩∧b<B∧∀ (k:Nat) (y:Int),ks[k]?=some y→w.cell? ⟨b,off+k,none⟩=some (.int .i64 y):=by
 obtain ⟨ad,rfl,hb,hc⟩:=h.2 hn
 have h0:=hc 0 _ (by rw [List.getElem?_map,List.getElem?_eq_getElem hn];rfl)
 obtain ⟨b,off,sp⟩:=ad
 have es:sp=none:=cell_spot (by simpa [Addr.add] using h0)
 subst es
 refine ⟨b,off,rfl,hb,fun k y hk=>?_⟩
 have:=hc k (.int .i64 y) (by rw [List.getElem?_map,hk];rfl)
 rwa [add_flat] at this
theorem step_eq {α:Type} {l m:List α} {k:Nat} {r q:α} (h:∀ j,j<k→l[j]?=m[j]?) (hr:l[k]?=some r) (hq:m[k]?=some q) (e:r=q):∀ j,j<k+1→l[j]?=m[j]?:=by
 intro j hj
 rcases Nat.lt_or_ge j k with h1|h1
 ·exact h j h1
 ·obtain rfl:j=k:=by omega
  rw [hr,hq,e]
theorem all_eq {α:Type} {l m:List α} {k:Nat} (h:∀ j,j<k→l[j]?=m[j]?) (hk:l.length≤k) (hl:l.length=m.length):l=m:=by
 refine List.ext_getElem? fun j=>?_
 rcases Nat.lt_or_ge j k with h1|h1
 ·exact h j h1
 ·rw [List.getElem?_eq_none (by omega),List.getElem?_eq_none (by omega)]
def QRel {α:Type} (l m:List α) (w W:World) (i:Value) (wr:World):Prop:=∃ (k n:Nat),i=.int .i64 k∧k≤l.length∧(∀ j,j<k→l[j]?=m[j]?)∧wr=W.drewN n
def Stays (K:Nat→Prop) (A B:World):Prop:=∀ k,K k→B.heap[k]?=A.heap[k]?
theorem Stays.refl (K:Nat→Prop) (A:World):Stays K A A:=fun _ _=>rfl
theorem Stays.trans {K:Nat→Prop} {A B C:World} (h:Stays K A B) (k:Stays K B C):Stays K A C:=fun i hi=>(k i hi).trans (h i hi)
def Keeps (K:Nat→Prop) (A B:World):Prop:=Stays K A B∧A.heap.size≤B.heap.size
theorem keeps_t {K:Nat→Prop} {A B C:World} (h:Keeps K A B) (k:Keeps K B C):Keeps K A C:=⟨h.1.trans k.1,Nat.le_trans h.2 k.2⟩
theorem keeps_b {K:Nat→Prop} {w:World} (hK:∀ k,K k→k<w.heap.size) (W:World) (l:Nat) (o o':Obj) (hl:w.heap.size≤l) (h:W.heap[l]?=some o) (_:o.isCells=false) (_:o.isWalk=false):Keeps K W (W.putObj l o'):=
 ⟨fun k hk=>World.putObj_heap_other (by have:=hK k hk;omega),by have:=(grownBy_putObj' W l o').size;exact this⟩
theorem has_any (A:Option Addr) (n cap:Nat) (g:Int) (c:Value) (i:Int) (w:World) :
  Calls Tryz.prog 37 #[.agg #[.slice A n cap,.int .i64 g,c],.int .i64 i] w fun e w'=>e=.returned (.bool (hasI n i))∧Below w.heap.size w w':=by
 unfold hasI
 by_cases h1:0≤i
 ·obtain ⟨q,hq⟩:∃ q,decide (i<(n:Int))=q:=⟨_,rfl⟩
  rw [hq,decide_eq_true h1]
  have d1:decide (0≤i)=true:=by simpa using h1
  clear h1
  go_enter Tryz.func37,Tryz.ntmps37
  go_wp2
  go_ret
  exact ⟨rfl,(Below.refl _ _).alloc (Nat.le_refl _) _⟩
 ·rw [decide_eq_false h1]
  have d1:decide (0≤i)=false:=by simpa using h1
  clear h1
  go_enter Tryz.func37,Tryz.ntmps37
  go_wp2
  go_ret
  exact ⟨by simp,(Below.refl _ _).alloc (Nat.le_refl _) _⟩
theorem hasI_iff (n:Nat) (i:Int):hasI n i=true↔0≤i∧i<n:=by unfold hasI;simp
end
end Go.Proofs.YtmphmddmfcaldaaGreatDoor.As
