/-
  Plain functions, no program: the tree that the parser lays may be.
-/
import Derived.Test.YtmlbklcmblofkaaGreatDoorMAsB
import Derived.Laws.MakeOwn
import Derived.Test.YtmlbklcmblofkaaGreatDoorMPaGd
set_option linter.unusedSimpArgs false
set_option linter.unusedVariables false
namespace Go.Proofs.YtmlbklcmblofkaaGreatDoor.RegTail
open Go
variable {a:Act} {w:World}
def Only (R:Act→World→Prop):Exit→Act→World→Prop
 | .normal,a,w=>R a w
 | _,_,_=>False
theorem only_norm {R:Act→World→Prop} (h:R a w):Only R .normal a w:=h
theorem only_out {R:Act→World→Prop}:¬ LetsOut (Only R):=fun ⟨_,_,h⟩=>h
def isDefer (o:Oper):Bool:=match o.op with
 | .defer _=>true
 | _=>false
theorem not_defer {o:Oper} (h:isDefer o=false):∀ c,o.op≠.defer c:=fun c e=>by
 unfold isDefer at h
 rw [e] at h
 cases h
section
variable {P:Program} {ops:Array Oper} {md:Region.Mode} {m l:Nat} {R:Act→World→Prop} {Q:Exit→Act→World→Prop}
theorem wpIn_of_wp {o:Oper} {K K':Act→World→Prop} (hd:isDefer o=false) (hK:∀ a w,K a w→K' a w) (h:o.wp P a w K (Only R)):o.wpIn (Fence.wide.inRound l) m P a w K' Q:=by
 refine ⟨fun _ _=>trivial,?_⟩
 rw [Fence.inRound_round,Oper.semAt_some l _ _ (not_defer hd)]
 unfold Oper.wp at h
 generalize (execOp a.eval o).run P w=r at *
 cases r with
 | ok n w'=>
  cases n<;>simp only [Oper.upon] at h<;>simp only [Oper.uponIn]
  case enter f args=>
   refine ⟨(fun hd=>by cases hd),?_⟩
   have h2:=callsIn_wide (n:=m-1) |>.2 h
   exact CallsIn.mono (show CallsIn (Fence.wide.inRound l) (m-1) P f args w' _ from h2) (fun e w'' he=>by
    cases e with
    | returned v=>exact hK _ _ he
    | panicked c=>exact he.elim
    | outgrown=>exact (only_out he).elim)
  case row row args=>
   refine ⟨(fun hd=>by cases hd),fun c cs _=>?_⟩
   obtain ⟨v,w',r,s⟩:=h c cs
   exact ⟨v,w',hK _ _ r,stepsIn_wide.2 s⟩
  all_goals (first|exact hK _ _ h|exact h.elim)
 | halt x w'=>cases x<;>simp only [Oper.upon] at h<;>exact h.elim
theorem wpOpIn_of_wpOp {i:Nat} {K K':Act→World→Prop} (hd:ops.any isDefer=false) (hK:∀ a w,K a w→K' a w) (h:wpOp P ops (Only R) i K a w):wpOpIn (Fence.wide.inRound l) m P ops Q i K' a w:=by
 unfold wpOp at h
 unfold wpOpIn
 cases ho:ops[i]? with
 | none=>simp only [ho] at h ⊢;exact hK _ _ h
 | some o=>
  simp only [ho] at h ⊢
  have hdo:isDefer o=false:=by
   obtain ⟨hlt,e⟩:=Array.getElem?_eq_some_iff.1 ho
   have:=Array.any_eq_false.1 hd i hlt
   rw [e] at this
   simpa using this
  split
  ·rename_i hw
   rw [if_pos hw] at h
   rcases h with h|h
   ·exact wpIn_of_wp hdo hK h
   ·exact (only_out h.2).elim
  ·rename_i hw
   rw [if_neg hw] at h
   exact ⟨fun _ _=>trivial,hK _ _ h⟩
theorem wpAnyIn_of_wpAny (hd:ops.any isDefer=false) (hR:∀ a w,R a w→Q .normal a w):∀ (fuel:Nat) (listed:Array Bool) (a:Act) (w:World),wpAny P md ops (Only R) fuel listed a w→wpAnyIn (Fence.wide.inRound l) m P md ops Q fuel listed a w
 | 0,_,_,_,h=>⟨h.1,hR _ _ h.2⟩
 | fuel+1,_,_,_,h=>⟨fun h0=>hR _ _ (h.1 h0),fun i hi=>wpOpIn_of_wpOp hd (fun a' w' h'=>wpAnyIn_of_wpAny hd hR fuel _ a' w' h') (h.2 i hi)⟩
theorem wpIn_region_held {S:World→Prop} {id:Nat} (hm:P.follows .mixedOrders=true) (hd:ops.any isDefer=false) (hS:S w.drew)
  (h:S w.drew→wpAnyH P .any ops (Only fun a w=>Q .normal a w) S ops.size (Array.replicate ops.size false) a w.drew):(Code.region id ops true).wpIn (Fence.wide.inRound l) m P Q a w:=
 wpIn_region_any hm (wpAnyIn_of_wpAny hd (fun _ _ h=>h) _ _ _ _ (wpAny_of_held _ _ _ _ (h hS)))
end
end Go.Proofs.YtmlbklcmblofkaaGreatDoor.RegTail
namespace Go.Proofs.YtmlbklcmblofkaaGreatDoor.As
open Go.RowKit Mem Rs
attribute [local go_sem] run_not_true run_not_false
def rightT (t:Tr):Bool:=decide (0<t.nodes.length)&&(t.nodes.all nodeB&&(ordB t.nodes&&namedB t))
theorem right_laid {t:Tr} (h:rightT t=true):Laid t.nodes:=by
 unfold rightT at h
 simp only [Bool.and_eq_true,decide_eq_true_eq] at h
 have h2:=h.2.2.1
 unfold ordB at h2
 simp only [Bool.and_eq_true,decide_eq_true_eq] at h2
 exact ⟨h.1,h2.2⟩
end Go.Proofs.YtmlbklcmblofkaaGreatDoor.As
namespace Go.Proofs.YtmlbklcmblofkaaGreatDoor.Pa
open Rs (Least)
open As (Nd Tr E endN kidsN kidsB covAt covB hasI nodeOk ordB nodeB formedB countedB numsOk numF loF hiF loT hiT setF nameF nmsOf namedB rightT)
variable {i:Nat}
def AtL (L:List Nd) (i:Nat) (s:List Nd):Prop:=∀ j x,s[j]?=some x→L[i+j]?=some x
theorem AtL.head {L:List Nd} {x:Nd} {s:List Nd} (h:AtL L i (x :: s)):L[i]?=some x:=h 0 x rfl
theorem AtL.tail {L:List Nd} {x:Nd} {s:List Nd} (h:AtL L i (x :: s)):AtL L (i+1) s:=fun j y hy=>by
 have:=h (j+1) y (by simpa using hy)
 rwa [show i+(j+1)=i+1+j by omega] at this
theorem AtL.left {L:List Nd} {s t:List Nd} (h:AtL L i (s++t)):AtL L i s:=fun j y hy=>h j y (by
 rw [List.getElem?_append_left (List.getElem?_eq_some_iff.1 hy).1];exact hy)
theorem AtL.right {L:List Nd} {s t:List Nd} (h:AtL L i (s++t)):AtL L (i+s.length) t:=fun j y hy=>by
 have:=h (s.length+j) y (by rw [List.getElem?_append_right (by omega),Nat.add_sub_cancel_left];exact hy)
 rwa [show i+(s.length+j)=i+s.length+j by omega] at this
theorem idx_len:∀ (F:F) (i:Nat),(F.idx i).length=F.len
 | .nil,_=>rfl
 | .cons nd ks r,i=>by
  show (_ :: r.idx (i+1+ks.size)).length=r.len+1
  rw [List.length_cons,idx_len r]
section
variable {L:List Nd} {names:List (List UInt8)}
theorem at_cons {nd:Nd} {ks r:F} (h:AtL L i (layF names (.cons nd ks r) i)) :
  L[i]?=some { fixN names nd with kids:=ks.idx (i+1) }∧AtL L (i+1) (layF names ks (i+1))∧AtL L (i+1+ks.size) (layF names r (i+1+ks.size)):=by
 have h1:AtL L i (_ :: (layF names ks (i+1)++layF names r (i+1+ks.size))):=h
 refine ⟨h1.head,h1.tail.left,?_⟩
 have:=h1.tail.right
 rwa [layF_len] at this
theorem end_F:∀ (F:F) (i f:Nat),AtL L i (layF names F i)→F.size≤f→kidsN (endN L f) (F.idx i) i=((i+F.size:Nat):Int)
 | .nil,i,f,_,_=>rfl
 | .cons nd ks r,i,f,h,hf=>by
  obtain ⟨h1,h2,h3⟩:=at_cons h
  have hf:1+ks.size+r.size≤f:=hf
  obtain ⟨f',rfl⟩:∃ f',f=f'+1:=⟨f-1,by omega⟩
  have e1:endN L (f'+1) i=((i+1+ks.size:Nat):Int):=by
   rw [As.endN_some h1]
   exact end_F ks (i+1) f' h2 (by omega)
  show kidsN (endN L (f'+1)) ((i:Int) :: r.idx (i+1+ks.size)) i=((i+(1+ks.size+r.size):Nat):Int)
  rw [kidsN,if_pos rfl,e1,if_neg (by omega),Int.toNat_natCast,end_F r (i+1+ks.size) (f'+1) h3 (by omega)]
  congr 1;omega
theorem E_at {nd:Nd} {ks r:F} (h:AtL L i (layF names (.cons nd ks r) i)) (hl:i+(F.cons nd ks r).size≤L.length):E L i=((i+1+ks.size:Nat):Int):=by
 obtain ⟨h1,h2,h3⟩:=at_cons h
 have hl:i+(1+ks.size+r.size)≤L.length:=hl
 unfold E
 obtain ⟨f',hf'⟩:∃ f',L.length=f'+1:=⟨L.length-1,by omega⟩
 rw [hf',As.endN_some h1]
 exact end_F ks (i+1) f' h2 (by omega)
theorem kids_F (nd:Nd):∀ (F:F) (i:Nat),AtL L i (layF names F i)→i+F.size≤L.length→inF nd.from_ nd.to_ F→kidsB L nd (E L) (F.idx i) (i:Int)=true
 | .nil,i,_,_,_=>rfl
 | .cons n2 ks r,i,h,hl,hc=>by
  obtain ⟨h1,h2,h3⟩:=at_cons h
  have hl':i+(1+ks.size+r.size)≤L.length:=hl
  have ih:=kids_F nd r (i+1+ks.size) h3 (by omega) hc.2.2
  show kidsB L nd (E L) ((i:Int) :: r.idx (i+1+ks.size)) (i:Int)=true
  unfold kidsB
  rw [Int.toNat_natCast,E_at h hl,ih]
  have hcov:covAt L nd i=true:=by
   unfold covAt
   rw [h1]
   unfold covB
   simp only [Bool.and_eq_true,decide_eq_true_eq]
   have:=fix_from (names:=names) n2
   refine ⟨?_,?_⟩
   ·show nd.from_≤(fixN names n2).from_;rw [this.1];exact hc.1
   ·show (fixN names n2).to_≤nd.to_;rw [this.2.1];exact hc.2.1
  rw [hcov]
  unfold hasI
  simp
  omega
theorem ok_F:∀ (F:F) (i:Nat),AtL L i (layF names F i)→i+F.size≤L.length→okF F→∀ j,i≤j→j<i+F.size→nodeOk L j=true
 | .nil,i,_,_,_,j,h1,h2=>by have:j<i+0:=h2;omega
 | .cons nd ks r,i,h,hl,ho,j,hj1,hj2=>by
  obtain ⟨h1,h2,h3⟩:=at_cons h
  have hl':i+(1+ks.size+r.size)≤L.length:=hl
  have hj2':j<i+(1+ks.size+r.size):=hj2
  rcases Nat.lt_trichotomy i j with hlt|heq|hgt
  ·rcases Nat.lt_or_ge j (i+1+ks.size) with hk|hk
   ·exact ok_F ks (i+1) h2 (by omega) ho.2.2.1 j (by omega) (by omega)
   ·exact ok_F r (i+1+ks.size) h3 (by omega) ho.2.2.2 j (by omega) (by omega)
  ·subst heq
   unfold nodeOk
   rw [h1]
   have hf:=fix_from (names:=names) nd
   exact kids_F { fixN names nd with kids:=ks.idx (i+1) } ks (i+1) h2 (by omega) (by
    show inF (fixN names nd).from_ (fixN names nd).to_ ks
    rw [hf.1,hf.2.1];exact ho.2.1)
  ·omega
end
theorem nms_lay (names:List (List UInt8)):∀ (F:F) (i:Nat) (rest:List Nd) (acc:List (List UInt8)),nmsOf (layF names F i++rest) acc=(nmsF F acc).bind (nmsOf rest)
 | .nil,_,_,_=>rfl
 | .cons nd ks r,i,rest,acc=>by
  have hf:=fix_from (names:=names) nd
  show nmsOf (({ fixN names nd with kids:=ks.idx (i+1) }:Nd) :: (layF names ks (i+1)++layF names r (i+1+ks.size))++rest) acc=_
  rw [List.cons_append,List.append_assoc,nmsOf,nmsF]
  show (if (fixN names nd).kind=7 then (if (fixN names nd).num=(acc.length:Int) then nmsOf _ (acc++[(fixN names nd).name]) else none) else nmsOf _ acc)=_
  rw [hf.2.2.1,hf.2.2.2.1]
  by_cases h7:nd.kind=7
  ·rw [if_pos h7,if_pos h7,hf.2.2.2.2.2.2.2.2 (by omega)]
   by_cases hn:nd.num=(acc.length:Int)
   ·rw [if_pos hn,if_pos hn,nms_lay names ks,Option.bind_some,Option.bind_assoc]
    congr 1
    funext a
    exact nms_lay names r _ _ _
   ·rw [if_neg hn,if_neg hn];rfl
  ·rw [if_neg h7,if_neg h7,nms_lay names ks,Option.bind_some,Option.bind_assoc]
   congr 1
   funext a
   exact nms_lay names r _ _ _
theorem node_B {names:List (List UInt8)} (hn:names.length≤100) {n:Nat} {nd:Nd} (h:NdOk n nd) (ks:List Int) (hk:ks.length=n):nodeB { fixN names nd with kids:=ks }=true:=by
 obtain ⟨h1,h2,h3,h4,h5,h6,h7,h8⟩:=h
 have hf:=fix_from (names:=names) nd
 have hnum:nd.kind=4→0≤(fixN names nd).num∧(fixN names nd).num≤99∧(0<(fixN names nd).num∨nd.name≠[]):=by
  intro h
  unfold fixN
  split
  ·rename_i hh
   refine ⟨by show (0:Int)≤((idxOf nd.name names 0:Nat):Int);omega,?_,.inr hh.2⟩
   show ((idxOf nd.name names 0:Nat):Int)≤99
   have:=idx_lt nd.name names 0
   omega
  ·rcases h8 with h8|h8|h8|h8|h8|h8|h8|h8|h8|h8
   all_goals first|omega|exact ⟨by omega,by omega,h8.2.2.2.2.2.2⟩
 generalize hX:fixN names nd=X at hf hnum
 have hle:decide (Least X.set)=true:=by rw [hf.2.2.2.2.1];exact decide_eq_true h3
 have hset:nd.kind≠2→X.set.length=0:=fun e=>by rw [hf.2.2.2.2.1,h4 e];rfl
 have hname:nd.kind≠4→nd.kind≠7→(X.name==[])=true:=fun e e2=>by rw [hf.2.2.2.1,h5 e e2];rfl
 have hlen:X.name.length≤32:=by rw [hf.2.2.2.1];exact h2
 have hne:nd.name≠[]→(X.name==[])=false:=fun e=>by rw [hf.2.2.2.1];simpa using e
 unfold nodeB
 show (decide (1≤X.kind∧X.kind≤10)&&(formedB X.kind.toNat { X with kids:=ks }&&countedB X.kind.toNat { X with kids:=ks }&&(decide (0≤X.from_)&&decide (X.from_≤X.to_)&&decide (X.to_≤4096))))=true
 rw [hf.1,hf.2.1,decide_eq_true h1.1,decide_eq_true h1.2.1,decide_eq_true h1.2.2]
 have hkind:X.kind=nd.kind:=hf.2.2.1
 have hmn:X.mn=nd.mn:=hf.2.2.2.2.2.1
 have hmx:X.mx=nd.mx:=hf.2.2.2.2.2.2.1
 have hmode:X.mode=nd.mode:=hf.2.2.2.2.2.2.2.1
 have hoth:=hf.2.2.2.2.2.2.2.2
 rw [hkind]
 unfold formedB countedB numsOk
 have hr:(List.range 5)=[0,1,2,3,4]:=rfl
 rw [hr]
 rcases h8 with h8|h8|h8|h8|h8|h8|h8|h8|h8|h8
 ·have e8:=h8.1
  have s0:=hset (by omega)
  have n0:=hname (by omega) (by omega)
  have a6:=h6 (by omega)
  have a7:=h7 (by omega) (by omega)
  have a9:=hoth (by omega)
  rw [e8]
  simp [numF,loF,hiF,loT,hiT,setF,nameF,hle,s0,n0,hlen,hmn,hmx,hmode,a6.1,a6.2,a7,a9,h8.2.1,hk,h8.2.2]
  all_goals try omega
 ·have e8:=h8.1
  have n0:=hname (by omega) (by omega)
  have a6:=h6 (by omega)
  have a7:=h7 (by omega) (by omega)
  have a9:=hoth (by omega)
  rw [e8]
  simp [numF,loF,hiF,loT,hiT,setF,nameF,hle,n0,hlen,hmn,hmx,hmode,a6.1,a6.2,a7,a9,h8.2.1,hk,h8.2.2]
  all_goals try omega
 ·have e8:=h8.1
  have s0:=hset (by omega)
  have n0:=hname (by omega) (by omega)
  have a6:=h6 (by omega)
  have a7:=h7 (by omega) (by omega)
  have a9:=hoth (by omega)
  rw [e8]
  simp [numF,loF,hiF,loT,hiT,setF,nameF,hle,s0,n0,hlen,hmn,hmx,hmode,a6.1,a6.2,a7,a9,hk,h8.2.2.2]
  all_goals try omega
 ·have e8:=h8.1
  have s0:=hset (by omega)
  have a6:=h6 (by omega)
  have a9:=hnum e8
  rw [e8]
  have hc:(decide (0<X.num)||!(X.name==[]))=true:=by
   rcases a9.2.2 with h|h
   ·rw [decide_eq_true h];rfl
   ·rw [hne h];simp
  simp [numF,loF,hiF,loT,hiT,setF,nameF,hle,s0,hlen,hmn,hmx,hmode,a6.1,a6.2,hk,h8.2.2.2.2.2.1]
  simp at hc
  exact ⟨by omega,hc⟩
 ·have e8:=h8.1
  have s0:=hset (by omega)
  have n0:=hname (by omega) (by omega)
  have a6:=h6 (by omega)
  have a7:=h7 (by omega) (by omega)
  have a9:=hoth (by omega)
  rw [e8]
  simp [numF,loF,hiF,loT,hiT,setF,nameF,hle,s0,n0,hlen,hmn,hmx,hmode,a6.1,a6.2,a7,a9,h8.2.1,hk]
  all_goals try omega
 ·have e8:=h8.1
  have s0:=hset (by omega)
  have n0:=hname (by omega) (by omega)
  have a6:=h6 (by omega)
  have a7:=h7 (by omega) (by omega)
  have a9:=hoth (by omega)
  rw [e8]
  simp [numF,loF,hiF,loT,hiT,setF,nameF,hle,s0,n0,hlen,hmn,hmx,hmode,a6.1,a6.2,a7,a9,h8.2.1,hk]
  all_goals try omega
 ·have e8:=h8.1
  have s0:=hset (by omega)
  have a6:=h6 (by omega)
  have a7:=h7 (by omega) (by omega)
  have a9:=hoth (by omega)
  rw [e8]
  simp [numF,loF,hiF,loT,hiT,setF,nameF,hle,s0,hlen,hmn,hmx,hmode,a6.1,a6.2,a7,a9,hk,h8.2.2.2]
  omega
 ·have e8:=h8.1
  have s0:=hset (by omega)
  have n0:=hname (by omega) (by omega)
  have a9:=hoth (by omega)
  rw [e8]
  simp [numF,loF,hiF,loT,hiT,setF,nameF,hle,s0,n0,hlen,hmn,hmx,hmode,a9,h8.2.1,hk,h8.2.2.2.2.2.2.2.2.2]
  all_goals try omega
 ·have e8:=h8.1
  have s0:=hset (by omega)
  have n0:=hname (by omega) (by omega)
  have a6:=h6 (by omega)
  have a7:=h7 (by omega) (by omega)
  have a9:=hoth (by omega)
  rw [e8]
  simp [numF,loF,hiF,loT,hiT,setF,nameF,hle,s0,n0,hlen,hmn,hmx,hmode,a6.1,a6.2,a7,a9,h8.2.1,hk,h8.2.2]
  all_goals try omega
 ·have e8:=h8.1
  have s0:=hset (by omega)
  have n0:=hname (by omega) (by omega)
  have a6:=h6 (by omega)
  have a7:=h7 (by omega) (by omega)
  have a9:=hoth (by omega)
  rw [e8]
  simp [numF,loF,hiF,loT,hiT,setF,nameF,hle,s0,n0,hlen,hmn,hmx,hmode,a6.1,a6.2,a7,a9,hk,h8.2.2.2]
  all_goals try omega
theorem all_B {names:List (List UInt8)} (hn:names.length≤100):∀ (F:F) (i:Nat),okF F→(layF names F i).all nodeB=true
 | .nil,_,_=>rfl
 | .cons nd ks r,i,h=>by
  show (_ :: (layF names ks (i+1)++layF names r (i+1+ks.size))).all nodeB=true
  rw [List.all_cons,List.all_append,all_B hn ks _ h.2.2.1,all_B hn r _ h.2.2.2,node_B hn h.1 _ (idx_len ks _)]
  rfl
theorem parse_right {bs:List UInt8} {t:Tr} (h:parseP bs=.ok t):rightT t=true∧∃ nd l,t.nodes=nd :: l∧nd.to_≤bs.length:=by
 unfold parseP at h
 split at h
 ·cases h
 ·rename_i hb
  split at h
  ·cases h
  ·rename_i x st hp
   split at h
   ·cases h
   ·rename_i hlen
    injection h with h
    subst h
    have hb':bs.length≤4096:=by omega
    have hfw:=parN_fwd bs 100 _ _ _ (Nat.zero_le _) hp
    obtain ⟨hg,hf⟩:=parN_good hb' 100 _ _ _ (Nat.zero_le _) (by show 1≤1∧1≤100;omega) hp
    have hnm:nmsF (.one x) [[]]=some st.names:=hg.nms
    have hat:AtL (layF st.names (.one x) 0) 0 (layF st.names (.one x) 0):=fun j y hy=>by rw [Nat.zero_add];exact hy
    have hle:=layF_len st.names (.one x) 0
    have hsz:(F.one x).size=1+x.kids.size:=rfl
    refine ⟨?_,_,_,rfl,?_⟩
    ·unfold rightT
     show (decide (0<(layF st.names (.one x) 0).length)&&((layF st.names (.one x) 0).all nodeB&&(ordB (layF st.names (.one x) 0)&&namedB _)))=true
     rw [decide_eq_true (by rw [hle,hsz];omega),all_B hf.2 _ _ hg.ok]
     have h1:ordB (layF st.names (.one x) 0)=true:=by
      unfold ordB
      rw [Bool.and_eq_true,List.all_eq_true,decide_eq_true_eq]
      refine ⟨fun j hj=>ok_F (.one x) 0 hat (by rw [hle];omega) hg.ok j (Nat.zero_le _) (by rw [List.mem_range,hle] at hj;omega),?_⟩
      rw [E_at (nd:=x.nd) (ks:=x.kids) (r:=.nil) hat (by rw [hle];exact Nat.le_of_eq (Nat.zero_add _)),hle,hsz]
      try (congr 1;omega)
     have h2:namedB ⟨layF st.names (.one x) 0,(st.names.length:Int)-1,st.names⟩=true:=by
      unfold namedB
      have e:=nms_lay st.names (.one x) 0 [] [[]]
      rw [List.append_nil,hnm] at e
      rw [show nmsOf (⟨layF st.names (.one x) 0,(st.names.length:Int)-1,st.names⟩:Tr).nodes [[]]=some st.names from e]
      simp
     rw [h1,h2]
     rfl
    ·have:=hg.hi
     show (fixN st.names x.nd).to_≤_
     rw [(fix_from x.nd).2.1]
     omega
end Go.Proofs.YtmlbklcmblofkaaGreatDoor.Pa
