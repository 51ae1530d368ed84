/-
  The reference's high (clewref09), walked: the greatest width of a node of a tree of which Right tells that it 
-/
import Derived.Test.YtmlbklcmblofkaaGreatDoorMRtC
set_option linter.unusedSimpArgs false
set_option linter.unusedVariables false
set_option maxHeartbeats 8000000
set_option maxRecDepth 100000
namespace Go.Proofs.YtmlbklcmblofkaaGreatDoor.Rt
section
open As We
variable {l:List Wd} {k:Int} {w:Wd}
def hiStep (kind w v:Int):Int:=if 1048576<(if w<0∨v<0 then -1 else if kind=5 then w+v else if w<v then v else w) then -1 else (if w<0∨v<0 then -1 else if kind=5 then w+v else if w<v then v else w)
def hiFold (kind:Int):List Int→Int
 | []=>0
 | x :: r=>r.foldl (hiStep kind) x
def hiOf (nd:Nd) (l:List Int):Int:=
 if nd.kind=4 then -1 else if nd.kind=2 then 1 else if nd.kind<5∨nd.kind=10 then 0
 else if nd.kind=8∧hiFold nd.kind l≠0 then (if hiFold nd.kind l<0∨nd.mx<0∨1048576<hiFold nd.kind l*nd.mx then -1 else hiFold nd.kind l*nd.mx) else hiFold nd.kind l
theorem unb_lt (h:OkW w):(unb w=true)↔w.2<0:=by
 have:=h.hi
 unfold unb
 rw [beq_iff_eq]
 omega
theorem step_sum {s:Wd} (hs:OkW s) (hw:OkW w):hiStep 5 s.2 w.2=(addW s w).2:=by
 unfold addW capW hiStep
 have h1:=unb_lt hs;have h2:=unb_lt hw
 by_cases h:s.2<0∨w.2<0
 ·have e:(unb s||unb w)=true:=by rw [Bool.or_eq_true,h1,h2];exact h
  simp [e,h]
 ·have e:(unb s||unb w)=false:=by rw [Bool.or_eq_false_iff,Bool.eq_false_iff,Bool.eq_false_iff,ne_eq,ne_eq,h1,h2];omega
  simp [e,h]
theorem step_or {s:Wd} (hs:OkW s) (hw:OkW w):hiStep 6 s.2 w.2=(orW s w).2:=by
 unfold orW hiStep
 have h1:=unb_lt hs;have h2:=unb_lt hw
 have c1:=hs.cap;have c2:=hw.cap
 by_cases h:s.2<0∨w.2<0
 ·have e:(unb s||unb w)=true:=by rw [Bool.or_eq_true,h1,h2];exact h
  simp [e,h]
 ·have e:(unb s||unb w)=false:=by rw [Bool.or_eq_false_iff,Bool.eq_false_iff,Bool.eq_false_iff,ne_eq,ne_eq,h1,h2];omega
  simp only [e,h,if_false,Bool.false_eq_true]
  rw [if_neg (show ¬ ((6:Int)=5) by decide)]
  split<;>split<;>omega
theorem fold_sum:∀ (l:List Wd) (s:Wd),OkW s→(∀ w∈l,OkW w)→(l.map (·.2)).foldl (hiStep 5) s.2=(l.foldl addW s).2
 | [],s,_,_=>rfl
 | w :: r,s,hs,h=>by
  simp only [List.map_cons,List.foldl_cons]
  rw [step_sum hs (h w (by simp))]
  exact fold_sum r _ (ok_add hs (h w (by simp))) fun v hv=>h v (by simp [hv])
theorem fold_or:∀ (l:List Wd) (s:Wd),OkW s→(∀ w∈l,OkW w)→(l.map (·.2)).foldl (hiStep 6) s.2=(l.foldl orW s).2
 | [],s,_,_=>rfl
 | w :: r,s,hs,h=>by
  simp only [List.map_cons,List.foldl_cons]
  rw [step_or hs (h w (by simp))]
  exact fold_or r _ (ok_or hs (h w (by simp))) fun v hv=>h v (by simp [hv])
theorem add_zero2 {x:Wd} (hx:OkW x):(addW (0,0) x)=x:=by
 have a:=hx.lo;have b:=hx.top;have c:=hx.cap;have d:=hx.hi
 have h1:=unb_lt hx
 unfold addW capW
 by_cases h:x.2<0
 ·have e:(unb (0,0)||unb x)=true:=by rw [Bool.or_eq_true,h1];exact .inr h
  rw [if_pos e]
  refine Prod.ext ?_ ?_
  ·simp only [];omega
  ·simp only [];rw [if_neg (by decide)];omega
 ·have e:(unb (0,0)||unb x)=false:=by rw [Bool.or_eq_false_iff];exact ⟨rfl,by rw [Bool.eq_false_iff,ne_eq,h1];exact h⟩
  rw [if_neg (by rw [e];simp)]
  refine Prod.ext ?_ ?_
  ·simp only [];omega
  ·simp only [];rw [if_neg (by omega)];omega
theorem hi_sum (h:∀ w∈l,OkW w):hiFold 5 (l.map (·.2))=(sumW l).2:=by
 cases l with
 | nil=>rfl
 | cons x r=>
  have hx:=h x (by simp)
  unfold sumW
  rw [List.foldl_cons,add_zero2 hx]
  exact fold_sum r x hx fun v hv=>h v (by simp [hv])
theorem hi_eith (h:∀ w∈l,OkW w):hiFold 6 (l.map (·.2))=(eithW l).2:=by
 cases l with
 | nil=>rfl
 | cons x r=>exact fold_or r x (h x (by simp)) fun v hv=>h v (by simp [hv])
structure KindOk (nd:Nd) (n:Nat):Prop where
 kind:1≤nd.kind∧nd.kind≤10
 one:7≤nd.kind→n=1
 rep:nd.kind=8→0≤nd.mn∧nd.mn≤1000∧(nd.mx=-1∨(nd.mn≤nd.mx∧1≤nd.mx∧nd.mx≤1000))
theorem hi_of {nd:Nd} (hk:KindOk nd l.length) (h:∀ w∈l,OkW w):hiOf nd (l.map (·.2))=(ofW nd l).2:=by
 obtain ⟨k1,k2⟩:=hk.kind
 unfold hiOf ofW
 by_cases h4:nd.kind=4
 ·rw [if_pos h4,if_neg (by omega),if_pos h4]
 rw [if_neg h4]
 by_cases h2:nd.kind=2
 ·rw [if_pos h2,if_pos h2]
 rw [if_neg h2,if_neg h2,if_neg h4]
 by_cases h5:nd.kind<5∨nd.kind=10
 ·rw [if_pos h5,if_neg (by omega),if_neg (by omega),if_neg (by omega)]
 rw [if_neg h5]
 by_cases h6:nd.kind=6
 ·rw [if_neg (by omega),if_pos h6,h6]
  exact hi_eith h
 rw [if_neg h6]
 by_cases h55:nd.kind=5
 ·rw [if_neg (by omega),if_pos (.inr (.inr h55)),h55]
  exact hi_sum h
 have h1:=hk.one (by omega)
 obtain ⟨x,rfl⟩:=List.length_eq_one_iff.1 h1
 have hx:=h x (by simp)
 have e:hiFold nd.kind ([x].map (·.2))=x.2:=rfl
 rw [e,show sumW [x]=x from add_zero2 hx]
 by_cases h8:nd.kind=8
 ·rw [if_neg (show ¬ (nd.kind=7∨nd.kind=9∨nd.kind=5) by omega),if_pos h8]
  obtain ⟨r1,r2,r3⟩:=hk.rep h8
  have hu:=unb_lt hx
  have hi:=hx.hi
  unfold timesW capW
  simp only []
  by_cases hz:x.2=0
  ·rw [if_neg (by omega),if_pos hz,if_neg (by decide)];exact hz
  ·rw [if_pos ⟨h8,hz⟩,if_neg hz]
   by_cases hn:x.2<0∨nd.mx<0
   ·have e2:(unb x||nd.mx==-1)=true:=by
     rw [Bool.or_eq_true,hu,beq_iff_eq];omega
    rw [if_pos (by omega),if_pos e2,if_neg (by decide)]
   ·have e2:(unb x||nd.mx==-1)=false:=by
     rw [Bool.or_eq_false_iff,Bool.eq_false_iff,ne_eq,hu,beq_eq_false_iff_ne];omega
    simp only [e2,Bool.false_eq_true,if_false,Int.mul_comm nd.mx x.2]
    generalize x.2*nd.mx=p
    split<;>split<;>omega
 ·rw [if_neg (by omega),if_pos (by omega)]
def loStep (kind w v:Int):Int:=if kind=5 then w+v else if kind=6∧v<w then v else w
def loFold (kind:Int):List Int→Int
 | []=>0
 | x :: r=>r.foldl (loStep kind) x
def loRaw (nd:Nd) (l:List Int):Int:=
 if nd.kind=2 then 1 else if 5≤nd.kind∧nd.kind≤9 then (if nd.kind=8 then loFold nd.kind l*nd.mn else loFold nd.kind l) else 0
theorem lo_fold5:∀ (l:List Wd) (s:Wd) (z:Int),OkW s→(∀ w∈l,OkW w)→min z 1048576=s.1→0≤z→min ((l.map (·.1)).foldl (loStep 5) z) 1048576=(l.foldl addW s).1∧0≤(l.map (·.1)).foldl (loStep 5) z∧(l.map (·.1)).foldl (loStep 5) z≤z+l.length*1048576
 | [],s,z,_,_,h,h0=>⟨h,h0,by simp⟩
 | w :: r,s,z,hs,hr,h,h0=>by
  have hw:=hr w (by simp)
  have a:=hw.lo;have b:=hw.top
  simp only [List.map_cons,List.foldl_cons]
  have e:loStep 5 z w.1=z+w.1:=by unfold loStep;rw [if_pos rfl]
  rw [e]
  have hz:min (z+w.1) 1048576=(addW s w).1:=by
   unfold addW capW
   simp only []
   omega
  obtain ⟨h1,h2,h3⟩:=lo_fold5 r (addW s w) (z+w.1) (ok_add hs hw) (fun v hv=>hr v (by simp [hv])) hz (by omega)
  refine ⟨h1,h2,?_⟩
  rw [List.length_cons]
  push_cast
  omega
theorem lo_fold6:∀ (l:List Wd) (s:Wd),OkW s→(∀ w∈l,OkW w)→(l.map (·.1)).foldl (loStep 6) s.1=(l.foldl orW s).1
 | [],s,_,_=>rfl
 | w :: r,s,hs,h=>by
  have hw:=h w (by simp)
  simp only [List.map_cons,List.foldl_cons]
  have e:loStep 6 s.1 w.1=(orW s w).1:=by
   unfold loStep orW
   rw [if_neg (by decide)]
   simp only [true_and]
   split<;>omega
  rw [e]
  exact lo_fold6 r _ (ok_or hs hw) fun v hv=>h v (by simp [hv])
theorem lo_of {nd:Nd} (hk:KindOk nd l.length) (h:∀ w∈l,OkW w) (hc:5≤nd.kind→0<l.length):min (loRaw nd (l.map (·.1))) 1048576=(ofW nd l).1:=by
 obtain ⟨k1,k2⟩:=hk.kind
 unfold loRaw ofW
 by_cases h2:nd.kind=2
 ·rw [if_pos h2,if_pos h2];rfl
 rw [if_neg h2,if_neg h2]
 by_cases h4:nd.kind=4
 ·rw [if_neg (by omega),if_pos h4];rfl
 rw [if_neg h4]
 by_cases h59:5≤nd.kind∧nd.kind≤9
 ·rw [if_pos h59]
  cases l with
  | nil=>exact absurd (hc h59.1) (by simp)
  | cons x r=>
   have hx:=h x (by simp)
   have hr:=fun v (hv:v∈r)=>h v (by simp [hv])
   have a:=hx.lo;have b:=hx.top
   by_cases h6:nd.kind=6
   ·rw [if_neg (by omega),if_pos h6,h6]
    have e:=lo_fold6 r x hx hr
    have ho:=(ok_eith (l:=x :: r) h).top
    show min ((r.map (·.1)).foldl (loStep 6) x.1) 1048576=(r.foldl orW x).1
    have ho':(r.foldl orW x).1≤1048576:=ho
    rw [e]
    omega
   rw [if_neg h6]
   by_cases h5:nd.kind=5
   ·rw [if_neg (by omega),if_pos (.inr (.inr h5)),h5]
    unfold sumW
    rw [List.foldl_cons,add_zero2 hx]
    exact (lo_fold5 r x x.1 hx hr (by omega) a).1
   have h1:=hk.one (by omega)
   have hr0:r=[]:=by simpa using h1
   subst hr0
   rw [show sumW [x]=x from add_zero2 hx]
   have e:loFold nd.kind ([x].map (·.1))=x.1:=rfl
   rw [e]
   by_cases h8:nd.kind=8
   ·rw [if_pos h8,if_neg (by omega),if_pos h8,Int.mul_comm]
    rfl
   ·rw [if_neg h8,if_pos (by omega)]
    omega
 ·rw [if_neg h59,if_neg (by omega),if_neg (by omega),if_neg (by omega)]
  rfl
theorem kidsW_at {W:List Wd}:∀ {kids:List Int},(∀ y∈kids,∃ m:Nat,y=(m:Int)∧m<W.length)→(kidsW kids W).length=kids.length∧∀ (j m:Nat),kids[j]?=some (m:Int)→(kidsW kids W)[j]?=W[m]?
 | [],_=>⟨rfl,fun j m h=>by simp at h⟩
 | y :: r,h=>by
  obtain ⟨m0,rfl,hm0⟩:=h y (by simp)
  obtain ⟨h1,h2⟩:=kidsW_at (kids:=r) fun z hz=>h z (by simp [hz])
  have e:kidsW ((m0:Int) :: r) W=W[m0] :: kidsW r W:=by
   unfold kidsW
   rw [List.filterMap_cons]
   simp [List.getElem?_eq_getElem hm0]
  rw [e]
  refine ⟨by simp [h1],fun j m hj=>?_⟩
  cases j with
  | zero=>
   simp only [List.getElem?_cons_zero,Option.some.injEq] at hj ⊢
   have:m0=m:=by omega
   subst this
   rw [List.getElem?_eq_getElem hm0]
  | succ j=>simpa using h2 j m (by simpa using hj)
theorem lo_snoc {l:List Int} {j:Nat} {v:Int} (h0:0<j) (hj:l[j]?=some v):loFold k (l.take (j+1))=loStep k (loFold k (l.take j)) v:=by
 obtain ⟨hlt,e⟩:=List.getElem?_eq_some_iff.1 hj
 rw [List.take_succ_eq_append_getElem hlt,e]
 cases l with
 | nil=>simp at hlt
 | cons x r=>
  obtain ⟨j,rfl⟩:∃ i,j=i+1:=⟨j-1,by omega⟩
  rw [List.take_succ_cons]
  show (r.take j++[v]).foldl (loStep k) x=_
  rw [List.foldl_append]
  rfl
theorem hi_snoc {l:List Int} {j:Nat} {v:Int} (h0:0<j) (hj:l[j]?=some v):hiFold k (l.take (j+1))=hiStep k (hiFold k (l.take j)) v:=by
 obtain ⟨hlt,e⟩:=List.getElem?_eq_some_iff.1 hj
 rw [List.take_succ_eq_append_getElem hlt,e]
 cases l with
 | nil=>simp at hlt
 | cons x r=>
  obtain ⟨j,rfl⟩:∃ i,j=i+1:=⟨j-1,by omega⟩
  rw [List.take_succ_cons]
  show (r.take j++[v]).foldl (hiStep k) x=_
  rw [List.foldl_append]
  rfl
theorem lo_bound {k:Int}:∀ (l:List Int),(∀ v∈l,0≤v∧v≤1048576)→∀ x,0≤x→0≤l.foldl (loStep k) x∧l.foldl (loStep k) x≤x+l.length*1048576
 | [],_,x,h=>⟨h,by simp⟩
 | v :: r,h,x,hx=>by
  obtain ⟨a,b⟩:=h v (by simp)
  have e:0≤loStep k x v∧loStep k x v≤x+1048576:=by unfold loStep;split<;>(try split)<;>omega
  obtain ⟨h1,h2⟩:=lo_bound (k:=k) r (fun u hu=>h u (by simp [hu])) (loStep k x v) e.1
  rw [List.foldl_cons,List.length_cons]
  push_cast
  omega
theorem lo_bound2 {l:List Int} (h:∀ v∈l,0≤v∧v≤1048576) (hl:l.length≤5000):0≤loFold k l∧loFold k l≤5300000000:=by
 cases l with
 | nil=>exact ⟨Int.le_refl _,show (0:Int)≤_ by omega⟩
 | cons x r=>
  obtain ⟨a,b⟩:=h x (by simp)
  have:=lo_bound (k:=k) r (fun v hv=>h v (by simp [hv])) x a
  simp only [List.length_cons] at hl
  show 0≤r.foldl (loStep k) x∧r.foldl (loStep k) x≤_
  omega
theorem hi_bound {k:Int}:∀ (l:List Int),(∀ v∈l,-1≤v∧v≤1048576)→∀ x,-1≤x∧x≤1048576→-1≤l.foldl (hiStep k) x∧l.foldl (hiStep k) x≤1048576
 | [],_,x,h=>h
 | v :: r,h,x,hx=>by
  obtain ⟨a,b⟩:=h v (by simp)
  have e:-1≤hiStep k x v∧hiStep k x v≤1048576:=by
   unfold hiStep
   by_cases h1:x<0∨v<0
   ·simp [h1]
   ·simp only [h1,if_false]
    split<;>split<;>(try split)<;>omega
  exact hi_bound (k:=k) r (fun u hu=>h u (by simp [hu])) (hiStep k x v) e
theorem hi_bound2 {l:List Int} (h:∀ v∈l,-1≤v∧v≤1048576):-1≤hiFold k l∧hiFold k l≤1048576:=by
 cases l with
 | nil=>exact ⟨show (-1:Int)≤0 by omega,show (0:Int)≤_ by omega⟩
 | cons x r=>exact hi_bound r (fun v hv=>h v (by simp [hv])) x (h x (by simp))
end
section
open Go.RowKit Mem Rs As We
attribute [local go_sem] run_not_true run_not_false
theorem kind_ok {nd:Nd} {n:Nat} (h:AloneOk nd) (hn:n=nd.kids.length):KindOk nd n:=⟨h.kind,fun h7=>by have:=h.one h7;omega,fun h8=>by obtain ⟨-,a,b,c⟩:=h.rep h8;exact ⟨a,b,c⟩⟩
theorem rt_nds {t:Tr} (h:RtOk t) (hl:t.nodes.length≤1000):NdsOk t.nodes:=⟨by omega,fun nd hnd h8=>by obtain ⟨-,a,b,c⟩:=(h.alone nd hnd).rep h8;omega,fun nd hnd=>by
 have a:=h.alone nd hnd
 obtain ⟨k1,k2⟩:=a.kind
 by_cases h4:nd.kind≤4
 ·have:=a.leaf h4;omega
 by_cases h5:nd.kind=5
 ·have:=a.cat h5;omega
 by_cases h6:nd.kind=6
 ·have:=a.alt h6;omega
 have:=a.one (by omega);omega⟩
theorem node_w {t:Tr} (h:RtOk t) (hl:t.nodes.length≤1000) {i:Nat} {nd:Nd} {x:Wd} (hn:t.nodes[i]?=some nd) (hx:(widthsW t.nodes)[i]?=some x):∃ ks:List Wd,x=ofW nd ks∧ks.length=nd.kids.length∧(∀ w∈ks,OkW w)∧∀ (j:Nat) (y:Int),nd.kids[j]?=some y→∃ m:Nat,y=(m:Int)∧i<m∧m<t.nodes.length∧∃ v:Wd,ks[j]?=some v∧(widthsW t.nodes)[m]?=some v:=by
 have hk:∀ j nd,t.nodes[j]?=some nd→∀ y∈nd.kids,∃ k:Nat,y=(k:Int)∧j<k:=fun j nd hn y hy=>by
  obtain ⟨k,e,h1,-⟩:=h.laid.kid hn hy
  exact ⟨k,e,h1⟩
 have hw:=widths_at hk hn
 rw [hx,Option.some.injEq] at hw
 have hall:∀ y∈nd.kids,∃ m:Nat,y=(m:Int)∧m<(widthsW t.nodes).length:=fun y hy=>by
  obtain ⟨k,e,h1,h2,-⟩:=h.laid.kid hn hy
  exact ⟨k,e,by rw [widths_len];exact h2⟩
 obtain ⟨h1,h2⟩:=kidsW_at hall
 refine ⟨_,hw,h1,kids_in (widths_ok t.nodes (rt_nds h hl).rep),fun j y hj=>?_⟩
 obtain ⟨m,rfl,h3,h4,-⟩:=h.laid.kid hn (List.mem_of_getElem? hj)
 have hm:m<(widthsW t.nodes).length:=by rw [widths_len];exact h4
 exact ⟨m,rfl,h3,h4,(widthsW t.nodes)[m],by rw [h2 j m hj,List.getElem?_eq_getElem hm],List.getElem?_eq_getElem hm⟩
def LoRel (nd:Nd) (ls:List Int) (X:World) (z i:Value) (wr:World):Prop:=∃ (j:Nat) (u:Int),i=.int .i64 (j:Int)∧z=.int .i64 u∧u=loFold nd.kind (ls.take j)∧0<j∧j≤ls.length∧Below X.heap.size X wr
def LoNo (u:Int) (X:World) (z i:Value) (wr:World):Prop:=i=.int .i64 1∧z=.int .i64 u∧Below X.heap.size X wr
theorem low_any (t:Tr) (v:Value) (B:Nat) (hlen:t.nodes.length≤1000) (hok:RtOk t):∀ (f i:Nat) (x:Wd) (w:World),t.nodes.length≤f+i→(widthsW t.nodes)[i]?=some x→B≤w.heap.size→TreeV w B t v →
  Calls Tryz.prog 19 #[v,.int .i64 (i:Int)] w fun e w'=>e=.returned (.int .i64 x.1)∧Below w.heap.size w w':=by
 intro f
 induction f with
 | zero=>
  intro i x w hf hx hB hT
  have:=(List.getElem?_eq_some_iff.1 hx).1
  rw [widths_len] at this
  omega
 | succ f ih=>
  intro i x w hf hx hB hT
  have hil:i<t.nodes.length:=by have:=(List.getElem?_eq_some_iff.1 hx).1;rwa [widths_len] at this
  obtain ⟨nd,hnd⟩:∃ nd,t.nodes[i]?=some nd:=⟨_,List.getElem?_eq_getElem hil⟩
  obtain ⟨ks,hxe,hkl,hko,hkm⟩:=node_w hok hlen hnd hx
  have hal:=hok.alone nd (List.mem_of_getElem? hnd)
  have hfin:=lo_of (kind_ok hal hkl) hko (fun h5=>by
   obtain ⟨k1,k2⟩:=hal.kind
   by_cases h5':nd.kind=5
   ·have:=hal.cat h5';omega
   by_cases h6':nd.kind=6
   ·have:=hal.alt h6';omega
   have:=hal.one (by omega);omega)
  rw [← hxe] at hfin
  have HT0:=hide hT
  obtain ⟨b,off,cap,An,cn,sv,kv,rfl,hbB,hc1,hc2,hL,hKV⟩:=tree_lies hT (by omega)
  obtain ⟨d0,d1,d2,d3,d4,d5,d6,d7,d8,d9⟩:=hL i nd hnd
  have hkv:=hKV i nd hnd
  generalize kv i=kx at *
  generalize sv i=sx at *
  obtain ⟨ka,kn,kc⟩:=kx
  obtain ⟨sa,sn,sc⟩:=sx
  obtain ⟨A9,cap9,e9,k1,k2,k3⟩:=hkv
  simp only [Value.slice.injEq] at e9
  obtain ⟨rfl,rfl,rfl⟩:=e9
  have hbT:Below w.heap.size w (w.alloc (.cells #[.slice (some ⟨b,off,none⟩) t.nodes.length cap,.int .i64 t.groups,.slice An t.names.length cn] 30)):=(Below.refl _ _).alloc (Nat.le_refl _) _
  have hbN:=hbT.alloc hbT.size (.cells (ndq nd (.slice sa sn sc) (.slice ka nd.kids.length kc)) 54)
  obtain ⟨t0,t1,t2⟩:=(cells3q (Blk.new w 30 #[.slice (some ⟨b,off,none⟩) t.nodes.length cap,.int .i64 t.groups,.slice An t.names.length cn])).1
  have HBT:=hide ((Blk.new w 30 #[.slice (some ⟨b,off,none⟩) t.nodes.length cap,.int .i64 t.groups,.slice An t.names.length cn]).alloc (.cells (ndq nd (.slice sa sn sc) (.slice ka nd.kids.length kc)) 54))
  have HBN:=hide (Blk.new (w.alloc (.cells #[.slice (some ⟨b,off,none⟩) t.nodes.length cap,.int .i64 t.groups,.slice An t.names.length cn] 30)) 54 (ndq nd (.slice sa sn sc) (.slice ka nd.kids.length kc)))
  have HBW:=hide hbN
  have HKM:=hide hkm
  have HKO:=hide hko
  have HKL:=hide hkl
  have HAL:=hide hal
  have HIH:=hide ih
  have HFIN:=hide hfin
  have HK3:=hide k3
  have hbw:b<w.heap.size:=Nat.lt_of_lt_of_le hbB hB
  have hli:(i:Int)<(t.nodes.length:Int):=by omega
  have hi0:(0:Int)≤(i:Int):=by omega
  have up:∀ o u,w.cell? ⟨b,o,none⟩=some u→(w.alloc (.cells #[.slice (some ⟨b,off,none⟩) t.nodes.length cap,.int .i64 t.groups,.slice An t.names.length cn] 30)).cell? ⟨b,o,none⟩=some u:=fun o u h=>(World.cell?_alloc_lt w _ ⟨b,o,none⟩ hbw).trans h
  have d0:=up _ _ d0
  have d1:=up _ _ d1
  have d2:=up _ _ d2
  have d3:=up _ _ d3
  have d4:=up _ _ d4
  have d5:=up _ _ d5
  have d6:=up _ _ d6
  have d7:=up _ _ d7
  have d8:=up _ _ d8
  have d9:=up _ _ d9
  have hsz:(w.alloc (.cells #[.slice (some ⟨b,off,none⟩) t.nodes.length cap,.int .i64 t.groups,.slice An t.names.length cn] 30)).heap.size=w.heap.size+1:=by simp
  rw [hsz] at HBN
  clear up hsz hx hnd hxe hkl hko hkm hfin hT hL hKV k3 ih hbT hbN
  have hkind:=hal.kind
  have hcase:(nd.kind=1∨nd.kind=2∨nd.kind=3∨nd.kind=4∨nd.kind=10)∨(nd.kind=5∨nd.kind=6∨nd.kind=7∨nd.kind=8∨nd.kind=9):=by omega
  clear hkind
  rcases hcase with h|h
  ·have hkl1:¬ (1:Int)<(nd.kids.length:Int):=by
    have a:=HAL.1
    rcases h with h|h|h|h|h
    ·have:=a.leaf (by omega);omega
    ·have:=a.leaf (by omega);omega
    ·have:=a.leaf (by omega);omega
    ·have:=a.leaf (by omega);omega
    ·have:=a.one (by omega);omega
   have hdl:decide ((1:Int)<(nd.kids.length:Int))=false:=decide_eq_false hkl1
   clear hal
   rcases h with hk|hk|hk|hk|hk
   all_goals
    have HK:=hide hk
    first|have q2:(nd.kind==2)=true:=by rw [hk];rfl|have q2:(nd.kind==2)=false:=by rw [hk];rfl
    first|have q5:(nd.kind==5)=true:=by rw [hk];rfl|have q5:(nd.kind==5)=false:=by rw [hk];rfl
    first|have q6:(nd.kind==6)=true:=by rw [hk];rfl|have q6:(nd.kind==6)=false:=by rw [hk];rfl
    first|have q8:(nd.kind==8)=true:=by rw [hk];rfl|have q8:(nd.kind==8)=false:=by rw [hk];rfl
    first|have tqa:decide (5≤nd.kind)=true:=by rw [hk];rfl|have tqa:decide (5≤nd.kind)=false:=by rw [hk];rfl
    first|have tqb:decide (nd.kind≤9)=true:=by rw [hk];rfl|have tqb:decide (nd.kind≤9)=false:=by rw [hk];rfl
    clear hk
    go_enter Tryz.func19,Tryz.ntmps19
    go_wp2_with fail
    generalize ((w.alloc (.cells #[.slice (some ⟨b,off,none⟩) t.nodes.length cap,.int .i64 t.groups,.slice An t.names.length cn] 30)).alloc (.cells (ndq nd (.slice sa sn sc) (.slice ka nd.kids.length kc)) 54))=X at *
    clear d0 d1 d2 d3 d4 d5 d6 d7 d8 d9 t0 t1 t2
    go_loopw [6,7] (fun z i wr=>∃ u,min u 1048576=x.1∧LoNo u X z i wr) (fun _ _ _=>0)
    case atStart=>exact ⟨_,(show min (loRaw nd (ks.map (·.1))) 1048576=x.1 from HFIN.1),rfl,by unfold loRaw;rw [HK.1];rfl,Below.refl _ _⟩
    case round=>
     obtain ⟨u,hu,rfl,rfl,hbr⟩:=hrel
     obtain ⟨x0,x1,x2,x3,x4,x5,x6,x7,x8,x9⟩:=cellsQ (HBN.1.below hbr HBN.1.lt)
     have HBR:=hide hbr
     have HU:=hide hu
     clear hbr hu
     go_wp2_with fail
     all_goals
      go_ret
      have h:=HU.1
      exact ⟨ret_i (by omega),HBW.1.trans (HBR.1.mono HBW.1.size)⟩
  ·have hpos:0<nd.kids.length:=by
    rcases h with h|h|h|h|h
    ·have:=hal.cat h;omega
    ·have:=hal.alt h;omega
    ·have:=hal.one (by omega);omega
    ·have:=hal.one (by omega);omega
    ·have:=hal.one (by omega);omega
   obtain ⟨qb,qo,rfl,hqb,hqc⟩:=kids_at2 HK3.1 hpos
   have hpi:(0:Int)<(nd.kids.length:Int):=by omega
   have HKD:=hide (fun (j:Nat) (hj:j<nd.kids.length)=>(show ∃ (m:Nat) (u:Wd),i<m∧(widthsW t.nodes)[m]?=some u∧ks[j]?=some u∧w.cell? ⟨qb,qo+j,none⟩=some (.int .i64 (m:Int)) from by
    obtain ⟨m,e,h1,h2,u,h3,h4⟩:=HKM.1 j _ (List.getElem?_eq_getElem hj)
    exact ⟨m,u,h1,h4,h3,by rw [hqc j _ (List.getElem?_eq_getElem hj),e]⟩))
   have HQB:=hide hqb
   have HLS:=hide (show ∀ v∈ks.map (·.1),0≤v∧v≤1048576 from fun v hv=>by
    obtain ⟨y,hy,rfl⟩:=List.mem_map.1 hv
    have:=HKO.1 y hy
    exact ⟨this.lo,this.top⟩)
   have hk5k:nd.kids.length≤5000:=by
    rcases h with h|h|h|h|h
    ·have:=hal.cat h;omega
    ·have:=hal.alt h;omega
    ·have:=hal.one (by omega);omega
    ·have:=hal.one (by omega);omega
    ·have:=hal.one (by omega);omega
   have HMN:=hide (show nd.kind=8→nd.kids.length=1∧0≤nd.mn∧nd.mn≤1000 from fun h8=>by obtain ⟨-,a,b,-⟩:=hal.rep h8;exact ⟨hal.one (by omega),a,b⟩)
   clear hal hqc hqb
   have HKIND:=hide h
   have q2:(nd.kind==2)=false:=by rw [beq_eq_false_iff_ne];omega
   have tqa:decide (5≤nd.kind)=true:=decide_eq_true (by omega)
   have tqb:decide (nd.kind≤9)=true:=decide_eq_true (by omega)
   clear h
   go_enter Tryz.func19,Tryz.ntmps19
   go_wp2_with fail
   generalize ((w.alloc (.cells #[.slice (some ⟨b,off,none⟩) t.nodes.length cap,.int .i64 t.groups,.slice An t.names.length cn] 30)).alloc (.cells (ndq nd (.slice sa sn sc) (.slice (some ⟨qb,qo,none⟩) nd.kids.length kc)) 54))=X at *
   clear d0 d1 d2 d3 d4 d5 d6 d7 d8 d9 t0 t1 t2
   obtain ⟨m0,u0,hm0,hu0,hks0,hc0⟩:=HKD.1 0 hpos
   have HKC:=hide (fun wx (hb:Below X.heap.size X wx)=>(((HBW.1.trans (hb.mono HBW.1.size))).cell (p:=⟨qb,qo+0,none⟩) (by show qb<_;have:=HQB.1;omega)).trans hc0)
   rw [Nat.add_zero] at HKC
   have CALL:=hide (fun wx (hb:Below X.heap.size X wx)=>HIH.1 m0 u0 wx (by omega) hu0 (Nat.le_trans hB (HBW.1.trans (hb.mono HBW.1.size)).size) (HT0.1.keep fun p hp=>(HBW.1.trans (hb.mono HBW.1.size)).cell (by omega)))
   have HKS0:=hide hks0
   clear hm0 hu0 hc0 hks0
   refine wp_region_noPanic ?_
   refine wp_region_held_drew (S:=fun wx=>Hd (Below X.heap.size X wx)) (by kernel_rfl) (show Hd (Below X.heap.size X _) from hide (Below.refl _ _).drew) (fun hS=>?_)
   refine tkH 0 (some 25) ?va0 rfl ?ya0 hS ?ra0
   case ya0=>(intro w hSw;(try dsimp only at hSw);have h0:=(HBT.1.below hSw.1 HBT.1.lt).cell 0;have h1:=(HBT.1.below hSw.1 HBT.1.lt).cell 1;have h2:=(HBT.1.below hSw.1 HBT.1.lt).cell 2;go_simp;try with_reducible rfl)
   try simp only [aP]
   refine tkH 1 (some 26) ?va1 rfl ?ya1 hS ?ra1
   case ya1=>(intro w hSw;(try dsimp only at hSw);go_simp;try with_reducible rfl)
   try simp only [aP]
   refine tkH 2 (some 27) ?va2 rfl ?ya2 hS ?ra2
   case ya2=>(intro w hSw;(try dsimp only at hSw);have h0:=(HBN.1.below hSw.1 HBN.1.lt).cell 0;have h1:=(HBN.1.below hSw.1 HBN.1.lt).cell 1;have h2:=(HBN.1.below hSw.1 HBN.1.lt).cell 2;have h3:=(HBN.1.below hSw.1 HBN.1.lt).cell 3;have h4:=(HBN.1.below hSw.1 HBN.1.lt).cell 4;have h5:=(HBN.1.below hSw.1 HBN.1.lt).cell 5;have h6:=(HBN.1.below hSw.1 HBN.1.lt).cell 6;have h7:=(HBN.1.below hSw.1 HBN.1.lt).cell 7;have h8:=(HBN.1.below hSw.1 HBN.1.lt).cell 8;have h9:=(HBN.1.below hSw.1 HBN.1.lt).cell 9;go_simp;try with_reducible rfl)
   try simp only [aP]
   refine tkH 3 (some 28) ?va3 rfl ?ya3 hS ?ra3
   case ya3=>(intro w hSw;(try dsimp only at hSw);go_simp;try with_reducible rfl)
   try simp only [aP]
   refine tkH 4 (some 29) ?va4 rfl ?ya4 hS ?ra4
   case ya4=>(intro w hSw;(try dsimp only at hSw);have h0:=HKC.1 _ hSw.1;go_simp;try with_reducible rfl)
   try simp only [aP]
   refine wpAnyH_ready (rs:=[5]) (by kernel_rfl) (by simp) ?_
   refine AllReadyH.cons (o:=⟨some 30,_,_,_,_,_⟩) rfl (fun K hK=>?_) AllReadyH.nil
   go_simp
   refine ((CALL.1 _ hS.1)).mono ?_
   rintro e w5 ⟨rfl,hb⟩
   have HS5:=hide (hS.1.trans (hb.mono hS.1.size))
   clear hb
   go_wp2_with fail
   refine hK.out _ _ HS5 (fun hS=>?_)
   clear hK K
   try simp only [aP]
   refine tkH 6 (some 6) ?va6 rfl ?ya6 hS ?ra6
   case ya6=>(intro w hSw;(try dsimp only at hSw);go_simp;try with_reducible rfl)
   try simp only [aP]
   refine wpAnyH_done (by kernel_rfl) ?_ _
   refine NoPanic.normal ?_
   have hl0:(ks.map (·.1))[0]?=some u0.1:=by rw [List.getElem?_map,HKS0.1];rfl
   have hll:(ks.map (·.1)).length=nd.kids.length:=by rw [List.length_map,HKL.1]
   have HR0:=hide (show LoRel nd (ks.map (·.1)) X (.int .i64 u0.1) (.int .i64 1) w5 from ⟨1,u0.1,by go_num,rfl,by
    cases hks:ks.map (·.1) with
    | nil=>rw [hks] at hl0;simp at hl0
    | cons y r=>rw [hks] at hl0;simp only [List.getElem?_cons_zero,Option.some.injEq] at hl0;subst hl0;rfl,by omega,by omega,HS5.1⟩)
   have HLL:=hide hll
   clear hl0 hll HS5 CALL HKC hS
   go_wp2_with fail
   go_loopw [6,7] (fun z i wr=>LoRel nd (ks.map (·.1)) X z i wr) (fun _ i _=>nd.kids.length-(intOf i).toNat)
   case atStart=>exact HR0.1
   case round=>
    obtain ⟨j,u,rfl,rfl,hu,hj0,hj,hbr⟩:=hrel
    rw [HLL.1] at hj
    have hub:=lo_bound2 (k:=nd.kind) (l:=(ks.map (·.1)).take j) (fun y hy=>HLS.1 y (List.mem_of_mem_take hy)) (by rw [List.length_take];omega)
    rw [← hu] at hub
    obtain ⟨hub0,hub1⟩:=hub
    have HU:=hide hu
    have HBR:=hide hbr
    have hbn:=HBN.1.below hbr HBN.1.lt
    have hbt:=HBT.1.below hbr HBT.1.lt
    have HBNR:=hide hbn
    have HBTR:=hide hbt
    obtain ⟨x0,x1,x2,x3,x4,x5,x6,x7,x8,x9⟩:=cellsQ hbn
    go_hideQ
    by_cases hlj:j<nd.kids.length
    ·obtain ⟨m1,u1,hm1,hu1,hks1,hc1⟩:=HKD.1 j hlj
     have hbrw:=HBW.1.trans (hbr.mono HBW.1.size)
     have HKC:=hide (fun wx (hb:Below wr.heap.size wr wx)=>((hbrw.trans (hb.mono hbrw.size)).cell (p:=⟨qb,qo+j,none⟩) (by show qb<_;have:=HQB.1;omega)).trans hc1)
     have CALL:=hide (fun wx (hb:Below wr.heap.size wr wx)=>HIH.1 m1 u1 wx (by omega) hu1 (Nat.le_trans hB (hbrw.trans (hb.mono hbrw.size)).size) (HT0.1.keep fun p hp=>(hbrw.trans (hb.mono hbrw.size)).cell (by omega)))
     have hji:(j:Int)<(nd.kids.length:Int):=by omega
     have hjp:(0:Int)≤(j:Int):=by omega
     have hv1:=HLS.1 u1.1 (List.mem_map.2 ⟨u1,List.mem_of_getElem? hks1,rfl⟩)
     have HST:=hide (lo_snoc (k:=nd.kind) hj0 (show (ks.map (·.1))[j]?=some u1.1 by rw [List.getElem?_map,hks1];rfl))
     have hk56:nd.kind=5∨nd.kind=6:=by
      have a:=HAL.1
      rcases HKIND.1 with h|h|h|h|h
      ·exact .inl h
      ·exact .inr h
      ·have:=a.one (by omega);omega
      ·have:=a.one (by omega);omega
      ·have:=a.one (by omega);omega
     have HK56:=hide hk56
     clear hm1 hu1 hc1 hks1 hbr hbn hbt hbrw hk56 hu
     go_wp2_with fail
     refine wp_region_noPanic ?_
     refine wp_region_held_drew (S:=fun wx=>Hd (Below wr.heap.size wr wx)) (by kernel_rfl) (show Hd (Below wr.heap.size wr _) from hide (Below.refl _ _).drew) (fun hS=>?_)
     refine tkH 0 (some 38) ?vb0 rfl ?yb0 hS ?rb0
     case yb0=>(intro w hSw;(try dsimp only at hSw);have h0:=(HBTR.1.below hSw.1 HBTR.1.lt).cell 0;have h1:=(HBTR.1.below hSw.1 HBTR.1.lt).cell 1;have h2:=(HBTR.1.below hSw.1 HBTR.1.lt).cell 2;go_simp;try with_reducible rfl)
     try simp only [aP]
     refine tkH 1 (some 39) ?vb1 rfl ?yb1 hS ?rb1
     case yb1=>(intro w hSw;(try dsimp only at hSw);go_simp;try with_reducible rfl)
     try simp only [aP]
     refine tkH 2 (some 40) ?vb2 rfl ?yb2 hS ?rb2
     case yb2=>(intro w hSw;(try dsimp only at hSw);have h0:=(HBNR.1.below hSw.1 HBNR.1.lt).cell 0;have h1:=(HBNR.1.below hSw.1 HBNR.1.lt).cell 1;have h2:=(HBNR.1.below hSw.1 HBNR.1.lt).cell 2;have h3:=(HBNR.1.below hSw.1 HBNR.1.lt).cell 3;have h4:=(HBNR.1.below hSw.1 HBNR.1.lt).cell 4;have h5:=(HBNR.1.below hSw.1 HBNR.1.lt).cell 5;have h6:=(HBNR.1.below hSw.1 HBNR.1.lt).cell 6;have h7:=(HBNR.1.below hSw.1 HBNR.1.lt).cell 7;have h8:=(HBNR.1.below hSw.1 HBNR.1.lt).cell 8;have h9:=(HBNR.1.below hSw.1 HBNR.1.lt).cell 9;go_simp;try with_reducible rfl)
     try simp only [aP]
     refine tkH 3 (some 41) ?vb3 rfl ?yb3 hS ?rb3
     case yb3=>(intro w hSw;(try dsimp only at hSw);go_simp;try with_reducible rfl)
     try simp only [aP]
     refine tkH 4 (some 42) ?vb4 rfl ?yb4 hS ?rb4
     case yb4=>(intro w hSw;(try dsimp only at hSw);go_simp;try with_reducible rfl)
     try simp only [aP]
     refine tkH 5 (some 43) ?vb5 rfl ?yb5 hS ?rb5
     case yb5=>(intro w hSw;(try dsimp only at hSw);have h0:=HKC.1 _ hSw.1;go_simp;try with_reducible rfl)
     try simp only [aP]
     refine wpAnyH_ready (rs:=[6]) (by kernel_rfl) (by simp) ?_
     refine AllReadyH.cons (o:=⟨some 44,_,_,_,_,_⟩) rfl (fun K hK=>?_) AllReadyH.nil
     go_simp
     refine ((CALL.1 _ hS.1)).mono ?_
     rintro e w5 ⟨rfl,hb⟩
     have HS5:=hide (hS.1.trans (hb.mono hS.1.size))
     clear hb
     go_wp2_with fail
     refine hK.out _ _ HS5 (fun hS=>?_)
     clear hK K
     try simp only [aP]
     refine tkH 7 (some 8) ?vb7 rfl ?yb7 hS ?rb7
     case yb7=>(intro w hSw;(try dsimp only at hSw);go_simp;try with_reducible rfl)
     try simp only [aP]
     refine wpAnyH_done (by kernel_rfl) ?_ _
     refine NoPanic.normal ?_
     have HB5:=hide (HBR.1.trans (HS5.1.mono HBR.1.size))
     obtain ⟨x0,x1,x2,x3,x4,x5,x6,x7,x8,x9⟩:=cellsQ (HBNR.1.below HS5.1 HBNR.1.lt)
     clear hS HS5 CALL HKC
     have fin:∀ z,loStep nd.kind u u1.1=z→LoRel nd (ks.map (·.1)) X (.int .i64 z) (.int .i64 ((j:Int)+1)) w5:=fun z hz=>⟨j+1,z,by go_num,rfl,by rw [HST.1,← HU.1];exact hz.symm,by omega,by rw [HLL.1];omega,HB5.1⟩
     have FIN:=hide fin
     clear fin
     rcases HK56.1 with hk|hk
     ·have q5:(nd.kind==5)=true:=beq_iff_eq.2 hk
      have q6:(nd.kind==6)=false:=by rw [beq_eq_false_iff_ne];omega
      have hR:=FIN.1 (u+u1.1) (by unfold loStep;rw [if_pos hk])
      have HR:=hide hR
      have hwa:IntKind.i64.wrap (u+u1.1)=u+u1.1:=wrap_id _ (by omega) (by omega)
      clear hk hR
      go_wp2_with fail
      have hR:=HR.1
      first|go_roundw|refine ⟨?rel,?measure⟩
      case rel=>exact hR
      case measure=>simp [intOf];omega
     ·have q5:(nd.kind==5)=false:=by rw [beq_eq_false_iff_ne];omega
      have q6:(nd.kind==6)=true:=beq_iff_eq.2 hk
      by_cases hlv:u1.1<u
      ·have q7:decide (u1.1<u)=true:=decide_eq_true hlv
       have hR:=FIN.1 u1.1 (by unfold loStep;rw [if_neg (by omega),if_pos ⟨hk,hlv⟩])
       have HR:=hide hR
       clear hk hR hlv
       go_wp2_with fail
       have hR:=HR.1
       first|go_roundw|refine ⟨?rel,?measure⟩
       case rel=>exact hR
       case measure=>simp [intOf];omega
      ·have q7:decide (u1.1<u)=false:=decide_eq_false hlv
       have hR:=FIN.1 u (by unfold loStep;rw [if_neg (by omega),if_neg (by omega)])
       have HR:=hide hR
       clear hk hR hlv
       go_wp2_with fail
       have hR:=HR.1
       first|go_roundw|refine ⟨?rel,?measure⟩
       case rel=>exact hR
       case measure=>simp [intOf];omega
    ·have hje:j=(ks.map (·.1)).length:=by rw [HLL.1];omega
     have huA:u=loFold nd.kind (ks.map (·.1)):=by rw [hu,hje,List.take_length]
     have hnl:¬ (j:Int)<(nd.kids.length:Int):=by omega
     have HBRW:=hide (HBW.1.trans (hbr.mono HBW.1.size))
     by_cases h8:nd.kind=8
     ·have q8:(nd.kind==8)=true:=beq_iff_eq.2 h8
      obtain ⟨e1,e2,e3⟩:=HMN.1 h8
      have hu1:u≤1048576:=by
       rw [huA]
       have hlen1:(ks.map (·.1)).length=1:=by rw [HLL.1];exact e1
       obtain ⟨y,hy⟩:=List.length_eq_one_iff.1 hlen1
       have:=HLS.1 y (by rw [hy];simp)
       rw [hy]
       exact this.2
      have hm0:0≤u*nd.mn:=Int.mul_nonneg hub0 e2
      have hm1:u*nd.mn≤1048576*1000:=Int.mul_le_mul hu1 e3 e2 (by omega)
      have hwm:IntKind.i64.wrap (u*nd.mn)=u*nd.mn:=wrap_id _ (by omega) (by omega)
      have HX:=hide (show min (u*nd.mn) 1048576=x.1 from by
       have:=HFIN.1
       unfold loRaw at this
       rw [if_neg (by omega),if_pos (by omega),if_pos h8,← huA] at this
       exact this)
      clear hbr hbn hbt h8 hu huA hje
      go_wp2_with fail
      all_goals
       go_ret
       have h:=HX.1
       exact ⟨ret_i (by omega),HBRW.1⟩
     ·have q8:(nd.kind==8)=false:=by rw [beq_eq_false_iff_ne];exact h8
      have HX:=hide (show min u 1048576=x.1 from by
       have:=HFIN.1
       unfold loRaw at this
       have hkk:=HKIND.1
       rw [if_neg (by omega),if_pos (by omega),if_neg h8,← huA] at this
       exact this)
      clear hbr hbn hbt h8 hu huA hje
      go_wp2_with fail
      all_goals
       go_ret
       have h:=HX.1
       exact ⟨ret_i (by omega),HBRW.1⟩
end
section
open Go.RowKit Mem Rs As We
attribute [local go_sem] run_not_true run_not_false
def HiRel (nd:Nd) (ls:List Int) (X:World) (z i:Value) (wr:World):Prop:=∃ (j:Nat) (u:Int),i=.int .i64 (j:Int)∧z=.int .i64 u∧u=hiFold nd.kind (ls.take j)∧0<j∧j≤ls.length∧Below X.heap.size X wr
theorem high_any (t:Tr) (v:Value) (B:Nat) (hlen:t.nodes.length≤1000) (hok:RtOk t):∀ (f i:Nat) (x:Wd) (w:World),t.nodes.length≤f+i→(widthsW t.nodes)[i]?=some x→B≤w.heap.size→TreeV w B t v →
  Calls Tryz.prog 20 #[v,.int .i64 (i:Int)] w fun e w'=>e=.returned (.int .i64 x.2)∧Below w.heap.size w w':=by
 intro f
 induction f with
 | zero=>
  intro i x w hf hx hB hT
  have:=(List.getElem?_eq_some_iff.1 hx).1
  rw [widths_len] at this
  omega
 | succ f ih=>
  intro i x w hf hx hB hT
  have hil:i<t.nodes.length:=by have:=(List.getElem?_eq_some_iff.1 hx).1;rwa [widths_len] at this
  obtain ⟨nd,hnd⟩:∃ nd,t.nodes[i]?=some nd:=⟨_,List.getElem?_eq_getElem hil⟩
  obtain ⟨ks,hxe,hkl,hko,hkm⟩:=node_w hok hlen hnd hx
  have hal:=hok.alone nd (List.mem_of_getElem? hnd)
  have hfin:=hi_of (kind_ok hal hkl) hko
  rw [← hxe] at hfin
  have HT0:=hide hT
  obtain ⟨b,off,cap,An,cn,sv,kv,rfl,hbB,hc1,hc2,hL,hKV⟩:=tree_lies hT (by omega)
  obtain ⟨d0,d1,d2,d3,d4,d5,d6,d7,d8,d9⟩:=hL i nd hnd
  have hkv:=hKV i nd hnd
  generalize kv i=kx at *
  generalize sv i=sx at *
  obtain ⟨ka,kn,kc⟩:=kx
  obtain ⟨sa,sn,sc⟩:=sx
  obtain ⟨A9,cap9,e9,k1,k2,k3⟩:=hkv
  simp only [Value.slice.injEq] at e9
  obtain ⟨rfl,rfl,rfl⟩:=e9
  have hbT:Below w.heap.size w (w.alloc (.cells #[.slice (some ⟨b,off,none⟩) t.nodes.length cap,.int .i64 t.groups,.slice An t.names.length cn] 30)):=(Below.refl _ _).alloc (Nat.le_refl _) _
  have hbN:=hbT.alloc hbT.size (.cells (ndq nd (.slice sa sn sc) (.slice ka nd.kids.length kc)) 54)
  obtain ⟨t0,t1,t2⟩:=(cells3q (Blk.new w 30 #[.slice (some ⟨b,off,none⟩) t.nodes.length cap,.int .i64 t.groups,.slice An t.names.length cn])).1
  have HBT:=hide ((Blk.new w 30 #[.slice (some ⟨b,off,none⟩) t.nodes.length cap,.int .i64 t.groups,.slice An t.names.length cn]).alloc (.cells (ndq nd (.slice sa sn sc) (.slice ka nd.kids.length kc)) 54))
  have HBN:=hide (Blk.new (w.alloc (.cells #[.slice (some ⟨b,off,none⟩) t.nodes.length cap,.int .i64 t.groups,.slice An t.names.length cn] 30)) 54 (ndq nd (.slice sa sn sc) (.slice ka nd.kids.length kc)))
  have HBW:=hide hbN
  have HKM:=hide hkm
  have HKO:=hide hko
  have HKL:=hide hkl
  have HAL:=hide hal
  have HIH:=hide ih
  have HFIN:=hide hfin
  have HK3:=hide k3
  have hbw:b<w.heap.size:=Nat.lt_of_lt_of_le hbB hB
  have hli:(i:Int)<(t.nodes.length:Int):=by omega
  have hi0:(0:Int)≤(i:Int):=by omega
  have up:∀ o u,w.cell? ⟨b,o,none⟩=some u→(w.alloc (.cells #[.slice (some ⟨b,off,none⟩) t.nodes.length cap,.int .i64 t.groups,.slice An t.names.length cn] 30)).cell? ⟨b,o,none⟩=some u:=fun o u h=>(World.cell?_alloc_lt w _ ⟨b,o,none⟩ hbw).trans h
  have d0:=up _ _ d0
  have d1:=up _ _ d1
  have d2:=up _ _ d2
  have d3:=up _ _ d3
  have d4:=up _ _ d4
  have d5:=up _ _ d5
  have d6:=up _ _ d6
  have d7:=up _ _ d7
  have d8:=up _ _ d8
  have d9:=up _ _ d9
  have hsz:(w.alloc (.cells #[.slice (some ⟨b,off,none⟩) t.nodes.length cap,.int .i64 t.groups,.slice An t.names.length cn] 30)).heap.size=w.heap.size+1:=by simp
  rw [hsz] at HBN
  clear up hsz hx hnd hxe hkl hko hkm hfin hT hL hKV k3 ih hbT hbN
  have hkind:=hal.kind
  have hcase:(nd.kind=1∨nd.kind=2∨nd.kind=3∨nd.kind=4∨nd.kind=10)∨(nd.kind=5∨nd.kind=6∨nd.kind=7∨nd.kind=8∨nd.kind=9):=by omega
  clear hkind
  rcases hcase with h|h
  ·clear hal
   rcases h with hk|hk|hk|hk|hk
   all_goals
    have HX:=hide (show hiOf nd (ks.map (·.2))=_ from by unfold hiOf;rw [hk])
    rw [HFIN.1] at HX
    first|have tq2:(nd.kind==2)=true:=by rw [hk];rfl|have tq2:(nd.kind==2)=false:=by rw [hk];rfl
    first|have tq4:(nd.kind==4)=true:=by rw [hk];rfl|have tq4:(nd.kind==4)=false:=by rw [hk];rfl
    first|have tqa:decide (nd.kind<5)=true:=by rw [hk];rfl|have tqa:decide (nd.kind<5)=false:=by rw [hk];rfl
    first|have tqb:(nd.kind==10)=true:=by rw [hk];rfl|have tqb:(nd.kind==10)=false:=by rw [hk];rfl
    clear hk
    go_enter Tryz.func20,Tryz.ntmps20
    go_wp2_with fail
    go_ret
    exact ⟨ret_i HX.1.symm,HBW.1⟩
  ·have hpos:0<nd.kids.length:=by
    rcases h with h|h|h|h|h
    ·have:=hal.cat h;omega
    ·have:=hal.alt h;omega
    ·have:=hal.one (by omega);omega
    ·have:=hal.one (by omega);omega
    ·have:=hal.one (by omega);omega
   obtain ⟨qb,qo,rfl,hqb,hqc⟩:=kids_at2 HK3.1 hpos
   have hpi:(0:Int)<(nd.kids.length:Int):=by omega
   have HKD:=hide (fun (j:Nat) (hj:j<nd.kids.length)=>(show ∃ (m:Nat) (u:Wd),i<m∧(widthsW t.nodes)[m]?=some u∧ks[j]?=some u∧w.cell? ⟨qb,qo+j,none⟩=some (.int .i64 (m:Int)) from by
    obtain ⟨m,e,h1,h2,u,h3,h4⟩:=HKM.1 j _ (List.getElem?_eq_getElem hj)
    exact ⟨m,u,h1,h4,h3,by rw [hqc j _ (List.getElem?_eq_getElem hj),e]⟩))
   have HQB:=hide hqb
   have HLS:=hide (show ∀ v∈ks.map (·.2),-1≤v∧v≤1048576 from fun v hv=>by
    obtain ⟨y,hy,rfl⟩:=List.mem_map.1 hv
    have:=HKO.1 y hy
    exact ⟨this.hi,this.cap⟩)
   have hk5k:nd.kids.length≤5000:=by
    rcases h with h|h|h|h|h
    ·have:=hal.cat h;omega
    ·have:=hal.alt h;omega
    ·have:=hal.one (by omega);omega
    ·have:=hal.one (by omega);omega
    ·have:=hal.one (by omega);omega
   have HMX:=hide (show nd.kind=8→-1≤nd.mx∧nd.mx≤1000 from fun h8=>by obtain ⟨-,a,b,c⟩:=hal.rep h8;omega)
   clear hal hqc hqb
   have HKIND:=hide h
   have q2:(nd.kind==2)=false:=by rw [beq_eq_false_iff_ne];omega
   have q4:(nd.kind==4)=false:=by rw [beq_eq_false_iff_ne];omega
   have tqa:decide (nd.kind<5)=false:=decide_eq_false (by omega)
   have tqb:(nd.kind==10)=false:=by rw [beq_eq_false_iff_ne];omega
   clear h
   go_enter Tryz.func20,Tryz.ntmps20
   go_wp2_with fail
   generalize ((w.alloc (.cells #[.slice (some ⟨b,off,none⟩) t.nodes.length cap,.int .i64 t.groups,.slice An t.names.length cn] 30)).alloc (.cells (ndq nd (.slice sa sn sc) (.slice (some ⟨qb,qo,none⟩) nd.kids.length kc)) 54))=X at *
   clear d0 d1 d2 d3 d4 d5 d6 d7 d8 d9 t0 t1 t2
   obtain ⟨m0,u0,hm0,hu0,hks0,hc0⟩:=HKD.1 0 hpos
   have HKC:=hide (fun wx (hb:Below X.heap.size X wx)=>(((HBW.1.trans (hb.mono HBW.1.size))).cell (p:=⟨qb,qo+0,none⟩) (by show qb<_;have:=HQB.1;omega)).trans hc0)
   rw [Nat.add_zero] at HKC
   have CALL:=hide (fun wx (hb:Below X.heap.size X wx)=>HIH.1 m0 u0 wx (by omega) hu0 (Nat.le_trans hB (HBW.1.trans (hb.mono HBW.1.size)).size) (HT0.1.keep fun p hp=>(HBW.1.trans (hb.mono HBW.1.size)).cell (by omega)))
   have HKS0:=hide hks0
   clear hm0 hu0 hc0 hks0
   refine wp_region_noPanic ?_
   refine wp_region_held_drew (S:=fun wx=>Hd (Below X.heap.size X wx)) (by kernel_rfl) (show Hd (Below X.heap.size X _) from hide (Below.refl _ _).drew) (fun hS=>?_)
   refine tkH 0 (some 28) ?va0 rfl ?ya0 hS ?ra0
   case ya0=>(intro w hSw;(try dsimp only at hSw);have h0:=(HBT.1.below hSw.1 HBT.1.lt).cell 0;have h1:=(HBT.1.below hSw.1 HBT.1.lt).cell 1;have h2:=(HBT.1.below hSw.1 HBT.1.lt).cell 2;go_simp;try with_reducible rfl)
   try simp only [aP]
   refine tkH 1 (some 29) ?va1 rfl ?ya1 hS ?ra1
   case ya1=>(intro w hSw;(try dsimp only at hSw);go_simp;try with_reducible rfl)
   try simp only [aP]
   refine tkH 2 (some 30) ?va2 rfl ?ya2 hS ?ra2
   case ya2=>(intro w hSw;(try dsimp only at hSw);have h0:=(HBN.1.below hSw.1 HBN.1.lt).cell 0;have h1:=(HBN.1.below hSw.1 HBN.1.lt).cell 1;have h2:=(HBN.1.below hSw.1 HBN.1.lt).cell 2;have h3:=(HBN.1.below hSw.1 HBN.1.lt).cell 3;have h4:=(HBN.1.below hSw.1 HBN.1.lt).cell 4;have h5:=(HBN.1.below hSw.1 HBN.1.lt).cell 5;have h6:=(HBN.1.below hSw.1 HBN.1.lt).cell 6;have h7:=(HBN.1.below hSw.1 HBN.1.lt).cell 7;have h8:=(HBN.1.below hSw.1 HBN.1.lt).cell 8;have h9:=(HBN.1.below hSw.1 HBN.1.lt).cell 9;go_simp;try with_reducible rfl)
   try simp only [aP]
   refine tkH 3 (some 31) ?va3 rfl ?ya3 hS ?ra3
   case ya3=>(intro w hSw;(try dsimp only at hSw);go_simp;try with_reducible rfl)
   try simp only [aP]
   refine tkH 4 (some 32) ?va4 rfl ?ya4 hS ?ra4
   case ya4=>(intro w hSw;(try dsimp only at hSw);have h0:=HKC.1 _ hSw.1;go_simp;try with_reducible rfl)
   try simp only [aP]
   refine wpAnyH_ready (rs:=[5]) (by kernel_rfl) (by simp) ?_
   refine AllReadyH.cons (o:=⟨some 33,_,_,_,_,_⟩) rfl (fun K hK=>?_) AllReadyH.nil
   go_simp
   refine ((CALL.1 _ hS.1)).mono ?_
   rintro e w5 ⟨rfl,hb⟩
   have HS5:=hide (hS.1.trans (hb.mono hS.1.size))
   clear hb
   go_wp2_with fail
   refine hK.out _ _ HS5 (fun hS=>?_)
   clear hK K
   try simp only [aP]
   refine tkH 6 (some 6) ?va6 rfl ?ya6 hS ?ra6
   case ya6=>(intro w hSw;(try dsimp only at hSw);go_simp;try with_reducible rfl)
   try simp only [aP]
   refine wpAnyH_done (by kernel_rfl) ?_ _
   refine NoPanic.normal ?_
   have hl0:(ks.map (·.2))[0]?=some u0.2:=by rw [List.getElem?_map,HKS0.1];rfl
   have hll:(ks.map (·.2)).length=nd.kids.length:=by rw [List.length_map,HKL.1]
   have HR0:=hide (show HiRel nd (ks.map (·.2)) X (.int .i64 u0.2) (.int .i64 1) w5 from ⟨1,u0.2,by go_num,rfl,by
    cases hks:ks.map (·.2) with
    | nil=>rw [hks] at hl0;simp at hl0
    | cons y r=>rw [hks] at hl0;simp only [List.getElem?_cons_zero,Option.some.injEq] at hl0;subst hl0;rfl,by omega,by omega,HS5.1⟩)
   have HLL:=hide hll
   clear hl0 hll HS5 CALL HKC hS
   go_wp2_with fail
   go_loopw [6,7] (fun z i wr=>HiRel nd (ks.map (·.2)) X z i wr) (fun _ i _=>nd.kids.length-(intOf i).toNat)
   case atStart=>exact HR0.1
   case round=>
    obtain ⟨j,u,rfl,rfl,hu,hj0,hj,hbr⟩:=hrel
    rw [HLL.1] at hj
    have hub:=hi_bound2 (k:=nd.kind) (l:=(ks.map (·.2)).take j) (fun y hy=>HLS.1 y (List.mem_of_mem_take hy))
    rw [← hu] at hub
    obtain ⟨hub0,hub1⟩:=hub
    have HU:=hide hu
    have HBR:=hide hbr
    have hbn:=HBN.1.below hbr HBN.1.lt
    have hbt:=HBT.1.below hbr HBT.1.lt
    have HBNR:=hide hbn
    have HBTR:=hide hbt
    obtain ⟨x0,x1,x2,x3,x4,x5,x6,x7,x8,x9⟩:=cellsQ hbn
    go_hideQ
    by_cases hlj:j<nd.kids.length
    ·obtain ⟨m1,u1,hm1,hu1,hks1,hc1⟩:=HKD.1 j hlj
     have hbrw:=HBW.1.trans (hbr.mono HBW.1.size)
     have HKC:=hide (fun wx (hb:Below wr.heap.size wr wx)=>((hbrw.trans (hb.mono hbrw.size)).cell (p:=⟨qb,qo+j,none⟩) (by show qb<_;have:=HQB.1;omega)).trans hc1)
     have CALL:=hide (fun wx (hb:Below wr.heap.size wr wx)=>HIH.1 m1 u1 wx (by omega) hu1 (Nat.le_trans hB (hbrw.trans (hb.mono hbrw.size)).size) (HT0.1.keep fun p hp=>(hbrw.trans (hb.mono hbrw.size)).cell (by omega)))
     have hji:(j:Int)<(nd.kids.length:Int):=by omega
     have hjp:(0:Int)≤(j:Int):=by omega
     have hv1:=HLS.1 u1.2 (List.mem_map.2 ⟨u1,List.mem_of_getElem? hks1,rfl⟩)
     have HST:=hide (hi_snoc (k:=nd.kind) hj0 (show (ks.map (·.2))[j]?=some u1.2 by rw [List.getElem?_map,hks1];rfl))
     have hk56:nd.kind=5∨nd.kind=6:=by
      have a:=HAL.1
      rcases HKIND.1 with h|h|h|h|h
      ·exact .inl h
      ·exact .inr h
      ·have:=a.one (by omega);omega
      ·have:=a.one (by omega);omega
      ·have:=a.one (by omega);omega
     have HK56:=hide hk56
     clear hm1 hu1 hc1 hks1 hbr hbn hbt hbrw hk56 hu
     go_wp2_with fail
     refine wp_region_noPanic ?_
     refine wp_region_held_drew (S:=fun wx=>Hd (Below wr.heap.size wr wx)) (by kernel_rfl) (show Hd (Below wr.heap.size wr _) from hide (Below.refl _ _).drew) (fun hS=>?_)
     refine tkH 0 (some 41) ?vb0 rfl ?yb0 hS ?rb0
     case yb0=>(intro w hSw;(try dsimp only at hSw);have h0:=(HBTR.1.below hSw.1 HBTR.1.lt).cell 0;have h1:=(HBTR.1.below hSw.1 HBTR.1.lt).cell 1;have h2:=(HBTR.1.below hSw.1 HBTR.1.lt).cell 2;go_simp;try with_reducible rfl)
     try simp only [aP]
     refine tkH 1 (some 42) ?vb1 rfl ?yb1 hS ?rb1
     case yb1=>(intro w hSw;(try dsimp only at hSw);go_simp;try with_reducible rfl)
     try simp only [aP]
     refine tkH 2 (some 43) ?vb2 rfl ?yb2 hS ?rb2
     case yb2=>(intro w hSw;(try dsimp only at hSw);have h0:=(HBNR.1.below hSw.1 HBNR.1.lt).cell 0;have h1:=(HBNR.1.below hSw.1 HBNR.1.lt).cell 1;have h2:=(HBNR.1.below hSw.1 HBNR.1.lt).cell 2;have h3:=(HBNR.1.below hSw.1 HBNR.1.lt).cell 3;have h4:=(HBNR.1.below hSw.1 HBNR.1.lt).cell 4;have h5:=(HBNR.1.below hSw.1 HBNR.1.lt).cell 5;have h6:=(HBNR.1.below hSw.1 HBNR.1.lt).cell 6;have h7:=(HBNR.1.below hSw.1 HBNR.1.lt).cell 7;have h8:=(HBNR.1.below hSw.1 HBNR.1.lt).cell 8;have h9:=(HBNR.1.below hSw.1 HBNR.1.lt).cell 9;go_simp;try with_reducible rfl)
     try simp only [aP]
     refine tkH 3 (some 44) ?vb3 rfl ?yb3 hS ?rb3
     case yb3=>(intro w hSw;(try dsimp only at hSw);go_simp;try with_reducible rfl)
     try simp only [aP]
     refine tkH 4 (some 45) ?vb4 rfl ?yb4 hS ?rb4
     case yb4=>(intro w hSw;(try dsimp only at hSw);go_simp;try with_reducible rfl)
     try simp only [aP]
     refine tkH 5 (some 46) ?vb5 rfl ?yb5 hS ?rb5
     case yb5=>(intro w hSw;(try dsimp only at hSw);have h0:=HKC.1 _ hSw.1;go_simp;try with_reducible rfl)
     try simp only [aP]
     refine wpAnyH_ready (rs:=[6]) (by kernel_rfl) (by simp) ?_
     refine AllReadyH.cons (o:=⟨some 47,_,_,_,_,_⟩) rfl (fun K hK=>?_) AllReadyH.nil
     go_simp
     refine ((CALL.1 _ hS.1)).mono ?_
     rintro e w5 ⟨rfl,hb⟩
     have HS5:=hide (hS.1.trans (hb.mono hS.1.size))
     clear hb
     go_wp2_with fail
     refine hK.out _ _ HS5 (fun hS=>?_)
     clear hK K
     try simp only [aP]
     refine tkH 7 (some 8) ?vb7 rfl ?yb7 hS ?rb7
     case yb7=>(intro w hSw;(try dsimp only at hSw);go_simp;try with_reducible rfl)
     try simp only [aP]
     refine wpAnyH_done (by kernel_rfl) ?_ _
     refine NoPanic.normal ?_
     have HB5:=hide (HBR.1.trans (HS5.1.mono HBR.1.size))
     obtain ⟨x0,x1,x2,x3,x4,x5,x6,x7,x8,x9⟩:=cellsQ (HBNR.1.below HS5.1 HBNR.1.lt)
     clear hS HS5 CALL HKC
     have fin:∀ z,hiStep nd.kind u u1.2=z→HiRel nd (ks.map (·.2)) X (.int .i64 z) (.int .i64 ((j:Int)+1)) w5:=fun z hz=>⟨j+1,z,by go_num,rfl,by rw [HST.1,← HU.1];exact hz.symm,by omega,by rw [HLL.1];omega,HB5.1⟩
     have FIN:=hide fin
     clear fin
     by_cases hu0:u<0
     ·have d0:decide (u<0)=true:=decide_eq_true hu0
      have HR:=hide (FIN.1 (-1) (by unfold hiStep;simp [hu0]))
      clear hu0
      go_wp2_with fail
      have hR:=HR.1
      first|go_roundw|refine ⟨?rel,?measure⟩
      case rel=>exact hR
      case measure=>simp [intOf];omega
     have d0:decide (u<0)=false:=decide_eq_false hu0
     by_cases hv0:u1.2<0
     ·have d1:decide (u1.2<0)=true:=decide_eq_true hv0
      have HR:=hide (FIN.1 (-1) (by unfold hiStep;simp [hv0]))
      clear hu0 hv0
      go_wp2_with fail
      have hR:=HR.1
      first|go_roundw|refine ⟨?rel,?measure⟩
      case rel=>exact hR
      case measure=>simp [intOf];omega
     have d1:decide (u1.2<0)=false:=decide_eq_false hv0
     have hn:¬ (u<0∨u1.2<0):=by omega
     rcases HK56.1 with hk|hk
     ·have q5:(nd.kind==5)=true:=beq_iff_eq.2 hk
      have hwa:IntKind.i64.wrap (u+u1.2)=u+u1.2:=wrap_id _ (by omega) (by omega)
      by_cases hc:1048576<u+u1.2
      ·have d2:decide (1048576<u+u1.2)=true:=decide_eq_true hc
       have HR:=hide (FIN.1 (-1) (by unfold hiStep;rw [if_neg hn,if_pos hk,if_pos hc]))
       clear hk hc hn hu0 hv0
       go_wp2_with fail
       have hR:=HR.1
       first|go_roundw|refine ⟨?rel,?measure⟩
       case rel=>exact hR
       case measure=>simp [intOf];omega
      ·have d2:decide (1048576<u+u1.2)=false:=decide_eq_false hc
       have HR:=hide (FIN.1 (u+u1.2) (by unfold hiStep;rw [if_neg hn,if_pos hk,if_neg hc]))
       clear hk hc hn hu0 hv0
       go_wp2_with fail
       have hR:=HR.1
       first|go_roundw|refine ⟨?rel,?measure⟩
       case rel=>exact hR
       case measure=>simp [intOf];omega
     ·have q5:(nd.kind==5)=false:=by rw [beq_eq_false_iff_ne];omega
      have h5:¬ nd.kind=5:=by omega
      by_cases hlv:u<u1.2
      ·have q7:decide (u<u1.2)=true:=decide_eq_true hlv
       have q8:decide (1048576<u1.2)=false:=decide_eq_false (by omega)
       have HR:=hide (FIN.1 u1.2 (by unfold hiStep;rw [if_neg hn,if_neg h5,if_pos hlv,if_neg (by omega)]))
       clear hk hn hu0 hv0 hlv h5
       go_wp2_with fail
       have hR:=HR.1
       first|go_roundw|refine ⟨?rel,?measure⟩
       case rel=>exact hR
       case measure=>simp [intOf];omega
      ·have q7:decide (u<u1.2)=false:=decide_eq_false hlv
       have q8:decide (1048576<u)=false:=decide_eq_false (by omega)
       have HR:=hide (FIN.1 u (by unfold hiStep;rw [if_neg hn,if_neg h5,if_neg hlv,if_neg (by omega)]))
       clear hk hn hu0 hv0 hlv h5
       go_wp2_with fail
       have hR:=HR.1
       first|go_roundw|refine ⟨?rel,?measure⟩
       case rel=>exact hR
       case measure=>simp [intOf];omega
    ·have hje:j=(ks.map (·.2)).length:=by rw [HLL.1];omega
     have huA:u=hiFold nd.kind (ks.map (·.2)):=by rw [hu,hje,List.take_length]
     have hnl:¬ (j:Int)<(nd.kids.length:Int):=by omega
     have HBRW:=hide (HBW.1.trans (hbr.mono HBW.1.size))
     have hfo:hiOf nd (ks.map (·.2))=if nd.kind=8∧u≠0 then (if u<0∨nd.mx<0∨1048576<u*nd.mx then -1 else u*nd.mx) else u:=by
      have hkk:=HKIND.1
      unfold hiOf
      rw [if_neg (by omega),if_neg (by omega),if_neg (by omega),← huA]
     rw [HFIN.1] at hfo
     by_cases h8:nd.kind=8
     ·have q8:(nd.kind==8)=true:=beq_iff_eq.2 h8
      obtain ⟨e2,e3⟩:=HMX.1 h8
      by_cases hz:u=0
      ·have q9:(u != 0)=false:=by simp [hz]
       rw [if_neg (by omega)] at hfo
       have HX:=hide hfo
       clear hbr hbn hbt h8 hu huA hje hfo hz
       go_wp2_with fail
       go_ret
       exact ⟨ret_i HX.1.symm,HBRW.1⟩
      ·have q9:(u != 0)=true:=by simp [hz]
       have hm1:u*nd.mx≤1048576*1000∧-1048576000≤u*nd.mx:=by
        have b1:u*nd.mx∈[u*nd.mx]:=by simp
        rcases Int.lt_or_le nd.mx 0 with hx|hx
        ·have:nd.mx=-1:=by omega
         rw [this];omega
        ·have c1:u*nd.mx≤1048576*nd.mx:=Int.mul_le_mul_of_nonneg_right hub1 hx
         have c2:(-1)*nd.mx≤u*nd.mx:=Int.mul_le_mul_of_nonneg_right hub0 hx
         omega
       have hwm:IntKind.i64.wrap (u*nd.mx)=u*nd.mx:=wrap_id _ (by omega) (by omega)
       rw [if_pos ⟨h8,hz⟩] at hfo
       have HX:=hide hfo
       clear hbr hbn hbt h8 hu huA hje hfo hz hm1
       go_wp2_with fail
       all_goals
        go_ret
        have h:=HX.1
        first|(rw [if_pos (by omega)] at h;exact ⟨ret_i h.symm,HBRW.1⟩)|(rw [if_neg (by omega)] at h;exact ⟨ret_i h.symm,HBRW.1⟩)
     ·have q8:(nd.kind==8)=false:=by rw [beq_eq_false_iff_ne];exact h8
      rw [if_neg (by omega)] at hfo
      have HX:=hide hfo
      clear hbr hbn hbt h8 hu huA hje hfo
      go_wp2_with fail
      go_ret
      exact ⟨ret_i HX.1.symm,HBRW.1⟩
end
end Go.Proofs.YtmlbklcmblofkaaGreatDoor.Rt
