/-
  Patterns read as trees, as plain functions on bytes: the parser's own steps, without memory.
-/
import Derived.Test.YtmlbklcmblofkaaGreatDoorMMemA
import Derived.Test.YtmlbklcmblofkaaGreatDoorMPuB
set_option linter.unusedSimpArgs false
set_option linter.unusedVariables false
namespace Go.Proofs.YtmlbklcmblofkaaGreatDoor.As
open Go.RowKit Mem Rs
variable {v:Value}
structure Nd where
 kind:Int
 from_:Int
 to_:Int
 num:Int
 mn:Int
 mx:Int
 mode:Int
 name:List UInt8
 set:List R
 kids:List Int
structure Tr where
 nodes:List Nd
 groups:Int
 names:List (List UInt8)
abbrev str (l:List UInt8):Value:=.string ⟨l.toArray⟩
def in64 (x:Int):Prop:=-9223372036854775808≤x∧x≤9223372036854775807
def SetV (w:World) (B:Nat) (l:List R) (v:Value):Prop:=∃ A cap,v=.slice A l.length cap∧l.length≤cap∧cap≤9223372036854775807∧Lst w B A l
def KidsV (w:World) (B:Nat) (l:List Int) (v:Value):Prop:=∃ A cap,v=.slice A l.length cap∧l.length≤cap∧cap≤9223372036854775807∧Reads w B 1 A l.length (l.map Mem.i64)
def NodeV (w:World) (B:Nat) (nd:Nd) (c:Nat→Option Value):Prop:=
 c 0=some (.int .i64 nd.kind)∧c 1=some (.int .i64 nd.from_)∧c 2=some (.int .i64 nd.to_)∧c 3=some (.int .i64 nd.num)∧c 4=some (.int .i64 nd.mn)∧c 5=some (.int .i64 nd.mx)∧c 6=some (.int .i64 nd.mode) ∧
 c 7=some (str nd.name)∧(∃ v,c 8=some v∧SetV w B nd.set v)∧(∃ v,c 9=some v∧KidsV w B nd.kids v)
def NodesV (w:World) (B:Nat) (l:List Nd) (v:Value):Prop:=∃ A cap,v=.slice A l.length cap∧l.length≤cap∧cap≤9223372036854775807 ∧
 (0<l.length→∃ b off,A=some ⟨b,off,none⟩∧b<B∧∀ k nd,l[k]?=some nd→NodeV w B nd fun j=>w.cell? ⟨b,off+k*10+j,none⟩)
def NamesV (w:World) (B:Nat) (l:List (List UInt8)) (v:Value):Prop:=∃ A cap,v=.slice A l.length cap∧l.length≤cap∧cap≤9223372036854775807 ∧
 (0<l.length→∃ b off,A=some ⟨b,off,none⟩∧b<B∧∀ k s,l[k]?=some s→w.cell? ⟨b,off+k,none⟩=some (str s))
def TreeV (w:World) (B:Nat) (t:Tr) (v:Value):Prop:=∃ a c,v=.agg #[a,.int .i64 t.groups,c]∧NodesV w B t.nodes a∧NamesV w B t.names c
def NdIn (nd:Nd):Prop:=in64 nd.kind∧in64 nd.from_∧in64 nd.to_∧in64 nd.num∧in64 nd.mn∧in64 nd.mx∧in64 nd.mode∧(∀ r∈nd.set,in64 r.1)∧∀ k∈nd.kids,in64 k
def TrIn (t:Tr):Prop:=(∀ nd∈t.nodes,NdIn nd)∧in64 t.groups
section
variable {w w':World} {B B':Nat}
theorem SetV.keep {l:List R} {v:Value} (h:SetV w B l v) (hk:∀ p:Addr,p.block<B→w'.cell? p=w.cell? p):SetV w' B l v:=by
 obtain ⟨A,cap,h1,h2,h3,h4⟩:=h
 exact ⟨A,cap,h1,h2,h3,h4.keep hk⟩
theorem KidsV.keep {l:List Int} {v:Value} (h:KidsV w B l v) (hk:∀ p:Addr,p.block<B→w'.cell? p=w.cell? p):KidsV w' B l v:=by
 obtain ⟨A,cap,h1,h2,h3,h4⟩:=h
 exact ⟨A,cap,h1,h2,h3,h4.keep hk⟩
theorem NodeV.keep {nd:Nd} {c c':Nat→Option Value} (h:NodeV w B nd c) (hk:∀ p:Addr,p.block<B→w'.cell? p=w.cell? p) (hc:∀ j,c' j=c j):NodeV w' B nd c':=by
 obtain ⟨h0,h1,h2,h3,h4,h5,h6,h7,⟨v8,h8,h8'⟩,v9,h9,h9'⟩:=h
 simp only [NodeV,hc]
 exact ⟨h0,h1,h2,h3,h4,h5,h6,h7,⟨v8,h8,h8'.keep hk⟩,v9,h9,h9'.keep hk⟩
theorem NodesV.keep {l:List Nd} {v:Value} (h:NodesV w B l v) (hk:∀ p:Addr,p.block<B→w'.cell? p=w.cell? p):NodesV w' B l v:=by
 obtain ⟨A,cap,h1,h2,h3,h4⟩:=h
 refine ⟨A,cap,h1,h2,h3,fun hn=>?_⟩
 obtain ⟨b,off,e,hb,hc⟩:=h4 hn
 exact ⟨b,off,e,hb,fun k nd hnd=>(hc k nd hnd).keep hk fun j=>hk ⟨b,_,none⟩ hb⟩
theorem NamesV.keep {l:List (List UInt8)} (h:NamesV w B l v) (hk:∀ p:Addr,p.block<B→w'.cell? p=w.cell? p):NamesV w' B l v:=by
 obtain ⟨A,cap,h1,h2,h3,h4⟩:=h
 refine ⟨A,cap,h1,h2,h3,fun hn=>?_⟩
 obtain ⟨b,off,e,hb,hc⟩:=h4 hn
 exact ⟨b,off,e,hb,fun k s hs=>(hk ⟨b,_,none⟩ hb).trans (hc k s hs)⟩
theorem TreeV.keep {t:Tr} {v:Value} (h:TreeV w B t v) (hk:∀ p:Addr,p.block<B→w'.cell? p=w.cell? p):TreeV w' B t v:=by
 obtain ⟨a,c,h1,h2,h3⟩:=h
 exact ⟨a,c,h1,h2.keep hk,h3.keep hk⟩
theorem TreeV.below {t:Tr} (h:TreeV w B t v) (hb:Below B w w'):TreeV w' B t v:=h.keep fun _ hp=>hb.cell hp
end
theorem KidsV.more {w:World} {B B':Nat} {l:List Int} {v:Value} (h:KidsV w B l v) (hB:B≤B'):KidsV w B' l v:=by
 obtain ⟨A,cap,h1,h2,h3,h4⟩:=h
 exact ⟨A,cap,h1,h2,h3,h4.more hB⟩
theorem NamesV.more {w:World} {B B':Nat} {l:List (List UInt8)} (h:NamesV w B l v) (hB:B≤B'):NamesV w B' l v:=by
 obtain ⟨A,cap,h1,h2,h3,h4⟩:=h
 refine ⟨A,cap,h1,h2,h3,fun hn=>?_⟩
 obtain ⟨b,off,e,hb,hc⟩:=h4 hn
 exact ⟨b,off,e,by omega,hc⟩
theorem SetV.more {w:World} {B B':Nat} {l:List R} {v:Value} (h:SetV w B l v) (hB:B≤B'):SetV w B' l v:=by
 obtain ⟨A,cap,h1,h2,h3,h4⟩:=h
 exact ⟨A,cap,h1,h2,h3,h4.more hB⟩
theorem NodesV.more {w:World} {B B':Nat} {l:List Nd} {v:Value} (h:NodesV w B l v) (hB:B≤B'):NodesV w B' l v:=by
 obtain ⟨A,cap,h1,h2,h3,h4⟩:=h
 refine ⟨A,cap,h1,h2,h3,fun hn=>?_⟩
 obtain ⟨b,off,e,hb,hc⟩:=h4 hn
 refine ⟨b,off,e,by omega,fun k nd hk=>?_⟩
 obtain ⟨c0,c1,c2,c3,c4,c5,c6,c7,⟨v8,c8,c8'⟩,v9,c9,c9'⟩:=hc k nd hk
 exact ⟨c0,c1,c2,c3,c4,c5,c6,c7,⟨v8,c8,c8'.more hB⟩,v9,c9,c9'.more hB⟩
theorem TreeV.more {w:World} {B B':Nat} {t:Tr} {v:Value} (h:TreeV w B t v) (hB:B≤B'):TreeV w B' t v:=by
 obtain ⟨a,c,h1,h2,h3⟩:=h
 exact ⟨a,c,h1,h2.more hB,h3.more hB⟩
end Go.Proofs.YtmlbklcmblofkaaGreatDoor.As
namespace Go.Proofs.YtmlbklcmblofkaaGreatDoor.Pa
open Sy (g)
open Rs (R)
open Sc (It Ct cntP blk nameP escz clsz notz wholeL allL sym)
open As (Nd Tr)
open Fo (closeL)
structure Fl where
 i:Bool
 m:Bool
 s:Bool
 x:Bool
abbrev bf (f:Fl):Array Go.Value:=#[.bool f.i,.bool f.m,.bool f.s,.bool f.x]
structure St where
 pos:Nat
 fl:Fl
 names:List (List UInt8)
inductive F where
 | nil
 | cons (nd:Nd) (kids rest:F)
structure Pt where
 nd:Nd
 kids:F
def F.len:F→Nat
 | .nil=>0
 | .cons _ _ r=>r.len+1
def F.snoc:F→Nd→F→F
 | .nil,nd,ks=>.cons nd ks .nil
 | .cons a k r,nd,ks=>.cons a k (r.snoc nd ks)
def F.app (l:F) (x:Pt):F:=l.snoc x.nd x.kids
def F.one (x:Pt):F:=.cons x.nd x.kids .nil
def F.lastTo:F→Int→Int
 | .nil,z=>z
 | .cons nd _ r,_=>r.lastTo nd.to_
def nd0:Nd:=⟨0,0,0,0,0,0,0,[],[],[]⟩
abbrev Er:=Nat×Nat
abbrev Res (α:Type):=Except Er (α×St)
def stA (bs:List UInt8):Nat→List Nat→Bool
 | _,[]=>true
 | k,c :: l=>decide (g bs k=c)&&stA bs (k+1) l
def skipP (bs:List UInt8) (st:St):St:=if st.fl.x then { st with pos:=blk bs st.pos false } else st
def endB (bs:List UInt8) (k:Nat):Bool:=decide (bs.length≤k)||(stA bs k [124]||stA bs k [41])
def rowP (l:F) (fr:Nat):Pt:=match l with
 | .nil=>⟨{ nd0 with kind:=1,from_:=fr,to_:=fr },.nil⟩
 | .cons nd ks .nil=>⟨nd,ks⟩
 | .cons nd ks (.cons a b c)=>⟨{ nd0 with kind:=5,from_:=nd.from_,to_:=(F.cons a b c).lastTo nd.to_ },.cons nd ks (.cons a b c)⟩
def repN (fr:Nat) (c:Ct):Nd:={ nd0 with kind:=8,from_:=fr,to_:=c.to,mn:=c.lo,mx:=c.hi,mode:=if c.mode=1 then 1 else 0 }
def repP (x:Pt) (fr:Nat) (c:Ct):Pt:=if c.mode=2 then ⟨{ nd0 with kind:=9,from_:=fr,to_:=c.to },.cons (repN fr c) (.one x) .nil⟩ else ⟨repN fr c,.one x⟩
def quantP (bs:List UInt8) (x:Pt) (fr:Nat) (st:St):Res Pt:=
 if (cntP bs (skipP bs st).pos).e≠0 then .error ((cntP bs (skipP bs st).pos).e,(skipP bs st).pos)
 else if (cntP bs (skipP bs st).pos).is=false then .ok (x,skipP bs st)
 else if (cntP bs (skipP bs { skipP bs st with pos:=(cntP bs (skipP bs st).pos).to }).pos).is=true∨(cntP bs (skipP bs { skipP bs st with pos:=(cntP bs (skipP bs st).pos).to }).pos).e≠0 then
  .error (31,(skipP bs { skipP bs st with pos:=(cntP bs (skipP bs st).pos).to }).pos)
 else .ok (repP x fr (cntP bs (skipP bs st).pos),skipP bs { skipP bs st with pos:=(cntP bs (skipP bs st).pos).to })
def casedP (fl:Fl) (l:List R):List R:=if fl.i then closeL l else l
def leafP (n:Nd) (st:St) (q:Nat):Pt×St:=(⟨{ n with from_:=st.pos,to_:=q },.nil⟩,{ st with pos:=q })
def setP (l:List R) (st:St) (q:Nat):Pt×St:=leafP { nd0 with kind:=2,set:=l } st q
def mayP (b:Bool) (r:Pt×St):Res (Pt×Bool):=.ok ((r.1,b),r.2)
def holdP (whole lines:Nat) (st:St):Res (Pt×Bool):=mayP false (leafP { nd0 with kind:=3,num:=if st.fl.m then lines else whole } st (st.pos+1))
def classP (bs:List UInt8) (st:St):Res (Pt×Bool):=match clsz bs (st.pos:Int) with
 | .error e=>.error e
 | .ok (l,q)=>mayP true (setP (wholeL (allL l) st.fl.i (notz bs (st.pos:Int))) st q)
def backP (x:It) (st:St):Res (Pt×Bool):=mayP true (leafP { nd0 with kind:=4,num:=x.num,name:=x.name,mode:=if st.fl.i then 1 else 0 } st x.to)
def escPt (bs:List UInt8) (st:St):Res (Pt×Bool):=match escz bs false (st.pos:Int) with
 | .err e=>.error (e,st.pos)
 | .lit n q=>mayP true (setP (casedP st.fl [((n:Int),(n:Int))]) st q)
 | .cls c q=>mayP true (setP (casedP st.fl (It.cls c q).set) st q)
 | .nam s t q=>mayP true (setP (casedP st.fl (It.nam s t q).set) st q)
 | .hld n q=>mayP false (leafP { nd0 with kind:=3,num:=n } st q)
 | x=>backP x st
def anyP (lines:Bool):List R:=if lines then [(0,1114367)] else [(0,9),(11,1114367)]
def withinP (bs:List UInt8) (inner:St→Res Pt) (n:Nd) (fr:Nat) (fl:Fl) (st:St):Res (Pt×Bool):=match inner ⟨fr,fl,st.names⟩ with
 | .error e=>.error e
 | .ok (x,st2)=>if bs.length≤st2.pos then .error (30,st.pos) else
  .ok ((if n.kind=0 then x else ⟨{ n with from_:=st.pos,to_:=(st2.pos:Int)+1 },.one x⟩,true),⟨st2.pos+1,st.fl,st2.names⟩)
def lookP (bs:List UInt8) (inner:St→Res Pt) (num fr:Nat) (st:St):Res (Pt×Bool):=withinP bs inner { nd0 with kind:=10,num:=num } fr st.fl st
def groupP (bs:List UInt8) (inner:St→Res Pt) (name:List UInt8) (fr:Nat) (st:St):Res (Pt×Bool):=
 if 99<st.names.length then .error (40,st.pos) else withinP bs inner { nd0 with kind:=7,num:=st.names.length,name:=name } fr st.fl { st with names:=st.names++[name] }
def namedP (bs:List UInt8) (inner:St→Res Pt) (k:Nat) (st:St):Res (Pt×Bool):=match nameP bs k with
 | none=>.error (36,k)
 | some (s,fr)=>if st.names.contains s then .error (37,k) else groupP bs inner s fr st
def fnd1 (bs:List UInt8) (k:Nat):Option Nat:=if h:k<bs.length then (if g bs k=41 then some k else fnd1 bs (k+1)) else none
termination_by bs.length-k
def remarkP (bs:List UInt8) (st:St):Res (Pt×Bool):=match fnd1 bs st.pos with
 | none=>.error (30,st.pos)
 | some j=>.ok ((⟨nd0,.nil⟩,false),{ st with pos:=j+1 })
def letP (bs:List UInt8) (b:Bool) (fl:Fl) (k:Nat):Fl×Nat:=
 if h:k<bs.length then
  if g bs k=105 then letP bs b { fl with i:=b } (k+1)
  else if g bs k=109 then letP bs b { fl with m:=b } (k+1)
  else if g bs k=115 then letP bs b { fl with s:=b } (k+1)
  else if g bs k=120 then letP bs b { fl with x:=b } (k+1)
  else (fl,k)
 else (fl,k)
termination_by bs.length-k
def flgP (bs:List UInt8) (fl:Fl) (k:Nat):Fl×Nat×Nat:=
 if g bs (letP bs true fl k).2=45 then ((letP bs false (letP bs true fl k).1 ((letP bs true fl k).2+1)).1,(letP bs true fl k).2+1,(letP bs false (letP bs true fl k).1 ((letP bs true fl k).2+1)).2)
 else ((letP bs true fl k).1,k,(letP bs true fl k).2)
def flaggedP (bs:List UInt8) (inner:St→Res Pt) (k:Nat) (st:St):Res (Pt×Bool):=
 if (flgP bs st.fl k).2.2=(flgP bs st.fl k).2.1∨bs.length≤(flgP bs st.fl k).2.2 then .error (35,(flgP bs st.fl k).2.2)
 else if g bs (flgP bs st.fl k).2.2=41 then .ok ((⟨nd0,.nil⟩,false),⟨(flgP bs st.fl k).2.2+1,(flgP bs st.fl k).1,st.names⟩)
 else if g bs (flgP bs st.fl k).2.2=58 then withinP bs inner nd0 ((flgP bs st.fl k).2.2+1) (flgP bs st.fl k).1 st
 else .error (35,(flgP bs st.fl k).2.2)
def parenP (bs:List UInt8) (inner:Option (St→Res Pt)) (st:St):Res (Pt×Bool):=match inner with
 | none=>.error (39,st.pos)
 | some inner=>
  if stA bs st.pos [40,63]=false then groupP bs inner [] (st.pos+1) st
  else if stA bs st.pos [40,63,35] then remarkP bs st
  else if stA bs st.pos [40,63,58] then withinP bs inner nd0 (st.pos+3) st.fl st
  else if stA bs st.pos [40,63,62] then withinP bs inner { nd0 with kind:=9 } (st.pos+3) st.fl st
  else if stA bs st.pos [40,63,61] then lookP bs inner 1 (st.pos+3) st
  else if stA bs st.pos [40,63,33] then lookP bs inner 2 (st.pos+3) st
  else if stA bs st.pos [40,63,60,61] then lookP bs inner 3 (st.pos+4) st
  else if stA bs st.pos [40,63,60,33] then lookP bs inner 4 (st.pos+4) st
  else if stA bs st.pos [40,63,60] then namedP bs inner (st.pos+3) st
  else flaggedP bs inner (st.pos+2) st
def atomP (bs:List UInt8) (inner:Option (St→Res Pt)) (st:St):Res (Pt×Bool):=
 if g bs st.pos=40 then parenP bs inner st
 else if g bs st.pos=91 then classP bs st
 else if g bs st.pos=92 then escPt bs st
 else if g bs st.pos=94 then holdP 1 4 st
 else if g bs st.pos=36 then holdP 2 5 st
 else if g bs st.pos=46 then mayP true (setP (anyP st.fl.s) st (st.pos+1))
 else mayP true (setP (casedP st.fl [(((sym bs st.pos).1:Int),((sym bs st.pos).1:Int))]) st (st.pos+(sym bs st.pos).2))
def pieceP (bs:List UInt8) (inner:Option (St→Res Pt)) (st:St):Res Pt:=
 if (cntP bs st.pos).e≠0 then .error ((cntP bs st.pos).e,st.pos)
 else if (cntP bs st.pos).is then .error (31,st.pos)
 else match atomP bs inner st with
 | .error e=>.error e
 | .ok ((x,may),st2)=>if may then quantP bs x st.pos st2 else .ok (x,st2)
def altF (bs:List UInt8) (inner:Option (St→Res Pt)) (fr:Nat) (st:St) (l:F):Res Pt:=
 if endB bs (skipP bs st).pos then .ok (rowP l fr,skipP bs st)
 else match pieceP bs inner (skipP bs st) with
 | .error e=>.error e
 | .ok (x,st2)=>if h:st.pos<st2.pos∧st.pos<bs.length then altF bs inner fr st2 (if x.nd.kind=0 then l else l.app x) else .error (0,0)
termination_by bs.length-st.pos
def altP (bs:List UInt8) (inner:Option (St→Res Pt)) (st:St):Res Pt:=altF bs inner st.pos st .nil
def altsF (bs:List UInt8) (inner:Option (St→Res Pt)) (st:St) (l:F):Res F:=
 if stA bs st.pos [124] then match altP bs inner { st with pos:=st.pos+1 } with
  | .error e=>.error e
  | .ok (x,st2)=>if h:st.pos<st2.pos∧st.pos<bs.length then altsF bs inner st2 (l.app x) else .error (0,0)
 else .ok (l,st)
termination_by bs.length-st.pos
def altsP (bs:List UInt8) (inner:Option (St→Res Pt)) (st:St):Res Pt:=match altP bs inner st with
 | .error e=>.error e
 | .ok (x,st1)=>match altsF bs inner st1 (.one x) with
  | .error e=>.error e
  | .ok (l,st2)=>.ok (if l.len=1 then x else ⟨{ nd0 with kind:=6,from_:=st.pos,to_:=st2.pos },l⟩,st2)
def parN (bs:List UInt8):Nat→St→Res Pt
 | 0=>altsP bs none
 | d+1=>altsP bs (some (parN bs d))
def F.size:F→Nat
 | .nil=>0
 | .cons _ ks r=>1+ks.size+r.size
def F.idx:F→Nat→List Int
 | .nil,_=>[]
 | .cons _ ks r,i=>(i:Int) :: r.idx (i+1+ks.size)
def idxOf (s:List UInt8):List (List UInt8)→Nat→Nat
 | [],_=>0
 | t :: l,k=>if t=s then k else idxOf s l (k+1)
def fixN (names:List (List UInt8)) (nd:Nd):Nd:=if nd.kind=4∧nd.name≠[] then { nd with num:=idxOf nd.name names 0 } else nd
def layF (names:List (List UInt8)):F→Nat→List Nd
 | .nil,_=>[]
 | .cons nd ks r,i=>{ fixN names nd with kids:=ks.idx (i+1) } :: (layF names ks (i+1)++layF names r (i+1+ks.size))
def parseP (bs:List UInt8):Except Er Tr:=
 if 4096<bs.length then .error (15,0) else match parN bs 100 ⟨0,⟨false,false,false,false⟩,[[]]⟩ with
 | .error e=>.error e
 | .ok (x,st)=>if st.pos<bs.length then .error (30,st.pos) else .ok ⟨layF st.names (.one x) 0,(st.names.length:Int)-1,st.names⟩
end Go.Proofs.YtmlbklcmblofkaaGreatDoor.Pa
