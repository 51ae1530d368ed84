/-
  Results that are handed on: a call's answer, stored and returned.
-/
import Derived.Test.YtmlbklcmblofkaaGreatDoorMPaB
set_option linter.unusedSimpArgs false
set_option linter.unusedVariables false
namespace Go.Proofs.YtmlbklcmblofkaaGreatDoor.Pa
section
open Go.RowKit Mem
open Sc (Lies)
open Rs (R Lst)
open As (Nd)
variable {w w':World} {nv:Value}
def SetV (P:Nat→Prop) (l:List R) (L:Option Addr) (lc:Nat) (w:World):Prop:=l.length≤lc∧lc≤9223372036854775807∧Lst w w.heap.size L l∧∀ ad,L=some ad→0<l.length→P ad.block
theorem SetV.of_lies {B:Nat} {l:List R} {v:Value} (h:Lies B l v w):∃ L lc,v=.slice L l.length lc∧SetV (fun k=>B≤k) l L lc w:=by
 obtain ⟨A,cap,h1,h2,h3,h4,h6⟩:=h
 exact ⟨A,cap,h1,h2,h3,h4,h6⟩
theorem SetV.nil (P:Nat→Prop) (w:World):SetV P [] none 0 w:=⟨Nat.le_refl _,by omega,Rs.Lst.nil,fun ad e _=>by cases e⟩
theorem SetV.keep {P Q:Nat→Prop} {l:List R} {L:Option Addr} {lc:Nat} (h:SetV P l L lc w) (hs:w.heap.size≤w'.heap.size) (hk:∀ k,k<w.heap.size→P k→w'.heap[k]?=w.heap[k]?∧Q k):SetV Q l L lc w':=by
 obtain ⟨h1,h2,h3,h4⟩:=h
 refine ⟨h1,h2,fun hn=>?_,fun ad e hn=>?_⟩
 ·obtain ⟨b,off,e,hb,hc⟩:=h3 hn
  have hp:=(hk b hb (h4 _ e hn)).1
  exact ⟨b,off,e,by omega,fun k r hr=>⟨(World.cell?_of_block (a:=⟨b,_,none⟩) hp).trans (hc k r hr).1,(World.cell?_of_block (a:=⟨b,_,none⟩) hp).trans (hc k r hr).2⟩⟩
 ·obtain ⟨b,off,e2,hb,hc⟩:=h3 hn
  rw [e2] at e
  injection e with e
  subst e
  exact (hk b hb (h4 _ e2 hn)).2
def ptN (nd:Nd) (L:Option Addr) (lc:Nat) (K:Option Addr) (kn kc:Nat):Array Value:=ptC nd.kind nd.from_ nd.to_ nd.num nd.mn nd.mx nd.mode nd.name L nd.set.length lc K kn kc
def Row (P:Nat→Prop) (w:World):F→Nat→Nat→Prop
 | .nil,_,_=>True
 | .cons nd ks r,b,o=>(∃ L lc K kc,At w b o (ptN nd L lc K ks.len kc)∧SetV P nd.set L lc w∧ks.len≤kc∧kc≤9223372036854775807∧((ks=.nil∧K=none∧kc=0)∨∃ b' o',K=some ⟨b',o',none⟩∧P b'∧b'<w.heap.size∧Row P w ks b' o'))∧Row P w r b (o+11)
def KV (P:Nat→Prop) (w:World) (ks:F) (K:Option Addr) (kc:Nat):Prop:=ks.len≤kc∧kc≤9223372036854775807∧((ks=.nil∧K=none∧kc=0)∨∃ b' o',K=some ⟨b',o',none⟩∧P b'∧b'<w.heap.size∧Row P w ks b' o')
def PtV (P:Nat→Prop) (w:World) (x:Pt) (v:Value):Prop:=∃ L lc K kc,v=.agg (ptN x.nd L lc K x.kids.len kc)∧SetV P x.nd.set L lc w∧KV P w x.kids K kc
theorem At.keep {b o:Nat} {cs:Array Value} (h:At w b o cs) (hk:w'.heap[b]?=w.heap[b]?):At w' b o cs:=fun j u hu=>(World.cell?_of_block (a:=⟨b,o+j,none⟩) hk).trans (h j u hu)
theorem Row.keep {P Q:Nat→Prop} {w w':World} (hs:w.heap.size≤w'.heap.size) (hk:∀ k,k<w.heap.size→P k→w'.heap[k]?=w.heap[k]?∧Q k):∀ {F:F} {b o:Nat},w'.heap[b]?=w.heap[b]?→Row P w F b o→Row Q w' F b o
 | .nil,_,_,_,_=>trivial
 | .cons nd ks r,b,o,hb,h=>by
  obtain ⟨⟨L,lc,K,kc,h1,h2,h3,h4,h5⟩,h6⟩:=h
  refine ⟨⟨L,lc,K,kc,h1.keep hb,h2.keep hs hk,h3,h4,?_⟩,Row.keep hs hk hb h6⟩
  rcases h5 with h5|⟨b',o',e,p1,p2,p3⟩
  ·exact .inl h5
  ·exact .inr ⟨b',o',e,(hk b' p2 p1).2,by omega,Row.keep hs hk (hk b' p2 p1).1 p3⟩
theorem KV.keep {P Q:Nat→Prop} {w w':World} {ks:F} {K:Option Addr} {kc:Nat} (h:KV P w ks K kc) (hs:w.heap.size≤w'.heap.size) (hk:∀ k,k<w.heap.size→P k→w'.heap[k]?=w.heap[k]?∧Q k):KV Q w' ks K kc:=by
 obtain ⟨h3,h4,h5⟩:=h
 refine ⟨h3,h4,?_⟩
 rcases h5 with h5|⟨b',o',e,p1,p2,p3⟩
 ·exact .inl h5
 ·exact .inr ⟨b',o',e,(hk b' p2 p1).2,by omega,Row.keep hs hk (hk b' p2 p1).1 p3⟩
theorem KV.nil (P:Nat→Prop) (w:World):KV P w .nil none 0:=⟨Nat.le_refl _,by omega,.inl ⟨rfl,rfl,rfl⟩⟩
theorem PtV.keep {P Q:Nat→Prop} {w w':World} {x:Pt} {v:Value} (h:PtV P w x v) (hs:w.heap.size≤w'.heap.size) (hk:∀ k,k<w.heap.size→P k→w'.heap[k]?=w.heap[k]?∧Q k):PtV Q w' x v:=by
 obtain ⟨L,lc,K,kc,h1,h2,h3⟩:=h
 exact ⟨L,lc,K,kc,h1,h2.keep hs hk,h3.keep hs hk⟩
def RL (P:Nat→Prop) (w:World):F→List Value→Prop
 | .nil,xs=>xs=[]
 | .cons nd ks r,xs=>∃ L lc K kc xs',xs=(ptN nd L lc K ks.len kc).toList++xs'∧SetV P nd.set L lc w∧KV P w ks K kc∧RL P w r xs'
theorem ptN_len (nd:Nd) (L:Option Addr) (lc:Nat) (K:Option Addr) (kn kc:Nat):(ptN nd L lc K kn kc).toList.length=11:=rfl
theorem RL.len {P:Nat→Prop} {w:World}:∀ {F:F} {xs:List Value},RL P w F xs→xs.length=F.len*11
 | .nil,xs,h=>by rw [show xs=[] from h];rfl
 | .cons nd ks r,xs,h=>by
  obtain ⟨L,lc,K,kc,xs',rfl,-,-,h4⟩:=h
  rw [List.length_append,ptN_len,RL.len h4]
  show _=(r.len+1)*11
  omega
theorem RL.snoc {P:Nat→Prop} {w:World} {nd:Nd} {ks:F} {L:Option Addr} {lc:Nat} {K:Option Addr} {kc:Nat} (h2:SetV P nd.set L lc w) (h3:KV P w ks K kc):∀ {F:F} {xs:List Value},RL P w F xs→RL P w (F.snoc nd ks) (xs++(ptN nd L lc K ks.len kc).toList)
 | .nil,xs,h=>by
  rw [show xs=[] from h]
  exact ⟨L,lc,K,kc,[],by simp,h2,h3,rfl⟩
 | .cons a b r,xs,h=>by
  obtain ⟨L',lc',K',kc',xs',rfl,g2,g3,g4⟩:=h
  exact ⟨L',lc',K',kc',_,by rw [List.append_assoc],g2,g3,RL.snoc h2 h3 g4⟩
theorem RL.keep {P Q:Nat→Prop} {w w':World} (hs:w.heap.size≤w'.heap.size) (hk:∀ k,k<w.heap.size→P k→w'.heap[k]?=w.heap[k]?∧Q k):∀ {F:F} {xs:List Value},RL P w F xs→RL Q w' F xs
 | .nil,_,h=>h
 | .cons a b r,xs,h=>by
  obtain ⟨L',lc',K',kc',xs',e,g2,g3,g4⟩:=h
  exact ⟨L',lc',K',kc',xs',e,g2.keep hs hk,g3.keep hs hk,RL.keep hs hk g4⟩
theorem RL.row {P:Nat→Prop} {w:World} {b:Nat}:∀ {F:F} {xs:List Value} {o:Nat},RL P w F xs→(∀ j u,xs[j]?=some u→w.cell? ⟨b,o+j,none⟩=some u)→Row P w F b o
 | .nil,_,_,_,_=>trivial
 | .cons nd ks r,xs,o,h,hc=>by
  obtain ⟨L,lc,K,kc,xs',rfl,g2,g3,g4⟩:=h
  refine ⟨⟨L,lc,K,kc,fun j u hu=>hc j u ?_,g2,g3.1,g3.2.1,g3.2.2⟩,RL.row g4 fun j u hu=>?_⟩
  ·have hj:j<(ptN nd L lc K ks.len kc).toList.length:=by
    have:=(Array.getElem?_eq_some_iff.1 hu).1
    simpa using this
   rw [List.getElem?_append_left hj,← hu]
   simp
  ·have:=hc (11+j) u (by rw [List.getElem?_append_right (by rw [ptN_len];omega),ptN_len,Nat.add_sub_cancel_left];exact hu)
   rwa [show o+11+j=o+(11+j) by omega]
def Ok (lo:Nat) (nv:Value) (k:Nat):Prop:=lo≤k∧nv.ownBlock≠some k
def Nw (w:World) (nv nv':Value):Prop:=nv'.ownBlock=nv.ownBlock∨∃ j,nv'.ownBlock=some j∧w.heap.size≤j
theorem Nw.refl (w:World) (nv:Value):Nw w nv nv:=.inl rfl
theorem Nw.trans {w w2:World} {nv nv1 nv2:Value} (h:Nw w nv nv1) (k:Nw w2 nv1 nv2) (hs:w.heap.size≤w2.heap.size):Nw w nv nv2:=by
 rcases k with e|⟨j,e,hj⟩
 ·rcases h with e2|⟨j,e2,hj⟩
  ·exact .inl (e.trans e2)
  ·exact .inr ⟨j,e.trans e2,hj⟩
 ·exact .inr ⟨j,e,by omega⟩
theorem Nw.ne {nv':Value} {k:Nat} (h:Nw w nv nv') (hk:k<w.heap.size) (hn:nv.ownBlock≠some k):nv'.ownBlock≠some k:=by
 rcases h with e|⟨j,e,hj⟩
 ·rw [e];exact hn
 ·rw [e];intro e2;injection e2 with e2;omega
theorem Turn.keeps {rb:Nat} {lo:Nat} {nv':Value} (h:Turn rb nv.ownBlock w w') (hn:Nw w nv nv') (hr:rb<lo):∀ k,k<w.heap.size→Ok lo nv k→w'.heap[k]?=w.heap[k]?∧Ok lo nv' k:=
 fun k hk hP=>⟨h.block k hk (by have:=hP.1;omega) (fun e=>hP.2 e.symm),hP.1,hn.ne hk hP.2⟩
theorem Turn.two {rb:Nat} {a b c:World} {nv1:Value} (h:Turn rb nv.ownBlock a b) (k:Turn rb nv1.ownBlock b c) (hn:Nw a nv nv1):Turn rb nv.ownBlock a c:=h.trans k hn
structure Left (bs:List UInt8) (A:Option Addr) (cap:Nat) (w0:World) (rb nest:Nat) (nv:Value) (w:World) (st':St) (nv':Value) (w':World):Prop where
 rd:Rd bs A cap w0 rb nest st' nv' w'
 turn:Turn rb nv.ownBlock w w'
 nw:Nw w nv nv'
abbrev ptZ:Value:=.agg #[.int .i64 0,.int .i64 0,.int .i64 0,.int .i64 0,.int .i64 0,.int .i64 0,.int .i64 0,.string ⟨#[]⟩,.slice none 0 0,.slice none 0 0,.slice none 0 0]
def GiveA (bs:List UInt8) (A:Option Addr) (cap:Nat) (w0:World) (rb nest:Nat) (nv:Value) (w:World) (r:Res (Pt×Bool)) (e:Ending) (w':World):Prop:=match r with
 | .error (c,pl)=>c≠0∧e=.returned (.tuple #[ptZ,.bool false,.agg #[.int .i64 (c:Int),.int .i64 (pl:Int)]])∧∃ st' nv',Left bs A cap w0 rb nest nv w st' nv' w'
 | .ok ((x,may),st')=>∃ v nv',e=.returned (.tuple #[v,.bool may,.agg #[.int .i64 0,.int .i64 0]])∧PtV (Ok w.heap.size nv') w' x v∧Left bs A cap w0 rb nest nv w st' nv' w'
def GiveP (bs:List UInt8) (A:Option Addr) (cap:Nat) (w0:World) (rb nest:Nat) (nv:Value) (w:World) (r:Res Pt) (e:Ending) (w':World):Prop:=match r with
 | .error (c,pl)=>c≠0∧e=.returned (.tuple #[ptZ,.agg #[.int .i64 (c:Int),.int .i64 (pl:Int)]])∧∃ st' nv',Left bs A cap w0 rb nest nv w st' nv' w'
 | .ok (x,st')=>∃ v nv',e=.returned (.tuple #[v,.agg #[.int .i64 0,.int .i64 0]])∧PtV (Ok w.heap.size nv') w' x v∧Left bs A cap w0 rb nest nv w st' nv' w'
end
section
open Go.RowKit Mem
variable {w w':World} {nv v:Value} {lo rb:Nat} {x:Pt}
theorem PtV.lower {lo':Nat} (h:PtV (Ok lo nv) w x v) (hl:lo'≤lo):PtV (Ok lo' nv) w x v:=h.keep (Nat.le_refl _) fun k hk hP=>⟨rfl,Nat.le_trans hl hP.1,hP.2⟩
theorem PtV.grown {g:Nat} (h:PtV (Ok lo nv) w x v) (hg:w.grownBy w' (some g)) (hl:g<lo):PtV (Ok lo nv) w' x v:=h.keep hg.size fun k hk hP=>⟨hg.block k hk (fun e=>by injection e with e;have:=hP.1;omega),hP⟩
theorem PtV.below (h:PtV (Ok lo nv) w x v) (hb:Below w.heap.size w w'):PtV (Ok lo nv) w' x v:=h.keep hb.size fun k hk hP=>⟨hb.block k hk,hP⟩
theorem PtV.turn {nv':Value} (h:PtV (Ok lo nv) w x v) (ht:Turn rb nv.ownBlock w w') (hn:Nw w nv nv') (hr:rb<lo):PtV (Ok lo nv') w' x v:=h.keep ht.size (ht.keeps hn hr)
theorem own_lt {base e size n:Nat} {xs:List Value} (h:w.ownsRow base e size v n xs) {k:Nat} (hk:v.ownBlock=some k):base≤k∧k<w.heap.size:=by
 rcases h.2 with ⟨rfl,-⟩|⟨g,cap,cur,rfl,h1,h2,-⟩
 ·simp [Value.ownBlock] at hk
 ·simp [Value.ownBlock] at hk
  subst hk
  exact ⟨h1,(Array.getElem?_eq_some_iff.1 h2).1⟩
theorem Rd.nv_lt {bs:List UInt8} {A:Option Addr} {cap:Nat} {w0:World} {nest:Nat} {st:St} (h:Rd bs A cap w0 rb nest st nv w) {k:Nat} (hk:w.heap.size≤k):nv.ownBlock≠some k:=fun e=>by have:=(own_lt h.own e).2;omega
section
variable {bs:List UInt8} {A:Option Addr} {cap:Nat} {w0:World} {rb nest:Nat} {nv nv':Value} {w W:World} {st':St} {g:Nat} {cs:Array Value}
theorem Left.of_below {st:St} (h:Rd bs A cap w0 rb nest st nv w) (hb:Below w.heap.size w W):Left bs A cap w0 rb nest nv w st nv W:=⟨h.below hb,Turn.of_below hb,Nw.refl _ _⟩
theorem Left.below (h:Left bs A cap w0 rb nest nv w st' nv' W) {W':World} (hb:Below W.heap.size W W'):Left bs A cap w0 rb nest nv w st' nv' W':=⟨h.rd.below hb,h.turn.two (Turn.of_below (rb:=rb) (row:=nv'.ownBlock) hb) h.nw,h.nw⟩
theorem Left.then {nv1:Value} {st1:St} {W1:World} (h:Left bs A cap w0 rb nest nv w st1 nv1 W1) (k:Left bs A cap w0 rb nest nv1 W1 st' nv' W):Left bs A cap w0 rb nest nv w st' nv' W:=⟨k.rd,h.turn.two k.turn h.nw,h.nw.trans k.nw h.turn.size⟩
theorem Left.from {X:World} (hb:Below w.heap.size w X) (k:Left bs A cap w0 rb nest nv X st' nv' W):Left bs A cap w0 rb nest nv w st' nv' W:=⟨k.rd,(Turn.of_below (rb:=rb) (row:=nv.ownBlock) hb).two k.turn (Nw.refl _ _),(Nw.refl w nv).trans k.nw hb.size⟩
theorem Left.set11 (h:Left bs A cap w0 rb nest nv w st' nv' W) (hk:Blk W g 78 cs) (hl:w.heap.size≤g) (hr:rb<g) (hB:w0.heap.size≤g) (u0 u1 u2 u3 u4 u5 u6 u7 u8 u9 u10:Value):Left bs A cap w0 rb nest nv w st' nv' (((((((((((W.setCell ⟨g,0,none⟩ u0).setCell ⟨g,1,none⟩ u1).setCell ⟨g,2,none⟩ u2).setCell ⟨g,3,none⟩ u3).setCell ⟨g,4,none⟩ u4).setCell ⟨g,5,none⟩ u5).setCell ⟨g,6,none⟩ u6).setCell ⟨g,7,none⟩ u7).setCell ⟨g,8,none⟩ u8).setCell ⟨g,9,none⟩ u9).setCell ⟨g,10,none⟩ u10):=
 ⟨h.rd.grown (grow11 W g u0 u1 u2 u3 u4 u5 u6 u7 u8 u9 u10) hk (by decide) (by omega) hB,turnf11 h.turn hl u0 u1 u2 u3 u4 u5 u6 u7 u8 u9 u10,h.nw⟩
theorem Left.set2 (h:Left bs A cap w0 rb nest nv w st' nv' W) (hk:Blk W g 80 cs) (hl:w.heap.size≤g) (hr:rb<g) (hB:w0.heap.size≤g) (a b:Value):Left bs A cap w0 rb nest nv w st' nv' ((W.setCell ⟨g,0,none⟩ a).setCell ⟨g,1,none⟩ b):=
 ⟨h.rd.grown (grow2 W g a b) hk (by decide) (by omega) hB,turnf2 h.turn hl a b,h.nw⟩
theorem Left.rb_lt (h:Left bs A cap w0 rb nest nv w st' nv' W) (hw:rb<w.heap.size) (hg:w.heap.size≤g):rb<g∧w0.heap.size≤g:=⟨by omega,by have:=h.rd.above;omega⟩
theorem Left.set13 {g2:Nat} {cs2:Array Value} (h:Left bs A cap w0 rb nest nv w st' nv' W) (hk:Blk W g 78 cs) (hk2:Blk W g2 80 cs2) (hw:rb<w.heap.size) (hl:w.heap.size≤g) (hl2:w.heap.size≤g2) (hne:g2≠g) (u0 u1 u2 u3 u4 u5 u6 u7 u8 u9 u10 a b:Value):Left bs A cap w0 rb nest nv w st' nv' (((((((((((((W.setCell ⟨g,0,none⟩ u0).setCell ⟨g,1,none⟩ u1).setCell ⟨g,2,none⟩ u2).setCell ⟨g,3,none⟩ u3).setCell ⟨g,4,none⟩ u4).setCell ⟨g,5,none⟩ u5).setCell ⟨g,6,none⟩ u6).setCell ⟨g,7,none⟩ u7).setCell ⟨g,8,none⟩ u8).setCell ⟨g,9,none⟩ u9).setCell ⟨g,10,none⟩ u10).setCell ⟨g2,0,none⟩ a).setCell ⟨g2,1,none⟩ b):=
 (h.set11 hk hl (h.rb_lt hw hl).1 (h.rb_lt hw hl).2 u0 u1 u2 u3 u4 u5 u6 u7 u8 u9 u10).set2 (far11 hk2 hne u0 u1 u2 u3 u4 u5 u6 u7 u8 u9 u10) hl2 (h.rb_lt hw hl2).1 (h.rb_lt hw hl2).2 a b
theorem PtV.set13 {g2:Nat} (h:PtV (Ok lo nv) W x v) (hg:g<lo) (hg2:g2<lo) (u0 u1 u2 u3 u4 u5 u6 u7 u8 u9 u10 a b:Value):PtV (Ok lo nv) (((((((((((((W.setCell ⟨g,0,none⟩ u0).setCell ⟨g,1,none⟩ u1).setCell ⟨g,2,none⟩ u2).setCell ⟨g,3,none⟩ u3).setCell ⟨g,4,none⟩ u4).setCell ⟨g,5,none⟩ u5).setCell ⟨g,6,none⟩ u6).setCell ⟨g,7,none⟩ u7).setCell ⟨g,8,none⟩ u8).setCell ⟨g,9,none⟩ u9).setCell ⟨g,10,none⟩ u10).setCell ⟨g2,0,none⟩ a).setCell ⟨g2,1,none⟩ b) x v:=(h.grown (grow11 W g u0 u1 u2 u3 u4 u5 u6 u7 u8 u9 u10) hg).grown (grow2 _ g2 a b) hg2
end
theorem pro {bs:List UInt8} {A:Option Addr} {cap:Nat} {w0:World} {nest:Nat} {st:St} (h:Rd bs A cap w0 rb nest st nv w):Below w.heap.size w ((w.alloc (.cells pz 78)).alloc (.cells fz 80))∧Hd (RB bs A cap w0 rb nest st nv ((w.alloc (.cells pz 78)).alloc (.cells fz 80)) ((w.alloc (.cells pz 78)).alloc (.cells fz 80)))∧Hd (Blk ((w.alloc (.cells pz 78)).alloc (.cells fz 80)) w.heap.size 78 pz)∧Hd (Blk ((w.alloc (.cells pz 78)).alloc (.cells fz 80)) (w.heap.size+1) 80 fz)∧Hd (Below w.heap.size w ((w.alloc (.cells pz 78)).alloc (.cells fz 80)))∧Hd (Rd bs A cap w0 rb nest st nv w)∧rb<w.heap.size∧w0.heap.size≤rb:=by
 have hbb:Below w.heap.size w ((w.alloc (.cells pz 78)).alloc (.cells fz 80)):=((Below.refl _ w).alloc (Nat.le_refl _) _).alloc  (by simp) _
 exact ⟨hbb,hide ⟨h.below hbb,Below.refl _ _⟩,hide ((Blk.new w 78 pz).alloc (.cells fz 80)),hide (blk_at (W:=(w.alloc (.cells pz 78))) (g:=w.heap.size+1) (t:=80) (cs:=fz) (by simp)),hide hbb,hide h,h.blk.lt,h.above⟩
end
section
open Go.RowKit Mem
section
variable {bs:List UInt8} {A:Option Addr} {cap:Nat} {w0:World} {rb nest:Nat} {nv nv':Value} {w W X:World} {st st':St} {g g2:Nat} {cs cs2:Array Value}
theorem Left.blk {t:Nat} {st1:St} (hr:Rd bs A cap w0 rb nest st1 nv w) (h:Left bs A cap w0 rb nest nv w st' nv' W) (hk:Blk w g t cs) (ht:9≠t) (h1:g≠rb):Blk W g t cs:=
 (h.turn.block g hk.lt h1 (fun e=>own_blk_ne hr.own hk ht e.symm)).trans hk
theorem Turn.blk {t:Nat} (h:Turn rb none w W) (hk:Blk w g t cs) (h1:g≠rb):Blk W g t cs:=(h.block g hk.lt h1 (by simp)).trans hk
theorem Left.of_turn (hr:Rd bs A cap w0 rb nest st' nv W) (ht:Turn rb none w W):Left bs A cap w0 rb nest nv w st' nv W:=⟨hr,ht.more _,Nw.refl _ _⟩
theorem PtV.form {P:Nat→Prop} {x:Pt} {v:Value} (h:PtV P w x v):∃ (u0 u1 u2 u3 u4 u5 u6:Int) (s:List UInt8) (L:Option Addr) (ln lc:Nat) (K:Option Addr) (kn kc:Nat),v=.agg #[.int .i64 u0,.int .i64 u1,.int .i64 u2,.int .i64 u3,.int .i64 u4,.int .i64 u5,.int .i64 u6,.string ⟨s.toArray⟩,.slice L ln lc,.slice none 0 0,.slice K kn kc]∧u0=x.nd.kind∧u1=x.nd.from_∧u2=x.nd.to_:=by
 obtain ⟨L,lc,K,kc,rfl,-,-⟩:=h
 exact ⟨_,_,_,_,_,_,_,_,_,_,_,_,_,_,rfl,rfl,rfl,rfl⟩
theorem GiveA.form {r:Res (Pt×Bool)} {e:Ending} (h:GiveA bs A cap w0 rb nest nv w r e W):∃ (u0 u1 u2 u3 u4 u5 u6:Int) (s:List UInt8) (L:Option Addr) (ln lc:Nat) (K:Option Addr) (kn kc:Nat) (b:Bool) (c p:Int) (st':St) (nv':Value),
  e=.returned (.tuple #[.agg #[.int .i64 u0,.int .i64 u1,.int .i64 u2,.int .i64 u3,.int .i64 u4,.int .i64 u5,.int .i64 u6,.string ⟨s.toArray⟩,.slice L ln lc,.slice none 0 0,.slice K kn kc],.bool b,.agg #[.int .i64 c,.int .i64 p]])∧Left bs A cap w0 rb nest nv w st' nv' W:=by
 cases r with
 | error e=>
  obtain ⟨c,pl⟩:=e
  obtain ⟨-,h2,st',nv',h3⟩:=h
  exact ⟨0,0,0,0,0,0,0,[],none,0,0,none,0,0,false,c,pl,st',nv',h2,h3⟩
 | ok t=>
  obtain ⟨⟨x,may⟩,st'⟩:=t
  obtain ⟨v,nv',h1,h2,h3⟩:=h
  obtain ⟨u0,u1,u2,u3,u4,u5,u6,s,L,ln,lc,K,kn,kc,rfl,-⟩:=h2.form
  exact ⟨u0,u1,u2,u3,u4,u5,u6,s,L,ln,lc,K,kn,kc,may,0,0,st',nv',h1,h3⟩
theorem GiveP.form {r:Res Pt} {e:Ending} (h:GiveP bs A cap w0 rb nest nv w r e W):∃ (u0 u1 u2 u3 u4 u5 u6:Int) (s:List UInt8) (L:Option Addr) (ln lc:Nat) (K:Option Addr) (kn kc:Nat) (c p:Int) (st':St) (nv':Value),
  e=.returned (.tuple #[.agg #[.int .i64 u0,.int .i64 u1,.int .i64 u2,.int .i64 u3,.int .i64 u4,.int .i64 u5,.int .i64 u6,.string ⟨s.toArray⟩,.slice L ln lc,.slice none 0 0,.slice K kn kc],.agg #[.int .i64 c,.int .i64 p]])∧Left bs A cap w0 rb nest nv w st' nv' W:=by
 cases r with
 | error e=>
  obtain ⟨c,pl⟩:=e
  obtain ⟨-,h2,st',nv',h3⟩:=h
  exact ⟨0,0,0,0,0,0,0,[],none,0,0,none,0,0,c,pl,st',nv',h2,h3⟩
 | ok t=>
  obtain ⟨x,st'⟩:=t
  obtain ⟨v,nv',h1,h2,h3⟩:=h
  obtain ⟨u0,u1,u2,u3,u4,u5,u6,s,L,ln,lc,K,kn,kc,rfl,-⟩:=h2.form
  exact ⟨u0,u1,u2,u3,u4,u5,u6,s,L,ln,lc,K,kn,kc,0,0,st',nv',h1,h3⟩
theorem GiveA.on {r:Res (Pt×Bool)} {e:Ending} (hX:Below w.heap.size w X) (h:GiveA bs A cap w0 rb nest nv X r e W) (hk:Blk W g 78 cs) (hk2:Blk W g2 80 cs2) (hw:rb<w.heap.size) (hl:w.heap.size≤g) (hl2:w.heap.size≤g2) (hg:g<X.heap.size) (hg2:g2<X.heap.size) (hne:g2≠g) (u0 u1 u2 u3 u4 u5 u6 u7 u8 u9 u10 a b:Value) :
  GiveA bs A cap w0 rb nest nv w r e (((((((((((((W.setCell ⟨g,0,none⟩ u0).setCell ⟨g,1,none⟩ u1).setCell ⟨g,2,none⟩ u2).setCell ⟨g,3,none⟩ u3).setCell ⟨g,4,none⟩ u4).setCell ⟨g,5,none⟩ u5).setCell ⟨g,6,none⟩ u6).setCell ⟨g,7,none⟩ u7).setCell ⟨g,8,none⟩ u8).setCell ⟨g,9,none⟩ u9).setCell ⟨g,10,none⟩ u10).setCell ⟨g2,0,none⟩ a).setCell ⟨g2,1,none⟩ b):=by
 cases r with
 | error e=>
  obtain ⟨c,pl⟩:=e
  obtain ⟨h1,h2,st',nv',h3⟩:=h
  exact ⟨h1,h2,st',nv',(Left.from hX h3).set13 hk hk2 hw hl hl2 hne u0 u1 u2 u3 u4 u5 u6 u7 u8 u9 u10 a b⟩
 | ok t=>
  obtain ⟨⟨x,may⟩,st'⟩:=t
  obtain ⟨v,nv',h1,h2,h3⟩:=h
  exact ⟨v,nv',h1,(h2.set13 hg hg2 u0 u1 u2 u3 u4 u5 u6 u7 u8 u9 u10 a b).lower hX.size,(Left.from hX h3).set13 hk hk2 hw hl hl2 hne u0 u1 u2 u3 u4 u5 u6 u7 u8 u9 u10 a b⟩
theorem GiveP.on {r:Res Pt} {e:Ending} (hX:Below w.heap.size w X) (h:GiveP bs A cap w0 rb nest nv X r e W) (hk:Blk W g 78 cs) (hk2:Blk W g2 80 cs2) (hw:rb<w.heap.size) (hl:w.heap.size≤g) (hl2:w.heap.size≤g2) (hg:g<X.heap.size) (hg2:g2<X.heap.size) (hne:g2≠g) (u0 u1 u2 u3 u4 u5 u6 u7 u8 u9 u10 a b:Value) :
  GiveP bs A cap w0 rb nest nv w r e (((((((((((((W.setCell ⟨g,0,none⟩ u0).setCell ⟨g,1,none⟩ u1).setCell ⟨g,2,none⟩ u2).setCell ⟨g,3,none⟩ u3).setCell ⟨g,4,none⟩ u4).setCell ⟨g,5,none⟩ u5).setCell ⟨g,6,none⟩ u6).setCell ⟨g,7,none⟩ u7).setCell ⟨g,8,none⟩ u8).setCell ⟨g,9,none⟩ u9).setCell ⟨g,10,none⟩ u10).setCell ⟨g2,0,none⟩ a).setCell ⟨g2,1,none⟩ b):=by
 cases r with
 | error e=>
  obtain ⟨c,pl⟩:=e
  obtain ⟨h1,h2,st',nv',h3⟩:=h
  exact ⟨h1,h2,st',nv',(Left.from hX h3).set13 hk hk2 hw hl hl2 hne u0 u1 u2 u3 u4 u5 u6 u7 u8 u9 u10 a b⟩
 | ok t=>
  obtain ⟨x,st'⟩:=t
  obtain ⟨v,nv',h1,h2,h3⟩:=h
  exact ⟨v,nv',h1,(h2.set13 hg hg2 u0 u1 u2 u3 u4 u5 u6 u7 u8 u9 u10 a b).lower hX.size,(Left.from hX h3).set13 hk hk2 hw hl hl2 hne u0 u1 u2 u3 u4 u5 u6 u7 u8 u9 u10 a b⟩
theorem blk13 (hk:Blk W g 78 cs) (hk2:Blk W g2 80 cs2) (hne:g2≠g) (h11:cs.size=11) (h2:cs2.size=2) (u0 u1 u2 u3 u4 u5 u6 u7 u8 u9 u10 a b:Value) :
  Blk (((((((((((((W.setCell ⟨g,0,none⟩ u0).setCell ⟨g,1,none⟩ u1).setCell ⟨g,2,none⟩ u2).setCell ⟨g,3,none⟩ u3).setCell ⟨g,4,none⟩ u4).setCell ⟨g,5,none⟩ u5).setCell ⟨g,6,none⟩ u6).setCell ⟨g,7,none⟩ u7).setCell ⟨g,8,none⟩ u8).setCell ⟨g,9,none⟩ u9).setCell ⟨g,10,none⟩ u10).setCell ⟨g2,0,none⟩ a).setCell ⟨g2,1,none⟩ b) g 78 #[u0,u1,u2,u3,u4,u5,u6,u7,u8,u9,u10]∧Blk (((((((((((((W.setCell ⟨g,0,none⟩ u0).setCell ⟨g,1,none⟩ u1).setCell ⟨g,2,none⟩ u2).setCell ⟨g,3,none⟩ u3).setCell ⟨g,4,none⟩ u4).setCell ⟨g,5,none⟩ u5).setCell ⟨g,6,none⟩ u6).setCell ⟨g,7,none⟩ u7).setCell ⟨g,8,none⟩ u8).setCell ⟨g,9,none⟩ u9).setCell ⟨g,10,none⟩ u10).setCell ⟨g2,0,none⟩ a).setCell ⟨g2,1,none⟩ b) g2 80 #[a,b]:=by
 obtain ⟨v0,v1,v2,v3,v4,v5,v6,v7,v8,v9,v10,rfl⟩:∃ v0 v1 v2 v3 v4 v5 v6 v7 v8 v9 v10,cs=#[v0,v1,v2,v3,v4,v5,v6,v7,v8,v9,v10]:=by
  obtain ⟨l⟩:=cs
  match l,h11 with
  | [v0,v1,v2,v3,v4,v5,v6,v7,v8,v9,v10],_=>exact ⟨v0,v1,v2,v3,v4,v5,v6,v7,v8,v9,v10,rfl⟩
 obtain ⟨v0',v1',rfl⟩:∃ v0 v1,cs2=#[v0,v1]:=by
  obtain ⟨l⟩:=cs2
  match l,h2 with
  | [v0,v1],_=>exact ⟨v0,v1,rfl⟩
 exact ⟨far2 (set11 hk u0 u1 u2 u3 u4 u5 u6 u7 u8 u9 u10) (fun e=>hne e.symm) a b,set2 (far11 hk2 hne u0 u1 u2 u3 u4 u5 u6 u7 u8 u9 u10) a b⟩
end
theorem rctc {fn:Func} {p u x:Tmp} (h:fn.results=#[.cell p 78,.tmp u,.cell x 80]) {tmps:Array Value} {w:World} (g g2:Nat) (v:Value) {u0 u1 u2 u3 u4 u5 u6 u7 u8 u9 u10 a b:Value} (hp:tmps.getD p undef=.pointer (some ⟨g,0,none⟩)) (hv:tmps.getD u undef=v) (hx:tmps.getD x undef=.pointer (some ⟨g2,0,none⟩)) (hg:Blk w g 78 #[u0,u1,u2,u3,u4,u5,u6,u7,u8,u9,u10]∧Blk w g2 80 #[a,b]):(results fn tmps).run Tryz.prog w=.ok (.tuple #[.agg #[u0,u1,u2,u3,u4,u5,u6,u7,u8,u9,u10],v,.agg #[a,b]]) w:=
 results_ctc h _ _ g g2 _ _ _ _ v hp hv hx hg.1 hg.2 Tryz.underlying78 rfl (by kernel_rfl) Tryz.underlying80 rfl (by kernel_rfl)
end
end Go.Proofs.YtmlbklcmblofkaaGreatDoor.Pa
