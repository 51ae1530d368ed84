/-
  Nodes and names in rows of the call's own lie as a tree's.
-/
import Derived.Test.YtmlbklcmblofkaaGreatDoorMPaI
set_option linter.unusedSimpArgs false
set_option linter.unusedVariables false
namespace Go.Proofs.YtmlbklcmblofkaaGreatDoor.Pa
section
open Go.RowKit Mem
theorem F.app_size (x:Pt):∀ l:F,(l.app x).size=l.size+(1+x.kids.size)
 | .nil=>by show 1+x.kids.size+0=0+(1+x.kids.size);omega
 | .cons nd ks r=>by
  show 1+ks.size+(r.app x).size=1+ks.size+r.size+(1+x.kids.size)
  rw [F.app_size x r];omega
theorem F.app_idx (x:Pt):∀ (l:F) (i:Nat),(l.app x).idx i=l.idx i++[((i+l.size:Nat):Int)]
 | .nil,i=>by show [(i:Int)]=[((i+0:Nat):Int)];rfl
 | .cons nd ks r,i=>by
  show (i:Int) :: (r.app x).idx (i+1+ks.size)=(i:Int) :: (r.idx (i+1+ks.size)++[((i+(1+ks.size+r.size):Nat):Int)])
  rw [F.app_idx x r,show i+1+ks.size+r.size=i+(1+ks.size+r.size) by omega]
theorem layF_one (names:List (List UInt8)) (x:Pt) (i:Nat):layF names (.one x) i={ fixN names x.nd with kids:=x.kids.idx (i+1) } :: layF names x.kids (i+1):=by
 show { fixN names x.nd with kids:=x.kids.idx (i+1) } :: (layF names x.kids (i+1)++layF names .nil (i+1+x.kids.size))=_
 rw [show layF names .nil (i+1+x.kids.size)=[] from rfl,List.append_nil]
theorem layF_app (names:List (List UInt8)) (x:Pt):∀ (l:F) (i:Nat),layF names (l.app x) i=layF names l i++layF names (.one x) (i+l.size)
 | .nil,i=>by show layF names (.one x) i=[]++layF names (.one x) (i+0);rfl
 | .cons nd ks r,i=>by
  show { fixN names nd with kids:=ks.idx (i+1) } :: (layF names ks (i+1)++layF names (r.app x) (i+1+ks.size))=({ fixN names nd with kids:=ks.idx (i+1) } :: (layF names ks (i+1)++layF names r (i+1+ks.size)))++layF names (.one x) (i+(1+ks.size+r.size))
  rw [layF_app names x r,show i+1+ks.size+r.size=i+(1+ks.size+r.size) by omega,List.cons_append,List.append_assoc]
theorem layF_size (names:List (List UInt8)):∀ (l:F) (i:Nat),(layF names l i).length=l.size
 | .nil,i=>rfl
 | .cons nd ks r,i=>by
  show (layF names ks (i+1)++layF names r (i+1+ks.size)).length+1=1+ks.size+r.size
  rw [List.length_append,layF_size names ks,layF_size names r];omega
theorem F.idx_len:∀ (l:F) (i:Nat),(l.idx i).length=l.len
 | .nil,i=>rfl
 | .cons nd ks r,i=>by show (r.idx (i+1+ks.size)).length+1=r.len+1;rw [F.idx_len r]
def F.at:F→Nat→Option Pt
 | .nil,_=>none
 | .cons nd ks _,0=>some ⟨nd,ks⟩
 | .cons _ _ r,j+1=>r.at j
def F.take:Nat→F→F
 | 0,_=>.nil
 | _+1,.nil=>.nil
 | j+1,.cons nd ks r=>.cons nd ks (r.take j)
theorem F.at_some:∀ (l:F) (j:Nat),j<l.len→∃ x,l.at j=some x
 | .nil,j,h=>absurd h (by simp [F.len])
 | .cons nd ks r,0,h=>⟨_,rfl⟩
 | .cons nd ks r,j+1,h=>F.at_some r j (by have:j+1<r.len+1:=h;omega)
theorem F.take_next:∀ (l:F) (j:Nat) (x:Pt),l.at j=some x→l.take (j+1)=(l.take j).app x
 | .nil,j,x,h=>by cases h
 | .cons nd ks r,0,x,h=>by
  have e:(⟨nd,ks⟩:Pt)=x:=Option.some.inj h
  subst e
  show F.cons nd ks (r.take 0)=F.one ⟨nd,ks⟩
  cases r<;>rfl
 | .cons nd ks r,j+1,x,h=>by
  show F.cons nd ks (r.take (j+1))=F.cons nd ks ((r.take j).app x)
  rw [F.take_next r j x h]
theorem F.take_all:∀ l:F,l.take l.len=l
 | .nil=>rfl
 | .cons nd ks r=>by show F.cons nd ks (r.take r.len)=_;rw [F.take_all r]
theorem F.take_len:∀ (l:F) (j:Nat),j≤l.len→(l.take j).len=j
 | l,0,h=>by cases l<;>rfl
 | .nil,j+1,h=>absurd h (by simp [F.len])
 | .cons nd ks r,j+1,h=>by show (r.take j).len+1=j+1;rw [F.take_len r j (by have:j+1≤r.len+1:=h;omega)]
theorem F.at_size:∀ (l:F) (j:Nat) (x:Pt),l.at j=some x→1+x.kids.size≤l.size
 | .nil,j,x,h=>by cases h
 | .cons nd ks r,0,x,h=>by
  have e:(⟨nd,ks⟩:Pt)=x:=Option.some.inj h
  subst e
  show 1+ks.size≤1+ks.size+r.size
  omega
 | .cons nd ks r,j+1,x,h=>by
  have:=F.at_size r j x h
  show 1+x.kids.size≤1+ks.size+r.size
  omega
theorem F.take_size:∀ (l:F) (j:Nat),(l.take j).size≤l.size
 | l,0=>by cases l<;>exact Nat.zero_le _
 | .nil,j+1=>Nat.le_refl _
 | .cons nd ks r,j+1=>by have:=F.take_size r j;show 1+ks.size+(r.take j).size≤1+ks.size+r.size;omega
theorem Row.at {P:Nat→Prop} {w:World} {b:Nat}:∀ {l:F} {o j:Nat} {x:Pt},Row P w l b o→l.at j=some x→∃ L lc K kc,At w b (o+j*11) (ptN x.nd L lc K x.kids.len kc)∧SetV P x.nd.set L lc w∧KV P w x.kids K kc
 | .nil,o,j,x,h,hx=>by cases hx
 | .cons nd ks r,o,0,x,h,hx=>by
  have e:(⟨nd,ks⟩:Pt)=x:=Option.some.inj hx
  subst e
  obtain ⟨⟨L,lc,K,kc,h1,h2,h3⟩,-⟩:=h
  exact ⟨L,lc,K,kc,by rw [Nat.zero_mul,Nat.add_zero];exact h1,h2,h3⟩
 | .cons nd ks r,o,j+1,x,h,hx=>by
  obtain ⟨L,lc,K,kc,h1,h2⟩:=Row.at h.2 hx
  exact ⟨L,lc,K,kc,by rw [show o+(j+1)*11=o+11+j*11 by omega];exact h1,h2⟩
end
section
open Go.RowKit Mem
open Sy (g)
attribute [local go_sem] build_pz build_fl build_f0
theorem info_pt:(Tryz.prog.info? 78).map (fun i=>(i.zero,i.size,i.bytes))=some (some (.agg #[.int .i64 0,.int .i64 0,.int .i64 0,.int .i64 0,.int .i64 0,.int .i64 0,.int .i64 0,.string ⟨#[]⟩,.slice none 0 0,.slice none 0 0,.slice none 0 0]),11,144):=by kernel_rfl
theorem own_two_ne {W:World} {base base' e e' size size' n n':Nat} {v v':Value} {xs xs':List Value} (h:W.ownsRow base e size v n xs) (h':W.ownsRow base' e' size' v' n' xs') (hne:e≠e'):v.ownBlock=none∨v.ownBlock≠v'.ownBlock:=by
 rcases h.2 with ⟨rfl,_⟩|⟨g,cap,cur,rfl,_,hh,_⟩
 ·exact .inl (by simp [Value.ownBlock])
 ·right
  rcases h'.2 with ⟨rfl,_⟩|⟨g',cap',cur',rfl,_,hh',_⟩
  ·simp [Value.ownBlock]
  ·intro e1
   have:g=g':=by simpa [Value.ownBlock] using e1
   subst this
   rw [hh] at hh'
   simp at hh'
   exact hne hh'.2
structure AppW (W W':World) (v:Value):Prop where
 os:W'.os=W.os
 tape:W'.tape=W.tape
 output:W'.output=W.output
 size:W.heap.size≤W'.heap.size
 block:∀ k,k<W.heap.size→v.ownBlock≠some k→W'.heap[k]?=W.heap[k]?
theorem wp_app_pt {ops:Array Oper} {rest:List Oper} {o:Oper} {a:Act} {Q:Exit→Act→World→Prop} {W:World} {C:Array Value} {so sn:Tmp} {g base n:Nat} {v:Value} {xs:List Value}
  (hC:C.size=11) (h1:∀ u∈C.toList,u.oneCell'=true) (hgd:o.guard=none) (ho:o.op=.call { callee:=.builtin .append,args:=#[.tmp so,.tmp sn],argTypes:=#[76,76] }) (hs:a.eval (.tmp so)=v) (hx:a.eval (.tmp sn)=.slice (some ⟨g,0,none⟩) 1 1) (hg:g=W.heap.size)
  (hown:W.ownsRow base 78 11 v n xs) (hb:base≤W.heap.size) (hl:n≤5000)
  (h:∀ v' w',(∃ g5 c5,v'=.slice (some ⟨g5,0,none⟩) (n+1) c5)→w'.ownsRow base 78 11 v' (n+1) (xs++C.toList)→AppW W w' v→(v'.ownBlock=v.ownBlock∨∃ j,v'.ownBlock=some j∧W.heap.size≤j)→wpList Tryz.prog ops Q rest (a.put o.dst v') w'):wpList Tryz.prog ops Q (o :: rest) a (W.alloc (.cells C 78)):=by
 subst hg
 obtain ⟨i0,hi0,hz0,hz1,hz2⟩:=info_parts info_pt
 refine wpList_append_any _ hgd (.tmp so) (.tmp sn) 76 ho base 78 i0 (.agg #[.int .i64 0,.int .i64 0,.int .i64 0,.int .i64 0,.int .i64 0,.int .i64 0,.int .i64 0,.string ⟨#[]⟩,.slice none 0 0,.slice none 0 0,.slice none 0 0]) 11 144 Tryz.underlying76 hi0 hz0 hz1 hz2 rfl (by decide) v n xs hs (hown.alloc _) (W.heap.size+1) (some ⟨W.heap.size,0,none⟩) 1 1 C.toList hx (Rs.reads_at rfl C 78 1 11 (by rw [hC])) h1 (by unfold maxLen;omega) (by omega) (by rw [World.size_alloc];omega) ?_
 intro v' w' ho' hg' hn'
 refine h v' w' ?_ ho' ⟨hg'.os,hg'.tape,hg'.output,by have:=hg'.size;rw [World.size_alloc] at this;omega,fun k hk hn=>?_⟩ ?_
 ·rcases ho'.2 with ⟨-,h2⟩|⟨b,c,cur,e,-⟩
  ·omega
  ·exact ⟨b,c,e⟩
 ·exact (hg'.block k (by rw [World.size_alloc];omega) (fun e=>hn e.symm)).trans (((Below.refl W.heap.size W).alloc (Nat.le_refl _) _).block k hk)
 ·rcases hn' with e|e
  ·exact .inl e
  ·exact .inr ⟨_,e,by rw [World.size_alloc];omega⟩
section
variable {bs:List UInt8} {A:Option Addr} {cap:Nat} {w0:World} {rb nest base n:Nat} {st st':St} {nv nv' v:Value} {w W W':World} {xs:List Value}
theorem Rd.app (h:Rd bs A cap w0 rb nest st nv W) (ha:AppW W W' v) (ho:W.ownsRow base 78 11 v n xs) (hrb:rb<base):Rd bs A cap w0 rb nest st nv W':=by
 have hvb:∀ k,v.ownBlock=some k→base≤k:=fun k e=>(own_lt ho e).1
 have hab:=h.above
 have hnr:=own_two_ne ho h.own (by decide)
 refine { h with blk:=(ha.block rb h.blk.lt (fun e=>by have:=hvb rb e;omega)).trans h.blk,base:=h.base.trans ⟨ha.os,ha.tape,ha.output,ha.size,fun k hk=>ha.block k (Nat.lt_of_lt_of_le hk h.base.size) (fun e=>by have:=hvb k e;omega)⟩,own:=?_ }
 refine ⟨h.own.1,?_⟩
 rcases h.own.2 with h2|⟨b,c,cur,e,h1,h2,h3⟩
 ·exact .inl h2
 ·have hlt:b<W.heap.size:=(Array.getElem?_eq_some_iff.1 h2).1
  refine .inr ⟨b,c,cur,e,h1,(ha.block b hlt ?_).trans h2,h3⟩
  intro e2
  rcases hnr with hq|hq
  ·rw [hq] at e2;cases e2
  ·exact hq (by rw [e2,e];rfl)
theorem Left.app (h:Left bs A cap w0 rb nest nv w st' nv' W) (ha:AppW W W' v) (ho:W.ownsRow base 78 11 v n xs) (hw:w.heap.size≤base) (hrb:rb<base):Left bs A cap w0 rb nest nv w st' nv' W':=
 ⟨h.rd.app ha ho hrb,⟨ha.os.trans h.turn.os,ha.tape.trans h.turn.tape,ha.output.trans h.turn.output,Nat.le_trans h.turn.size ha.size,fun k hk h1 h2=>(ha.block k (Nat.lt_of_lt_of_le hk h.turn.size) (fun e=>by have:=(own_lt ho e).1;omega)).trans (h.turn.block k hk h1 h2)⟩,h.nw⟩
theorem AppW.blk {g t:Nat} {cs:Array Value} (ha:AppW W W' v) (ho:W.ownsRow base 78 11 v n xs) (hk:Blk W g t cs) (hg:g<base):Blk W' g t cs:=(ha.block g hk.lt (fun e=>by have:=(own_lt ho e).1;omega)).trans hk
def PP (lo:Nat) (nv v:Value) (k:Nat):Prop:=Ok lo nv k∧v.ownBlock≠some k
theorem RL.app {F:F} {x:Pt} {C:Array Value} {lo:Nat} {v':Value} (hr:RL (PP lo nv v) W F xs) (hx:PtV (PP lo nv v) W x (.agg C)) (ha:AppW W W' v) (hv:v'.ownBlock=v.ownBlock∨∃ j,v'.ownBlock=some j∧W.heap.size≤j):RL (PP lo nv v') W' (F.app x) (xs++C.toList):=by
 have hk:∀ k,k<W.heap.size→PP lo nv v k→W'.heap[k]?=W.heap[k]?∧PP lo nv v' k:=fun k hk hP=>⟨ha.block k hk hP.2,hP.1,fun e=>by
  rcases hv with e2|⟨j,e2,hj⟩
  ·exact hP.2 (e2 ▸ e)
  ·rw [e2] at e;injection e with e;omega⟩
 obtain ⟨L,lc,K,kc,hv2,h2,h3⟩:=hx.keep ha.size hk
 injection hv2 with hv2
 subst hv2
 exact RL.snoc h2 h3 (RL.keep ha.size hk hr)
end
end
section
open Go.RowKit Mem
open Sy (g)
attribute [local go_sem] build_pz build_fl build_f0
theorem info_nd:(Tryz.prog.info? 49).map (fun i=>(i.zero,i.size,i.bytes))=some (some (.agg #[.int .i64 0,.int .i64 0,.int .i64 0,.int .i64 0,.int .i64 0,.int .i64 0,.int .i64 0,.string ⟨#[]⟩,.slice none 0 0,.slice none 0 0]),10,120):=by kernel_rfl
theorem wp_app_nd {ops:Array Oper} {rest:List Oper} {o:Oper} {a:Act} {Q:Exit→Act→World→Prop} {W:World} {C:Array Value} {so sn:Tmp} {g base n:Nat} {v:Value} {xs:List Value}
  (hC:C.size=10) (h1:∀ u∈C.toList,u.oneCell'=true) (hgd:o.guard=none) (ho:o.op=.call { callee:=.builtin .append,args:=#[.tmp so,.tmp sn],argTypes:=#[22,22] }) (hs:a.eval (.tmp so)=v) (hx:a.eval (.tmp sn)=.slice (some ⟨g,0,none⟩) 1 1) (hg:g=W.heap.size)
  (hown:W.ownsRow base 49 10 v n xs) (hb:base≤W.heap.size) (hl:n≤100000)
  (h:∀ v' w',(∃ g5 c5,v'=.slice (some ⟨g5,0,none⟩) (n+1) c5)→w'.ownsRow base 49 10 v' (n+1) (xs++C.toList)→AppW W w' v→(v'.ownBlock=v.ownBlock∨∃ j,v'.ownBlock=some j∧W.heap.size≤j)→wpList Tryz.prog ops Q rest (a.put o.dst v') w'):wpList Tryz.prog ops Q (o :: rest) a (W.alloc (.cells C 49)):=by
 subst hg
 obtain ⟨i0,hi0,hz0,hz1,hz2⟩:=info_parts info_nd
 refine wpList_append_any _ hgd (.tmp so) (.tmp sn) 22 ho base 49 i0 (.agg #[.int .i64 0,.int .i64 0,.int .i64 0,.int .i64 0,.int .i64 0,.int .i64 0,.int .i64 0,.string ⟨#[]⟩,.slice none 0 0,.slice none 0 0]) 10 120 Tryz.underlying22 hi0 hz0 hz1 hz2 rfl (by decide) v n xs hs (hown.alloc _) (W.heap.size+1) (some ⟨W.heap.size,0,none⟩) 1 1 C.toList hx (Rs.reads_at rfl C 49 1 10 (by rw [hC])) h1 (by unfold maxLen;omega) (by omega) (by rw [World.size_alloc];omega) ?_
 intro v' w' ho' hg' hn'
 refine h v' w' ?_ ho' ⟨hg'.os,hg'.tape,hg'.output,by have:=hg'.size;rw [World.size_alloc] at this;omega,fun k hk hn=>?_⟩ ?_
 ·rcases ho'.2 with ⟨-,h2⟩|⟨b,c,cur,e,-⟩
  ·omega
  ·exact ⟨b,c,e⟩
 ·exact (hg'.block k (by rw [World.size_alloc];omega) (fun e=>hn e.symm)).trans (((Below.refl W.heap.size W).alloc (Nat.le_refl _) _).block k hk)
 ·rcases hn' with e|e
  ·exact .inl e
  ·exact .inr ⟨_,e,by rw [World.size_alloc];omega⟩
theorem info_ki:(Tryz.prog.info? 3).map (fun i=>(i.zero,i.size,i.bytes))=some (some (.int .i64 0),1,8):=by kernel_rfl
theorem wp_app_ki {ops:Array Oper} {rest:List Oper} {o:Oper} {a:Act} {Q:Exit→Act→World→Prop} {W:World} {C:Array Value} {so sn:Tmp} {g base n:Nat} {v:Value} {xs:List Value}
  (hC:C.size=1) (h1:∀ u∈C.toList,u.oneCell'=true) (hgd:o.guard=none) (ho:o.op=.call { callee:=.builtin .append,args:=#[.tmp so,.tmp sn],argTypes:=#[47,47] }) (hs:a.eval (.tmp so)=v) (hx:a.eval (.tmp sn)=.slice (some ⟨g,0,none⟩) 1 1) (hg:g=W.heap.size)
  (hown:W.ownsRow base 3 1 v n xs) (hb:base≤W.heap.size) (hl:n≤100000)
  (h:∀ v' w',(∃ g5 c5,v'=.slice (some ⟨g5,0,none⟩) (n+1) c5)→w'.ownsRow base 3 1 v' (n+1) (xs++C.toList)→AppW W w' v→(v'.ownBlock=v.ownBlock∨∃ j,v'.ownBlock=some j∧W.heap.size≤j)→wpList Tryz.prog ops Q rest (a.put o.dst v') w'):wpList Tryz.prog ops Q (o :: rest) a (W.alloc (.cells C 3)):=by
 subst hg
 obtain ⟨i0,hi0,hz0,hz1,hz2⟩:=info_parts info_ki
 refine wpList_append_any _ hgd (.tmp so) (.tmp sn) 47 ho base 3 i0 (.int .i64 0) 1 8 Tryz.underlying47 hi0 hz0 hz1 hz2 rfl (by decide) v n xs hs (hown.alloc _) (W.heap.size+1) (some ⟨W.heap.size,0,none⟩) 1 1 C.toList hx (Rs.reads_at rfl C 3 1 1 (by rw [hC])) h1 (by unfold maxLen;omega) (by omega) (by rw [World.size_alloc];omega) ?_
 intro v' w' ho' hg' hn'
 refine h v' w' ?_ ho' ⟨hg'.os,hg'.tape,hg'.output,by have:=hg'.size;rw [World.size_alloc] at this;omega,fun k hk hn=>?_⟩ ?_
 ·rcases ho'.2 with ⟨-,h2⟩|⟨b,c,cur,e,-⟩
  ·omega
  ·exact ⟨b,c,e⟩
 ·exact (hg'.block k (by rw [World.size_alloc];omega) (fun e=>hn e.symm)).trans (((Below.refl W.heap.size W).alloc (Nat.le_refl _) _).block k hk)
 ·rcases hn' with e|e
  ·exact .inl e
  ·exact .inr ⟨_,e,by rw [World.size_alloc];omega⟩
end
section
open Go.RowKit Mem
open As (Nd)
variable {base:Nat} {xs:List Value}
def ndC (nd:Nd) (L:Option Addr) (lc:Nat) (kv:Value):Array Value:=#[.int .i64 nd.kind,.int .i64 nd.from_,.int .i64 nd.to_,.int .i64 nd.num,.int .i64 nd.mn,.int .i64 nd.mx,.int .i64 nd.mode,.string ⟨nd.name.toArray⟩,.slice L nd.set.length lc,kv]
theorem ndC_len (nd:Nd) (L:Option Addr) (lc:Nat) (kv:Value):(ndC nd L lc kv).toList.length=10:=rfl
def NL (P:Nat→Prop) (base:Nat) (w:World):List Nd→List Value→List (Option Nat)→Prop
 | [],xs,kb=>xs=[]∧kb=[]
 | nd :: l,xs,kb=>∃ L lc kv xs' kb',xs=(ndC nd L lc kv).toList++xs'∧kb=kv.ownBlock :: kb'∧SetV P nd.set L lc w∧w.ownsRow base 3 1 kv nd.kids.length (nd.kids.map Mem.i64)∧NL P base w l xs' kb'
theorem NL.len {P:Nat→Prop} {base:Nat} {w:World}:∀ {l:List Nd} {xs:List Value} {kb:List (Option Nat)},NL P base w l xs kb→xs.length=l.length*10∧kb.length=l.length
 | [],xs,kb,h=>by rw [h.1,h.2];exact ⟨rfl,rfl⟩
 | nd :: l,xs,kb,h=>by
  obtain ⟨L,lc,kv,xs',kb',rfl,rfl,-,-,h5⟩:=h
  have:=NL.len h5
  rw [List.length_append,ndC_len,List.length_cons,List.length_cons]
  omega
theorem NL.app {P:Nat→Prop} {base:Nat} {w:World} {nd:Nd} {L:Option Addr} {lc:Nat} {kv:Value} (hs:SetV P nd.set L lc w) (hk:w.ownsRow base 3 1 kv nd.kids.length (nd.kids.map Mem.i64)):∀ {l:List Nd} {xs:List Value} {kb:List (Option Nat)},NL P base w l xs kb→NL P base w (l++[nd]) (xs++(ndC nd L lc kv).toList) (kb++[kv.ownBlock])
 | [],xs,kb,h=>by
  rw [h.1,h.2]
  exact ⟨L,lc,kv,[],[],by simp,rfl,hs,hk,rfl,rfl⟩
 | a :: l,xs,kb,h=>by
  obtain ⟨L',lc',kv',xs',kb',rfl,rfl,h3,h4,h5⟩:=h
  exact ⟨L',lc',kv',xs'++(ndC nd L lc kv).toList,kb'++[kv.ownBlock],by rw [List.append_assoc],rfl,h3,h4,NL.app hs hk h5⟩
theorem NL.keep {P Q:Nat→Prop} {base:Nat} {w w':World} (hs:w.heap.size≤w'.heap.size) (hp:∀ k,k<w.heap.size→P k→w'.heap[k]?=w.heap[k]?∧Q k):∀ {l:List Nd} {xs:List Value} {kb:List (Option Nat)},(∀ k,some k∈kb→w'.heap[k]?=w.heap[k]?)→NL P base w l xs kb→NL Q base w' l xs kb
 | [],xs,kb,_,h=>h
 | a :: l,xs,kb,hk,h=>by
  obtain ⟨L',lc',kv',xs',kb',rfl,rfl,h3,h4,h5⟩:=h
  refine ⟨L',lc',kv',xs',kb',rfl,rfl,h3.keep hs hp,?_,NL.keep hs hp (fun k hm=>hk k (List.mem_cons_of_mem _ hm)) h5⟩
  refine ⟨h4.1,?_⟩
  rcases h4.2 with h6|⟨b,c,cur,e,p1,p2,p3⟩
  ·exact .inl h6
  ·exact .inr ⟨b,c,cur,e,p1,(hk b (by rw [e];exact List.mem_cons_self)).trans p2,p3⟩
theorem NL.split {P:Nat→Prop} {base:Nat} {w:World} {nd:Nd} {l2:List Nd}:∀ {l1:List Nd} {xs:List Value} {kb:List (Option Nat)},NL P base w (l1++nd :: l2) xs kb→∃ L lc kv xs1 xs2 kb1 kb2,xs=xs1++((ndC nd L lc kv).toList++xs2)∧kb=kb1++kv.ownBlock :: kb2∧NL P base w l1 xs1 kb1∧SetV P nd.set L lc w∧w.ownsRow base 3 1 kv nd.kids.length (nd.kids.map Mem.i64)∧NL P base w l2 xs2 kb2
 | [],xs,kb,h=>by
  obtain ⟨L',lc',kv',xs',kb',rfl,rfl,h3,h4,h5⟩:=h
  exact ⟨L',lc',kv',[],xs',[],kb',rfl,rfl,⟨rfl,rfl⟩,h3,h4,h5⟩
 | a :: l1,xs,kb,h=>by
  obtain ⟨L',lc',kv',xs',kb',rfl,rfl,h3,h4,h5⟩:=h
  obtain ⟨L,lc,kv,xs1,xs2,kb1,kb2,rfl,rfl,g1,g2,g3,g4⟩:=NL.split h5
  exact ⟨L,lc,kv,(ndC a L' lc' kv').toList++xs1,xs2,kv'.ownBlock :: kb1,kb2,by rw [List.append_assoc],rfl,⟨L',lc',kv',xs1,kb1,rfl,rfl,h3,h4,g1⟩,g2,g3,g4⟩
theorem NL.join {P:Nat→Prop} {base:Nat} {w:World} {l2:List Nd} {xs2:List Value} {kb2:List (Option Nat)} (h2:NL P base w l2 xs2 kb2):∀ {l1:List Nd} {xs1:List Value} {kb1:List (Option Nat)},NL P base w l1 xs1 kb1→NL P base w (l1++l2) (xs1++xs2) (kb1++kb2)
 | [],xs1,kb1,h=>by rw [h.1,h.2];exact h2
 | a :: l1,xs1,kb1,h=>by
  obtain ⟨L',lc',kv',xs',kb',rfl,rfl,h3,h4,h5⟩:=h
  exact ⟨L',lc',kv',xs'++xs2,kb'++kb2,by rw [List.append_assoc],rfl,h3,h4,NL.join h2 h5⟩
theorem own_cellsG {W:World} {e size n:Nat} {v:Value} (ho:W.ownsRow base e size v n xs) (hn:0<n):∃ b c,v=.slice (some ⟨b,0,none⟩) n c∧b<W.heap.size∧base≤b∧n≤c∧c≤maxLen∧∀ j u,xs[j]?=some u→W.cell? ⟨b,j,none⟩=some u∧W.frozen? ⟨b,j,none⟩=false:=by
 rcases ho.2 with ⟨-,h2⟩|⟨b,c,cur,e2,h1,h2,h3,h3',h4,h5⟩
 ·omega
 ·refine ⟨b,c,e2,(Array.getElem?_eq_some_iff.1 h2).1,h1,h3,h3',fun j u hu=>?_⟩
  have hb:Blk W b e cur:=h2
  refine ⟨?_,hb.frozen j⟩
  rw [hb.cell j]
  have hj:=(List.getElem?_eq_some_iff.1 hu).1
  rw [ho.1] at hj
  rw [← h5,List.getElem?_take_of_lt hj] at hu
  simpa using hu
theorem own_setG {W:World} {e size n b c:Nat} {v:Value} (ho:W.ownsRow base e size v n xs) (hv:v=.slice (some ⟨b,0,none⟩) n c) (i:Nat) (u:Value):(W.setCell ⟨b,i,none⟩ u).ownsRow base e size v n (xs.set i u):=by
 refine ⟨by rw [List.length_set];exact ho.1,?_⟩
 rcases ho.2 with ⟨h,-⟩|⟨b',c',cur,e2,h1,h2,h3,h3',h4,h5⟩
 ·rw [hv] at h;cases h
 ·rw [hv] at e2
  injection e2 with e3 e4 e5
  injection e3 with e6
  injection e6 with e7
  subst e7
  subst e5
  have hb:Blk W b e cur:=h2
  refine .inr ⟨b,c,cur.setIfInBounds i u,hv,h1,hb.set_ i u,h3,h3',by rw [Array.size_setIfInBounds];exact h4,?_⟩
  rw [Array.toList_setIfInBounds,List.take_set,h5]
theorem set_mid {xs1 c xs2:List Value} {j:Nat} (u:Value) (hj:j<c.length):(xs1++(c++xs2)).set (xs1.length+j) u=xs1++(c.set j u++xs2):=by
 rw [List.set_append_right _ _ (by omega),show xs1.length+j-xs1.length=j by omega,List.set_append_left _ _ hj]
theorem get_mid {xs1 c xs2:List Value} {j:Nat} (hj:j<c.length):(xs1++(c++xs2))[xs1.length+j]?=c[j]?:=by
 rw [List.getElem?_append_right (by omega),show xs1.length+j-xs1.length=j by omega,List.getElem?_append_left hj]
theorem NL.num {P:Nat→Prop} {base:Nat} {w:World} {nd:Nd} {l1 l2:List Nd} {xs:List Value} {kb:List (Option Nat)} (h:NL P base w (l1++nd :: l2) xs kb) (z:Int):NL P base w (l1++{ nd with num:=z } :: l2) (xs.set (l1.length*10+3) (.int .i64 z)) kb:=by
 obtain ⟨L,lc,kv,xs1,xs2,kb1,kb2,rfl,rfl,g1,g2,g3,g4⟩:=NL.split h
 rw [← (NL.len g1).1,set_mid _ (by rw [ndC_len];omega)]
 exact NL.join (l2:={ nd with num:=z } :: l2) ⟨L,lc,kv,xs2,kb2,rfl,rfl,g2,g3,g4⟩ g1
theorem NL.lt {P:Nat→Prop} {base:Nat} {w:World}:∀ {l:List Nd} {xs:List Value} {kb:List (Option Nat)},NL P base w l xs kb→∀ k,some k∈kb→k<w.heap.size
 | [],xs,kb,h,k,hm=>by rw [h.2] at hm;cases hm
 | a :: l,xs,kb,h,k,hm=>by
  obtain ⟨L',lc',kv',xs',kb',rfl,rfl,h3,h4,h5⟩:=h
  rcases List.mem_cons.1 hm with e|hm
  ·exact (own_lt h4 e.symm).2
  ·exact NL.lt h5 k hm
def Diff (kb:List (Option Nat)):Prop:=∀ (i j k:Nat),kb[i]?=some (some k)→kb[j]?=some (some k)→i=j
theorem NL.kid {P Q:Nat→Prop} {w:World} {nd:Nd} {l1 l2:List Nd} {kb:List (Option Nat)} (h:NL P base w (l1++nd :: l2) xs kb) (hd:Diff kb) :
  ∃ kv,xs[l1.length*10+9]?=some kv∧kb[l1.length]?=some kv.ownBlock∧w.ownsRow base 3 1 kv nd.kids.length (nd.kids.map Mem.i64) ∧
   ∀ (w':World) (kv':Value) (ks':List Int),w'.ownsRow base 3 1 kv' ks'.length (ks'.map Mem.i64)→w.heap.size≤w'.heap.size→(∀ k,k<w.heap.size→P k→w'.heap[k]?=w.heap[k]?∧Q k)→(∀ k,some k∈kb→kv.ownBlock≠some k→w'.heap[k]?=w.heap[k]?) →
    NL Q base w' (l1++{ nd with kids:=ks' } :: l2) (xs.set (l1.length*10+9) kv') (kb.set l1.length kv'.ownBlock):=by
 obtain ⟨L,lc,kv,xs1,xs2,kb1,kb2,rfl,rfl,g1,g2,g3,g4⟩:=NL.split h
 have e1:=(NL.len g1).1
 have e2:=(NL.len g1).2
 have hat:(kb1++kv.ownBlock :: kb2)[l1.length]?=some kv.ownBlock:=by
  rw [← e2,List.getElem?_append_right (Nat.le_refl _),Nat.sub_self];rfl
 refine ⟨kv,?_,hat,g3,fun w' kv' ks' hk hs hp hb=>?_⟩
 ·rw [← e1,get_mid (by rw [ndC_len];omega)];rfl
 ·have hn1:∀ k,some k∈kb1→kv.ownBlock≠some k:=fun k hm e=>by
   obtain ⟨i,hi,hik⟩:=List.getElem_of_mem hm
   have h1:(kb1++kv.ownBlock :: kb2)[i]?=some (some k):=by rw [List.getElem?_append_left hi,List.getElem?_eq_getElem hi,hik]
   have:=hd i l1.length k h1 (by rw [hat,e])
   omega
  have hn2:∀ k,some k∈kb2→kv.ownBlock≠some k:=fun k hm e=>by
   obtain ⟨i,hi,hik⟩:=List.getElem_of_mem hm
   have h1:(kb1++kv.ownBlock :: kb2)[kb1.length+(i+1)]?=some (some k):=by
    rw [List.getElem?_append_right (by omega),show kb1.length+(i+1)-kb1.length=i+1 by omega,List.getElem?_cons_succ,List.getElem?_eq_getElem hi,hik]
   have:=hd (kb1.length+(i+1)) l1.length k h1 (by rw [hat,e])
   omega
  rw [← e1,set_mid _ (by rw [ndC_len];omega),← e2,List.set_append_right _ _ (Nat.le_refl _),Nat.sub_self]
  exact NL.join (l2:={ nd with kids:=ks' } :: l2) ⟨L,lc,kv',xs2,kb2,rfl,rfl,g2.keep hs hp,hk,NL.keep hs hp (fun k hm=>hb k (List.mem_append_right _ (List.mem_cons_of_mem _ hm)) (hn2 k hm)) g4⟩ (NL.keep hs hp (fun k hm=>hb k (List.mem_append_left _ hm) (hn1 k hm)) g1)
end
section
open Go.RowKit Mem
open As (Nd)
variable {n:Nat}
structure Kp (v:Value) (kb:List (Option Nat)) (w:World) (v':Value) (kb':List (Option Nat)) (w':World):Prop where
 os:w'.os=w.os
 tape:w'.tape=w.tape
 output:w'.output=w.output
 size:w.heap.size≤w'.heap.size
 block:∀ k,k<w.heap.size→v.ownBlock≠some k→some k ∉ kb→w'.heap[k]?=w.heap[k]?
 row:v'.ownBlock=v.ownBlock∨∃ j,v'.ownBlock=some j∧w.heap.size≤j
 kids:∀ k,some k∈kb'→some k∈kb∨w.heap.size≤k
section
variable {v v' v'':Value} {kb kb' kb'':List (Option Nat)} {w w' w'':World} {base:Nat}
theorem Kp.refl (v:Value) (kb:List (Option Nat)) (w:World):Kp v kb w v kb w:=⟨rfl,rfl,rfl,Nat.le_refl _,fun _ _ _ _=>rfl,.inl rfl,fun _ h=>.inl h⟩
theorem Kp.trans (h:Kp v kb w v' kb' w') (k:Kp v' kb' w' v'' kb'' w''):Kp v kb w v'' kb'' w'':=by
 refine ⟨k.os.trans h.os,k.tape.trans h.tape,k.output.trans h.output,Nat.le_trans h.size k.size,fun i hi h1 h2=>?_,?_,fun i hi=>?_⟩
 ·refine (k.block i (Nat.lt_of_lt_of_le hi h.size) (fun e=>?_) (fun e=>?_)).trans (h.block i hi h1 h2)
  ·rcases h.row with e2|⟨j,e2,hj⟩
   ·exact h1 (e2.symm.trans e)
   ·rw [e2] at e;injection e with e;omega
  ·rcases h.kids i e with e2|e2
   ·exact h2 e2
   ·omega
 ·rcases k.row with e|⟨j,e,hj⟩
  ·rcases h.row with e2|⟨j,e2,hj⟩
   ·exact .inl (e.trans e2)
   ·exact .inr ⟨j,e.trans e2,hj⟩
  ·exact .inr ⟨j,e,Nat.le_trans h.size hj⟩
 ·rcases k.kids i hi with e|e
  ·exact h.kids i e
  ·exact .inr (Nat.le_trans h.size e)
theorem Kp.below (h:Kp v kb w v' kb' w') (hv:∀ k,v.ownBlock=some k→base≤k) (hk:∀ k,some k∈kb→base≤k) (hs:base≤w.heap.size):Below base w w':=
 ⟨h.os,h.tape,h.output,h.size,fun k hb=>h.block k (Nat.lt_of_lt_of_le hb hs) (fun e=>by have:=hv k e;omega) (fun e=>by have:=hk k e;omega)⟩
theorem Kp.of_below (hb:Below w.heap.size w w'):Kp v kb w v kb w':=⟨hb.os,hb.tape,hb.output,hb.size,fun k hk _ _=>hb.block k hk,.inl rfl,fun _ h=>.inl h⟩
theorem Kp.of_app (h:AppW w w' v) (hv:v'.ownBlock=v.ownBlock∨∃ j,v'.ownBlock=some j∧w.heap.size≤j):Kp v kb w v' (kb++[none]) w':=
 ⟨h.os,h.tape,h.output,h.size,fun k hk h1 _=>h.block k hk h1,hv,fun k hk=>by
  rcases List.mem_append.1 hk with e|e
  ·exact .inl e
  ·simp at e⟩
theorem Kp.set {b i c:Nat} (h:Kp v kb w v' kb' w') (hv:v'=.slice (some ⟨b,0,none⟩) n c) (u:Value):Kp v kb w v' kb' (w'.setCell ⟨b,i,none⟩ u):=by
 refine ⟨h.os,h.tape,h.output,by simpa [World.setCell] using h.size,fun k hk h1 h2=>?_,h.row,h.kids⟩
 refine (Below.heap_setCell w' ⟨b,i,none⟩ u k (fun e=>?_)).trans (h.block k hk h1 h2)
 have e2:v'.ownBlock=some b:=by rw [hv];rfl
 rcases h.row with e3|⟨j,e3,hj⟩
 ·exact h1 (e3.symm.trans (e2.trans (by rw [e])))
 ·rw [e3] at e2;injection e2 with e2
  have e4:k=b:=e
  omega
theorem NL.ge {P:Nat→Prop}:∀ {l:List Nd} {xs:List Value} {kb:List (Option Nat)},NL P base w l xs kb→∀ k,some k∈kb→base≤k
 | [],xs,kb,h,k,hm=>by rw [h.2] at hm;cases hm
 | a :: l,xs,kb,h,k,hm=>by
  obtain ⟨L',lc',kv',xs',kb',rfl,rfl,h3,h4,h5⟩:=h
  rcases List.mem_cons.1 hm with e|hm
  ·exact (own_lt h4 e.symm).1
  ·exact NL.ge h5 k hm
theorem NL.two {P:Nat→Prop} {n:Nat} {ys:List Value} (ho:w.ownsRow base 49 10 v n ys):∀ {l:List Nd} {xs:List Value} {kb:List (Option Nat)},NL P base w l xs kb→∀ k,some k∈kb→v.ownBlock≠some k
 | [],xs,kb,h,k,hm=>by rw [h.2] at hm;cases hm
 | a :: l,xs,kb,h,k,hm=>by
  obtain ⟨L',lc',kv',xs',kb',rfl,rfl,h3,h4,h5⟩:=h
  rcases List.mem_cons.1 hm with e|hm
  ·intro e2
   rcases own_two_ne h4 ho (by decide) with h|h
   ·rw [h] at e;cases e
   ·exact h (e.symm.trans e2.symm)
  ·exact NL.two ho h5 k hm
theorem NL.blk {P:Nat→Prop} {g t:Nat} {cs:Array Value} (hk:Blk w g t cs) (ht:3≠t):∀ {l:List Nd} {xs:List Value} {kb:List (Option Nat)},NL P base w l xs kb→some g ∉ kb
 | [],xs,kb,h=>by rw [h.2];simp
 | a :: l,xs,kb,h=>by
  obtain ⟨L',lc',kv',xs',kb',rfl,rfl,h3,h4,h5⟩:=h
  intro hm
  rcases List.mem_cons.1 hm with e|hm
  ·exact own_blk_ne h4 hk ht e.symm
  ·exact NL.blk hk ht h5 hm
theorem Rd.on {bs:List UInt8} {A:Option Addr} {cap:Nat} {w0:World} {rb nest:Nat} {st:St} {nv:Value} (h:Rd bs A cap w0 rb nest st nv w) (hb:Below base w w') (hrb:rb<base) (hnv:∀ k,nv.ownBlock=some k→k<base):Rd bs A cap w0 rb nest st nv w':=by
 have hab:=h.above
 refine { h with blk:=(hb.block rb hrb).trans h.blk,base:=h.base.trans (hb.mono (by omega)),own:=⟨h.own.1,?_⟩ }
 rcases h.own.2 with h2|⟨b,c,cur,e,h1,h2,h3⟩
 ·exact .inl h2
 ·exact .inr ⟨b,c,cur,e,h1,(hb.block b (hnv b (by rw [e];rfl))).trans h2,h3⟩
theorem own_keepN {e size:Nat} {xs:List Value} (ho:w.ownsRow base e size v n xs) (hk:∀ k,v.ownBlock=some k→k<w.heap.size→w'.heap[k]?=w.heap[k]?):w'.ownsRow base e size v n xs:=by
 refine ⟨ho.1,?_⟩
 rcases ho.2 with h2|⟨b,c,cur,e2,h1,h2,h3⟩
 ·exact .inl h2
 ·have hlt:b<w.heap.size:=(Array.getElem?_eq_some_iff.1 h2).1
  exact .inr ⟨b,c,cur,e2,h1,(hk b (by rw [e2];rfl) hlt).trans h2,h3⟩
theorem Diff.app (h:Diff kb):Diff (kb++[none]):=fun i j k hi hj=>by
 have key:∀ i,(kb++[none])[i]?=some (some k)→kb[i]?=some (some k):=fun i hi=>by
  rcases Nat.lt_or_ge i kb.length with h1|h1
  ·rwa [List.getElem?_append_left h1] at hi
  ·rw [List.getElem?_append_right h1] at hi
   cases hq:i-kb.length with
   | zero=>rw [hq] at hi;simp at hi
   | succ q=>rw [hq] at hi;simp at hi
 exact h i j k (key i hi) (key j hj)
theorem Diff.set {m:Nat} {o o':Option Nat} (h:Diff kb) (hm:kb[m]?=some o) (ho:o'=o∨∃ j,o'=some j∧some j ∉ kb):Diff (kb.set m o'):=fun i j k hi hj=>by
 rw [List.getElem?_set] at hi hj
 rcases ho with rfl|⟨q,rfl,hq⟩
 ·have key:∀ i,(if m=i then (if m<kb.length then some o' else none) else kb[i]?)=some (some k)→kb[i]?=some (some k):=fun i hi=>by
   split at hi
   ·rename_i e;subst e
    split at hi
    ·rw [hm];exact hi
    ·cases hi
   ·exact hi
  exact h i j k (key i hi) (key j hj)
 ·by_cases h1:m=i
  ·by_cases h2:m=j
   ·omega
   ·rw [if_pos h1] at hi
    rw [if_neg h2] at hj
    split at hi
    ·injection hi with hi;injection hi with hi;subst hi
     exact absurd (List.mem_of_getElem? hj) hq
    ·cases hi
  ·by_cases h2:m=j
   ·rw [if_neg h1] at hi
    rw [if_pos h2] at hj
    split at hj
    ·injection hj with hj;injection hj with hj;subst hj
     exact absurd (List.mem_of_getElem? hi) hq
    ·cases hj
   ·rw [if_neg h1] at hi
    rw [if_neg h2] at hj
    exact h i j k hi hj
theorem kid_step {P:Nat→Prop} {nd:Nd} {l1 l2:List Nd} {xs:List Value} {kv kv':Value} {b c:Nat} {W1 W2:World} {z:Int} (hP:∀ k,P k→k<base) (hbase:base≤w.heap.size)
  (hN:NL P base w (l1++nd :: l2) xs kb) (hd:Diff kb) (hkv:kb[l1.length]?=some kv.ownBlock)
  (hkid:∀ (w':World) (kv':Value) (ks':List Int),w'.ownsRow base 3 1 kv' ks'.length (ks'.map Mem.i64)→w.heap.size≤w'.heap.size→(∀ k,k<w.heap.size→P k→w'.heap[k]?=w.heap[k]?∧P k)→(∀ k,some k∈kb→kv.ownBlock≠some k→w'.heap[k]?=w.heap[k]?) →
    NL P base w' (l1++{ nd with kids:=ks' } :: l2) (xs.set (l1.length*10+9) kv') (kb.set l1.length kv'.ownBlock))
  (ho:w.ownsRow base 49 10 v n xs) (hv:v=.slice (some ⟨b,0,none⟩) n c)
  (hb1:Below w.heap.size w W1) (ha:AppW W1 W2 kv) (hk':W2.ownsRow base 3 1 kv' (nd.kids.length+1) (nd.kids.map Mem.i64++[.int .i64 z])) (hr:kv'.ownBlock=kv.ownBlock∨∃ j,kv'.ownBlock=some j∧W1.heap.size≤j) :
  NL P base (W2.setCell ⟨b,l1.length*10+9,none⟩ kv') (l1++{ nd with kids:=nd.kids++[z] } :: l2) (xs.set (l1.length*10+9) kv') (kb.set l1.length kv'.ownBlock)∧Diff (kb.set l1.length kv'.ownBlock) ∧
   Kp v kb w v (kb.set l1.length kv'.ownBlock) (W2.setCell ⟨b,l1.length*10+9,none⟩ kv')∧(W2.setCell ⟨b,l1.length*10+9,none⟩ kv').ownsRow base 49 10 v n (xs.set (l1.length*10+9) kv') ∧
   (∀ g t cs,Blk W1 g t cs→w.heap.size≤g→Blk (W2.setCell ⟨b,l1.length*10+9,none⟩ kv') g t cs)∧W2.ownsRow base 49 10 v n xs:=by
 have hvb:v.ownBlock=some b:=by rw [hv];rfl
 have hbl:=own_lt ho hvb
 have hkm:kv.ownBlock∈kb:=List.mem_of_getElem? hkv
 have hkl:∀ k,kv.ownBlock=some k→base≤k∧k<w.heap.size:=fun k e=>⟨NL.ge hN k (e ▸ hkm),NL.lt hN k (e ▸ hkm)⟩
 have hbk:kv.ownBlock≠some b:=fun e=>NL.two ho hN b (e ▸ hkm) hvb
 have hs1:=hb1.size
 have hs2:=ha.size
 have hset:∀ k,k≠b→(W2.setCell ⟨b,l1.length*10+9,none⟩ kv').heap[k]?=W2.heap[k]?:=fun k hk=>Below.heap_setCell W2 ⟨b,l1.length*10+9,none⟩ kv' k hk
 have h12:∀ k,k<w.heap.size→kv.ownBlock≠some k→W2.heap[k]?=w.heap[k]?:=fun k hk hn=>(ha.block k (by omega) hn).trans (hb1.block k hk)
 have hsz:W2.heap.size≤(W2.setCell ⟨b,l1.length*10+9,none⟩ kv').heap.size:=by simp [World.setCell]
 have hne':kv'.ownBlock≠some b:=by
  rcases hr with e|⟨j,e,hj⟩
  ·rw [e];exact hbk
  ·rw [e];intro e2;injection e2 with e2;omega
 have hko:(W2.setCell ⟨b,l1.length*10+9,none⟩ kv').ownsRow base 3 1 kv' (nd.kids++[z]).length ((nd.kids++[z]).map Mem.i64):=by
  rw [List.length_append,List.length_singleton,List.map_append]
  exact own_keepN hk' fun k e hk=>hset k (fun e2=>hne' (by rw [e,e2]))
 have hown2:W2.ownsRow base 49 10 v n xs:=own_keepN ho fun k e hk=>h12 k hk (fun e2=>hbk (by rw [e2,← e,hvb]))
 refine ⟨hkid _ kv' _ hko (by omega) (fun k hk hp=>⟨(hset k (fun e=>by have:=hP k hp;omega)).trans (h12 k hk (fun e=>by have:=(hkl k e).1;have:=hP k hp;omega)),hp⟩) (fun k hm hn=>(hset k (fun e=>NL.two ho hN k hm (by rw [hvb,e]))).trans (h12 k (NL.lt hN k hm) hn)),?_,?_,?_,fun g t cs hg hge=>?_,hown2⟩
 ·refine hd.set hkv ?_
  rcases hr with e|⟨j,e,hj⟩
  ·exact .inl e
  ·exact .inr ⟨j,e,fun hm=>by have:=NL.lt hN j hm;omega⟩
 ·refine ⟨ha.os.trans hb1.os,ha.tape.trans hb1.tape,ha.output.trans hb1.output,by omega,fun k hk h1 h2=>?_,.inl rfl,fun k hm=>?_⟩
  ·exact (hset k (fun e=>h1 (by rw [hvb,e]))).trans (h12 k hk (fun e=>h2 (e ▸ hkm)))
  ·rcases List.mem_or_eq_of_mem_set hm with e|e
   ·exact .inl e
   ·rcases hr with e2|⟨j,e2,hj⟩
    ·left;rw [e,e2];exact hkm
    ·rw [e2] at e;injection e with e;right;omega
 ·exact own_setG hown2 hv _ _
 ·have hgl:=hg.lt
  exact ((hset g (by omega)).trans (ha.block g hgl (fun e=>by have:=(hkl g e).2;omega))).trans hg
end
end
section
open Go.RowKit Mem
open As (Nd)
attribute [local go_sem] build_pz build_fl build_f0
def posW (rb:Nat) (w:World):Nat:=match w.cell? ⟨rb,1,none⟩ with
 | some (.int _ z)=>z.toNat
 | _=>0
section
variable {bs:List UInt8} {A:Option Addr} {cap:Nat} {w0:World} {rb nest base n m lo:Nat} {st st':St} {nv nv' v:Value} {w W W':World} {xs ys:List Value} {row:Option Nat}
theorem posW_eq (h:Rd bs A cap w0 rb nest st nv w):posW rb w=st.pos:=by
 unfold posW
 rw [show w.cell? ⟨rb,1,none⟩=some (.int .i64 (st.pos:Int)) from h.blk.cell 1]
 exact Int.toNat_natCast _
theorem own_turn (ho:W.ownsRow base 78 11 v n xs) (ht:Turn rb row W W') (hr:∀ k,v.ownBlock=some k→k≠rb∧some k≠row):W'.ownsRow base 78 11 v n xs:=by
 refine ⟨ho.1,?_⟩
 rcases ho.2 with h2|⟨b,c,cur,e,h1,h2,h3⟩
 ·exact .inl h2
 ·have hlt:b<W.heap.size:=(Array.getElem?_eq_some_iff.1 h2).1
  have hb:=hr b (by rw [e];rfl)
  exact .inr ⟨b,c,cur,e,h1,(ht.block b hlt hb.1 hb.2).trans h2,h3⟩
theorem own_left (ho:W.ownsRow base 78 11 v n xs) (hr:Rd bs A cap w0 rb nest st nv W) (hl:Left bs A cap w0 rb nest nv W st' nv' W') (hb:rb<base):W'.ownsRow base 78 11 v n xs:=
 own_turn ho hl.turn fun k e=>⟨by have:=(own_lt ho e).1;omega,fun e2=>by
  rcases own_two_ne ho hr.own (by decide) with h|h
  ·rw [h] at e;cases e
  ·exact h (e.trans e2)⟩
theorem RL.left {F:F} (h:RL (PP lo nv v) W F xs) (hl:Left bs A cap w0 rb nest nv W st' nv' W') (hr:rb<lo):RL (PP lo nv' v) W' F xs:=
 RL.keep hl.turn.size (fun k hk hP=>⟨(hl.turn.keeps hl.nw hr k hk hP.1).1,(hl.turn.keeps hl.nw hr k hk hP.1).2,hP.2⟩) h
theorem RL.below {F:F} (h:RL (PP lo nv v) W F xs) (hb:Below W.heap.size W W'):RL (PP lo nv v) W' F xs:=RL.keep hb.size (fun k hk hP=>⟨hb.block k hk,hP⟩) h
theorem own_bel (ho:W.ownsRow base 78 11 v n xs) (hb:Below W.heap.size W W'):W'.ownsRow base 78 11 v n xs:=Rs.own_below ho hb
theorem own_cells (ho:W.ownsRow base 78 11 v n xs) (hn:0<n):∃ b c,v=.slice (some ⟨b,0,none⟩) n c∧b<W.heap.size∧∀ j u,xs[j]?=some u→W.cell? ⟨b,j,none⟩=some u:=by
 rcases ho.2 with ⟨-,h2⟩|⟨b,c,cur,e,-,h2,h3,-,h4,h5⟩
 ·omega
 ·refine ⟨b,c,e,(Array.getElem?_eq_some_iff.1 h2).1,fun j u hu=>?_⟩
  have hb:Blk W b 78 cur:=h2
  rw [hb.cell j]
  have hj:=(List.getElem?_eq_some_iff.1 hu).1
  rw [ho.1] at hj
  rw [← h5,List.getElem?_take_of_lt hj] at hu
  simpa using hu
theorem own_cap {b c:Nat} (ho:W.ownsRow base 78 11 v n xs) (hv:v=.slice (some ⟨b,0,none⟩) n c):n≤c∧c≤9223372036854775807:=by
 rcases ho.2 with ⟨h,-⟩|⟨b',c',cur,e,-,-,h3,h4,-⟩
 ·rw [hv] at h;cases h
 ·rw [hv] at e
  injection e with e1 e2 e3
  subst e3
  exact ⟨h3,by unfold maxLen at h4;omega⟩
theorem RL.last {P:Nat→Prop}:∀ {F:F} {xs:List Value},RL P W F xs→∀ z:Int,0<F.len→∃ (nd:Nd) (L:Option Addr) (lc:Nat) (K:Option Addr) (kn kc:Nat),(∀ j u,(ptN nd L lc K kn kc)[j]?=some u→xs[(F.len-1)*11+j]?=some u)∧nd.to_=F.lastTo z
 | .nil,xs,h,z,hl=>absurd hl (by simp [F.len])
 | .cons nd ks .nil,xs,h,z,hl=>by
  obtain ⟨L,lc,K,kc,xs',rfl,-,-,h4⟩:=h
  rw [show xs'=[] from h4]
  refine ⟨nd,L,lc,K,ks.len,kc,fun j u hu=>?_,rfl⟩
  rw [List.append_nil,show ((F.cons nd ks .nil).len-1)*11+j=j by show (0+1-1)*11+j=j;omega]
  simpa using hu
 | .cons nd ks (.cons n2 k2 r2),xs,h,z,hl=>by
  obtain ⟨L,lc,K,kc,xs',rfl,-,-,h4⟩:=h
  obtain ⟨ndl,Ll,lcl,Kl,knl,kcl,h5,h6⟩:=RL.last h4 nd.to_ (by show 0<r2.len+1;omega)
  refine ⟨ndl,Ll,lcl,Kl,knl,kcl,fun j u hu=>?_,h6⟩
  have:=h5 j u hu
  rw [List.getElem?_append_right (by rw [ptN_len];show 11≤(r2.len+1+1-1)*11+j;omega),ptN_len]
  rw [← this]
  congr 1
  show (r2.len+1+1-1)*11+j-11=(r2.len+1-1)*11+j
  omega
end
theorem F.len_app' (x:Pt):∀ l:F,(l.app x).len=l.len+1
 | .nil=>rfl
 | .cons _ _ r=>by show (r.app x).len+1=r.len+1+1;rw [F.len_app' x r]
end
section
open Go.RowKit Mem
open As (Nd NodeV NodesV NamesV str)
variable {w:World} {base:Nat} {v:Value}
theorem own_sliceP {e size n:Nat} {xs:List Value} (h:w.ownsRow base e size v n xs) :
  ∃ A c,v=.slice A n c∧n≤c∧c≤9223372036854775807∧Reads w w.heap.size size A n xs:=by
 rcases h.2 with ⟨rfl,rfl⟩|⟨g,cap,cur,rfl,_,_,h1,h2,_⟩
 ·exact ⟨none,0,rfl,Nat.le_refl _,by omega,h.1,fun hn=>by omega⟩
 ·exact ⟨_,cap,rfl,h1,by unfold maxLen at h2;omega,Reads.of_own h⟩
theorem NL.node {P:Nat→Prop} {base b:Nat} {w:World}:∀ {l:List Nd} {xs:List Value} {kb:List (Option Nat)} {o:Nat},NL P base w l xs kb→(∀ j u,xs[j]?=some u→w.cell? ⟨b,o+j,none⟩=some u)→∀ k nd,l[k]?=some nd→NodeV w w.heap.size nd fun j=>w.cell? ⟨b,o+k*10+j,none⟩
 | [],xs,kb,o,h,hc,k,nd,hk=>by simp at hk
 | a :: l,xs,kb,o,h,hc,k,nd,hk=>by
  obtain ⟨L',lc',kv',xs',kb',rfl,rfl,h3,h4,h5⟩:=h
  cases k with
  | zero=>
   rw [List.getElem?_cons_zero] at hk
   injection hk with hk
   subst hk
   have hl:∀ j u,(ndC a L' lc' kv').toList[j]?=some u→w.cell? ⟨b,o+0*10+j,none⟩=some u:=fun j u hu=>by
    rw [Nat.zero_mul,Nat.add_zero]
    exact hc j u (by rw [List.getElem?_append_left (List.getElem?_eq_some_iff.1 hu).1];exact hu)
   obtain ⟨A,c,e,e1,e2,e3⟩:=own_sliceP h4
   exact ⟨hl 0 _ rfl,hl 1 _ rfl,hl 2 _ rfl,hl 3 _ rfl,hl 4 _ rfl,hl 5 _ rfl,hl 6 _ rfl,hl 7 _ rfl,⟨_,hl 8 _ rfl,L',lc',rfl,h3.1,h3.2.1,h3.2.2.1⟩,⟨_,hl 9 _ rfl,A,c,e,e1,e2,e3⟩⟩
  | succ k=>
   rw [List.getElem?_cons_succ] at hk
   have ih:=NL.node (b:=b) (o:=o+10) h5 (fun j u hu=>by
    have:=hc (10+j) u (by rw [List.getElem?_append_right (by rw [ndC_len];omega),ndC_len,Nat.add_sub_cancel_left];exact hu)
    rwa [show o+10+j=o+(10+j) by omega]) k nd hk
   rw [show o+(k+1)*10=o+10+k*10 by omega]
   exact ih
theorem nodes_lie {P:Nat→Prop} {n:Nat} {l:List Nd} {xs:List Value} {kb:List (Option Nat)} (ho:w.ownsRow base 49 10 v n xs) (hN:NL P base w l xs kb) (hn:l.length=n):NodesV w w.heap.size l v:=by
 subst hn
 rcases Nat.eq_zero_or_pos l.length with h0|h0
 ·obtain ⟨A,c,e,e1,e2,-⟩:=own_sliceP ho
  exact ⟨A,c,e,e1,e2,fun hp=>by omega⟩
 ·obtain ⟨b,c,e,hb,-,h1,h2,hc⟩:=own_cellsG ho h0
  refine ⟨_,c,e,h1,by unfold maxLen at h2;omega,fun _=>⟨b,0,rfl,hb,fun k nd hk=>?_⟩⟩
  exact NL.node (o:=0) hN (fun j u hu=>by rw [Nat.zero_add];exact (hc j u hu).1) k nd hk
theorem names_lie {l:List (List UInt8)} (ho:w.ownsRow base 9 1 v l.length (l.map str)):NamesV w w.heap.size l v:=by
 rcases Nat.eq_zero_or_pos l.length with h0|h0
 ·obtain ⟨A,c,e,e1,e2,-⟩:=own_sliceP ho
  exact ⟨A,c,e,e1,e2,fun hp=>by omega⟩
 ·obtain ⟨b,c,e,hb,-,h1,h2,hc⟩:=own_cellsG ho h0
  refine ⟨_,c,e,h1,by unfold maxLen at h2;omega,fun _=>⟨b,0,rfl,hb,fun k s hk=>?_⟩⟩
  rw [Nat.zero_add]
  exact (hc k (str s) (by rw [List.getElem?_map,hk];rfl)).1
end
end Go.Proofs.YtmlbklcmblofkaaGreatDoor.Pa
