/-
  Ranges in memory: two cells each; how a list of them lies; a range loaded.
-/
import Derived.Below
import Derived.Calls
import Derived.Laws.OwnMore
import Derived.Laws.Rows
import Derived.Deep.AppendLies
import Derived.Deep.Draws
import Derived.Deep.OwnRows
import Derived.Maps.AppendAt
import Derived.RegionTactic
import Derived.OrdersHeld
import Derived.OwnWalk
import Derived.Laws.AppendOwn
import Derived.Laws.BytesArg
import Derived.RangeFuncWrites
import Derived.Test.YtmlbklcmblofkaaGreatDoorMPuA
import Derived.Test.YtmlbklcmblofkaaGreatDoorRows
set_option linter.unusedSimpArgs false
set_option linter.unusedVariables false
namespace Go.Proofs.YtmlbklcmblofkaaGreatDoor.Mem
open Go.RowKit
variable {w a:World} {B n:Nat} {row:Option Nat} {v:Value} {xs:List Value}
section
structure Hd (p:Prop):Prop where
 out:p
theorem hide {p:Prop} (h:p):Hd p:=⟨h⟩
theorem unhide {p:Prop} (h:Hd p):p:=h.1
abbrev pz:Array Value:=#[.int .i64 0,.int .i64 0,.int .i64 0,.int .i64 0,.int .i64 0,.int .i64 0,.int .i64 0,.string ⟨#[]⟩,.slice none 0 0,.slice none 0 0,.slice none 0 0]
abbrev iz:Array Value:=#[.int .i64 0,.int .i64 0,.int .i64 0,.string ⟨#[]⟩,.slice none 0 0]
abbrev fz:Array Value:=#[.int .i64 0,.int .i64 0]
abbrev nu (a b c d e f g:Int) (s:List UInt8) (S:Option Addr) (n m:Nat):Array Value:=#[.int .i64 a,.int .i64 b,.int .i64 c,.int .i64 d,.int .i64 e,.int .i64 f,.int .i64 g,.string ⟨s.toArray⟩,.slice S n m,.slice none 0 0]
abbrev pu (a b c d e f g:Int) (s:List UInt8) (S:Option Addr) (n m:Nat) (K:Option Addr) (k l:Nat):Array Value:=#[.int .i64 a,.int .i64 b,.int .i64 c,.int .i64 d,.int .i64 e,.int .i64 f,.int .i64 g,.string ⟨s.toArray⟩,.slice S n m,.slice none 0 0,.slice K k l]
theorem aP:(∀ (a:Act) (v:Value),a.put none v=a)∧(∀ (t:Array Value) (d:List Deferred) (i:Nat) (v:Value),Act.put ⟨t,d⟩ (some i) v=⟨t.setIfInBounds i v,d⟩)∧(∀ (l:List Value) (i:Nat) (v:Value),l.toArray.setIfInBounds i v=(l.set i v).toArray)∧(∀ (a b:Value) (l:List Value),(a :: l).set 0 b=b :: l)∧(∀ (a b:Value) (l:List Value) (i:Nat),(a :: l).set (i+1) b=a :: l.set i b):=
 ⟨fun _ _=>rfl,fun _ _ _ _=>rfl,fun _ _ _=>List.setIfInBounds_toArray ..,fun _ _ _=>rfl,fun _ _ _ _=>rfl⟩
section
variable {P:Program} {ops:Array Oper} {Q:Exit→Act→World→Prop} {md:Region.Mode} {S:World→Prop} {op:Op} {ty:TypeId} {ps:String} {af:Array Edge} {gd:Option (Nat×Bool)} {fuel:Nat} {listed:Array Bool} {a:Act} {w:World}
theorem tkH (i:Nat) (d:Option Tmp) (v:Value) (hi:ops[i]?=some ⟨d,op,ty,ps,af,gd⟩) (hy:∀ w,S w→(execOp a.eval ⟨d,op,ty,ps,af,gd⟩).run P w=.ok (.value v) w) (hS:S w) (h:wpAnyH P md ops Q S fuel (listed.setIfInBounds i true) (a.put d v) w) (hb:(Region.noSelect ops&&(Region.free md ops listed i&&(Region.ready md ops listed).contains i))=true:=by kernel_rfl) (hQ:∀ c a w,Q (.panic c) (a.put d v) w→Q (.panic c) a w:=by exact fun _ _ _ h=>h) (hw:Region.wanted ⟨d,op,ty,ps,af,gd⟩ (yielded ops a.tmps)=true:=by rfl):wpAnyH P md ops Q S (fuel+1) listed a w:=by
 simp only [Bool.and_eq_true] at hb
 exact wpAnyH_take (oi:=⟨d,op,ty,ps,af,gd⟩) hi hb.1 hb.2.1 hb.2.2 hQ (.inl ⟨hw,hy⟩) hS h
theorem tk (i:Nat) (d:Option Tmp) (v:Value) (hi:ops[i]?=some ⟨d,op,ty,ps,af,gd⟩) (hy:∀ w,(execOp a.eval ⟨d,op,ty,ps,af,gd⟩).run P w=.ok (.value v) w) (h:wpAny P md ops Q fuel (listed.setIfInBounds i true) (a.put d v) w) (hb:(Region.noSelect ops&&(Region.free md ops listed i&&(Region.ready md ops listed).contains i))=true:=by kernel_rfl) (hQ:∀ c a w,Q (.panic c) (a.put d v) w→Q (.panic c) a w:=by exact fun _ _ _ h=>h) (hw:Region.wanted ⟨d,op,ty,ps,af,gd⟩ (yielded ops a.tmps)=true:=by rfl):wpAny P md ops Q (fuel+1) listed a w:=by
 simp only [Bool.and_eq_true] at hb
 exact wpAny_take (oi:=⟨d,op,ty,ps,af,gd⟩) hi hb.1 hb.2.1 hb.2.2 hQ (.inl ⟨hw,hy⟩) h
end
end
theorem block_of_add (a:Addr) (n:Nat):(a.add n).block=a.block:=by unfold Addr.add;split<;>rfl
def Reads (w:World) (B size:Nat) (A:Option Addr) (n:Nat) (xs:List Value):Prop:=
 xs.length=n*size∧(0<n→∃ ad,A=some ad∧ad.block<B∧∀ j u,xs[j]?=some u→w.cell? (ad.add j)=some u)
section
variable {w w':World} {B B' size n:Nat} {A:Option Addr} {xs:List Value}
theorem Reads.none_:Reads w B size A 0 []:=⟨by simp,fun h=>absurd h (by omega)⟩
theorem Reads.at_ {k:Nat} (h:Reads w B 1 A n xs) (hk:k<n):∃ ad u,A=some ad∧ad.block<B∧xs[k]?=some u∧w.cell? (ad.add k)=some u:=by
 obtain ⟨ad,e,hb,hc⟩:=h.2 (by omega)
 have hl:k<xs.length:=by have:=h.1;omega
 exact ⟨ad,xs[k],e,hb,List.getElem?_eq_getElem hl,hc k _ (List.getElem?_eq_getElem hl)⟩
theorem Reads.keep (h:Reads w B size A n xs) (hk:∀ p:Addr,p.block<B→w'.cell? p=w.cell? p):Reads w' B size A n xs:=
 ⟨h.1,fun hn=>by
  obtain ⟨ad,e,hb,hc⟩:=h.2 hn
  exact ⟨ad,e,hb,fun j u hu=>(hk _ (by rw [block_of_add];exact hb)).trans (hc j u hu)⟩⟩
theorem Reads.more (h:Reads w B size A n xs) (hB:B≤B'):Reads w B' size A n xs:=
 ⟨h.1,fun hn=>by
  obtain ⟨ad,e,hb,hc⟩:=h.2 hn
  exact ⟨ad,e,by omega,hc⟩⟩
theorem Reads.below (h:Reads w B size A n xs) (hb:Below B w w'):Reads w' B size A n xs:=h.keep fun _ hp=>hb.cell hp
theorem Reads.drew (h:Reads w B size A n xs):Reads w.drew B size A n xs:=h
theorem Reads.drewN (h:Reads w B size A n xs) (k:Nat):Reads (w.drewN k) B size A n xs:=h
theorem Reads.alloc (h:Reads w B size A n xs) (hB:B≤w.heap.size) (o:Obj):Reads (w.alloc o) B size A n xs:=h.keep fun p hp=>World.cell?_alloc_lt w o p (by omega)
theorem Reads.setCell (h:Reads w B size A n xs) {p:Addr} (hB:B≤p.block) (u:Value):Reads (w.setCell p u) B size A n xs:=
 h.keep fun q hq=>World.cell?_setCell_other w p q u (fun e=>by subst e;omega)
theorem Reads.grown (h:Reads w B size A n xs) {row:Option Nat} (hg:w.grownBy w' row) (hB:B≤w.heap.size) (hr:∀ g,row=some g→B≤g):Reads w' B size A n xs:=
 h.keep fun p hp=>World.cell?_of_block (hg.block p.block (by omega) (fun e=>by have:=hr _ e.symm;omega))
theorem Reads.of_own {base:Nat} {e:TypeId} {c:Nat} (h:w.ownsRow base e size (.slice A n c) n xs):Reads w w.heap.size size A n xs:=by
 refine ⟨h.1,fun hn=>?_⟩
 obtain ⟨g,cap,hv,_,hlt⟩:=h.form hn
 have hA:A=some ⟨g,0,none⟩:=by injection hv
 subst hA
 exact ⟨_,rfl,hlt,h.cells (g:=g) rfl⟩
end
def Blk (w:World) (g:Nat) (t:TypeId) (cs:Array Value):Prop:=w.heap[g]?=some (.cells cs t (0,0))
section
variable {w w':World} {g:Nat} {t:TypeId} {cs:Array Value}
theorem Blk.lt (h:Blk w g t cs):g<w.heap.size:=by
 rcases Nat.lt_or_ge g w.heap.size with hlt|hge
 ·exact hlt
 ·unfold Blk at h;rw [Array.getElem?_eq_none hge] at h;cases h
theorem Blk.cell (h:Blk w g t cs) (i:Nat):w.cell? ⟨g,i,none⟩=cs[i]?:=cell_of_row w g i cs t (0,0) h
theorem Blk.frozen (h:Blk w g t cs) (i:Nat):w.frozen? ⟨g,i,none⟩=false:=by
 unfold Blk at h
 simp [World.frozen?,h]
theorem Blk.new (w:World) (t:TypeId) (cs:Array Value):Blk (w.alloc (.cells cs t)) w.heap.size t cs:=heap_alloc_new w _
theorem Blk.drew (h:Blk w g t cs):Blk w.drew g t cs:=h
theorem Blk.drewN (h:Blk w g t cs) (n:Nat):Blk (w.drewN n) g t cs:=h
theorem Blk.alloc (h:Blk w g t cs) (o:Obj):Blk (w.alloc o) g t cs:=(Below.heap_alloc w o g h.lt).trans h
theorem Blk.set_ (h:Blk w g t cs) (i:Nat) (u:Value):Blk (w.setCell ⟨g,i,none⟩ u) g t (cs.setIfInBounds i u):=by
 unfold Blk at h ⊢
 simp [World.setCell,Array.getElem?_modify,h]
theorem Blk.far (h:Blk w g t cs) {p:Addr} (hp:g≠p.block) (u:Value):Blk (w.setCell p u) g t cs:=(Below.heap_setCell w p u g hp).trans h
theorem Blk.below (h:Blk w g t cs) (hb:Below B w w') (hg:g<B):Blk w' g t cs:=(hb.block g hg).trans h
theorem Blk.grown (h:Blk w g t cs) (hb:w.grownBy w' row) (hg:some g≠row):Blk w' g t cs:=(hb.block g h.lt hg).trans h
theorem Blk.ne_ {g':Nat} {t':TypeId} {cs':Array Value} (h:Blk w g t cs) (h':Blk w g' t' cs') (hne:t≠t'):g≠g':=by
 rintro rfl
 unfold Blk at h h'
 rw [h] at h'
 injection h' with h'
 injection h' with _ ht
 exact hne ht
theorem own_blk_ne {base:Nat} {e:TypeId} {size:Nat} (h:w.ownsRow base e size v n xs) (hg:Blk w g t cs) (hne:e≠t):v.ownBlock≠some g:=by
 rcases h.2 with ⟨rfl,_⟩|⟨g',cap,cur,rfl,_,hh,_⟩
 ·simp [Value.ownBlock]
 ·intro he
  have:g'=g:=by simpa [Value.ownBlock] using he
  subst this
  exact Blk.ne_ (t:=e) hh hg hne rfl
end
section
variable {P:Program} (w:World)
theorem run_append_of_nil (base:Nat) (t ty e:TypeId) (i:TypeInfo) (size:Nat) (ht:P.underlying t=some (.slice e)) (hi:P.info? e=some i)
  (v:Value) (n:Nat) (xs:List Value) (hown:w.ownsRow base e size v n xs) (c:Nat):(Builtin.append_ #[t,t] ty #[v,.slice none 0 c]).run P w=.ok v w:=by
 rcases hown.2 with ⟨rfl,rfl⟩|⟨g,cap,cur,rfl,_,_,hnc,_⟩
 ·simp [Builtin.append_,run_underlying ht,sizeOf,typeInfo,hi,Builtin.lenOf,Builtin.firstCells]
 ·simp [Builtin.append_,run_underlying ht,sizeOf,typeInfo,hi,Builtin.lenOf,Builtin.firstCells,hnc,storeCells]
theorem run_append_any (base:Nat) (t ty e:TypeId) (i:TypeInfo) (z:Value) (size bytes:Nat) (ht:P.underlying t=some (.slice e)) (hi:P.info? e=some i) (hz:i.zero=some z)
  (hsize:i.size=size) (hby:i.bytes=bytes) (hzs:z.cells.size=size) (hsz:0<size)
  (v:Value) (n:Nat) (xs:List Value) (hown:w.ownsRow base e size v n xs)
  (B:Nat) (A:Option Addr) (m c:Nat) (news:List Value) (hr:Reads w B size A m news) (h1:∀ u∈news,u.oneCell'=true)
  (h63:n+m≤maxLen) (hbytes:(n+m)*bytes≤140737488355328) (hbase:base≤w.heap.size) :
  ∃ v' w',(Builtin.append_ #[t,t] ty #[v,.slice A m c]).run P w=.ok v' w'∧w'.ownsRow base e size v' (n+m) (xs++news)∧w.grownBy w' v.ownBlock ∧
   (v'.ownBlock=v.ownBlock∨v'.ownBlock=some w.heap.size):=by
 rcases A with _|ad
 ·have hm:m=0:=by
   rcases Nat.eq_zero_or_pos m with h0|h0
   ·exact h0
   ·obtain ⟨ad,h,_⟩:=hr.2 h0
    cases h
  subst hm
  have hn:news=[]:=List.eq_nil_of_length_eq_zero (by simpa using hr.1)
  subst hn
  exact ⟨v,w,run_append_of_nil w base t ty e i size ht hi v n xs hown c,by simpa using hown,World.grownBy.refl w _,.inl rfl⟩
 ·have hcells:∀ j u,news[j]?=some u→w.cell? (ad.add j)=some u:=by
   intro j u hu
   rcases Nat.eq_zero_or_pos m with h0|h0
   ·subst h0
    have hn:news=[]:=List.eq_nil_of_length_eq_zero (by simpa using hr.1)
    subst hn
    simp at hu
   ·obtain ⟨ad',h,_,hc⟩:=hr.2 h0
    injection h with h
    subst h
    exact hc j u hu
  obtain ⟨v',w',hrun,h2,h3,_,h5⟩:=run_append_own_at (P:=P) w base t ty e i z size bytes ht hi hz hsize hby hzs hsz v n xs hown ad m c news hr.1 hcells h1 h63 hbytes hbase
  exact ⟨v',w',hrun,h2,h3,h5⟩
theorem wp_append_any {o:Oper} {a:Act} {K:Act→World→Prop} {Q:Exit→Act→World→Prop} (s x:Operand) (t:TypeId)
  (ho:o.op=.call { callee:=.builtin .append,args:=#[s,x],argTypes:=#[t,t] })
  (base:Nat) (e:TypeId) (i:TypeInfo) (z:Value) (size bytes:Nat) (ht:P.underlying t=some (.slice e)) (hi:P.info? e=some i) (hz:i.zero=some z)
  (hsize:i.size=size) (hby:i.bytes=bytes) (hzs:z.cells.size=size) (hsz:0<size)
  (v:Value) (n:Nat) (xs:List Value) (hs:a.eval s=v) (hown:w.ownsRow base e size v n xs)
  (B:Nat) (A:Option Addr) (m c:Nat) (news:List Value) (hx:a.eval x=.slice A m c) (hr:Reads w B size A m news) (h1:∀ u∈news,u.oneCell'=true)
  (h63:n+m≤maxLen) (hbytes:(n+m)*bytes≤140737488355328) (hbase:base≤w.heap.size)
  (h:∀ v' w',w'.ownsRow base e size v' (n+m) (xs++news)→w.grownBy w' v.ownBlock→(v'.ownBlock=v.ownBlock∨v'.ownBlock=some w.heap.size)→K (a.put o.dst v') w'):o.wp P a w K Q:=by
 obtain ⟨v',w',hrun,h2,h3,h4⟩:=run_append_any (P:=P) w base t o.type e i z size bytes ht hi hz hsize hby hzs hsz v n xs hown B A m c news hr h1 h63 hbytes hbase
 unfold Oper.wp execOp
 simp only [ho,resolve,invoke,builtin,Sem.run_bind,Sem.run_pure,Result.andThen_ok,List.map_toArray,List.map_cons,List.map_nil,hs,hx,hrun]
 exact h v' w' h2 h3 h4
theorem wpList_append_any {ops:Array Oper} {rest:List Oper} {o:Oper} {a:Act} {Q:Exit→Act→World→Prop} (hgd:o.guard=none) (s x:Operand) (t:TypeId)
  (ho:o.op=.call { callee:=.builtin .append,args:=#[s,x],argTypes:=#[t,t] })
  (base:Nat) (e:TypeId) (i:TypeInfo) (z:Value) (size bytes:Nat) (ht:P.underlying t=some (.slice e)) (hi:P.info? e=some i) (hz:i.zero=some z)
  (hsize:i.size=size) (hby:i.bytes=bytes) (hzs:z.cells.size=size) (hsz:0<size)
  (v:Value) (n:Nat) (xs:List Value) (hs:a.eval s=v) (hown:w.ownsRow base e size v n xs)
  (B:Nat) (A:Option Addr) (m c:Nat) (news:List Value) (hx:a.eval x=.slice A m c) (hr:Reads w B size A m news) (h1:∀ u∈news,u.oneCell'=true)
  (h63:n+m≤maxLen) (hbytes:(n+m)*bytes≤140737488355328) (hbase:base≤w.heap.size)
  (h:∀ v' w',w'.ownsRow base e size v' (n+m) (xs++news)→w.grownBy w' v.ownBlock→(v'.ownBlock=v.ownBlock∨v'.ownBlock=some w.heap.size)→wpList P ops Q rest (a.put o.dst v') w'):wpList P ops Q (o :: rest) a w:=
 wpList_plain hgd fun _ hK=>wp_append_any w s x t ho base e i z size bytes ht hi hz hsize hby hzs hsz v n xs hs hown B A m c news hx hr h1 h63 hbytes hbase fun v' w' h2 h3 h4=>hK _ _ (h v' w' h2 h3 h4)
end
theorem below_drewN (h:Below B a w) (n:Nat):Below B a (w.drewN n):=⟨h.os,h.tape,h.output,h.size,h.block⟩
theorem only_drewN (h:a.grownBy w row) (n:Nat):a.grownBy (w.drewN n) row:=⟨h.os,h.tape,h.output,h.size,h.block⟩
theorem only_alloc (h:a.grownBy w row) (o:Obj):a.grownBy (w.alloc o) row:=
 ⟨h.os,h.tape,h.output,Nat.le_trans h.size (by simp),fun i hi hne=>(Below.heap_alloc w o i (Nat.lt_of_lt_of_le hi h.size)).trans (h.block i hi hne)⟩
theorem only_setCell {g:Nat} (h:a.grownBy w (some g)) {p:Addr} (hp:p.block=g∨a.heap.size≤p.block) (u:Value):a.grownBy (w.setCell p u) (some g):=
 ⟨h.os,h.tape,h.output,by simpa [World.setCell] using h.size,fun i hi hne=>(Below.heap_setCell w p u i (by
  rintro rfl
  rcases hp with hp|hp
  ·exact hne (by rw [hp])
  ·omega)).trans (h.block i hi hne)⟩
theorem below_iff {w':World}:Below w.heap.size w w'↔w.grownBy w' none:=
 ⟨fun h=>⟨h.os,h.tape,h.output,h.size,fun k hk _=>h.block k hk⟩,fun h=>⟨h.os,h.tape,h.output,h.size,fun k hk=>h.block k hk (by simp)⟩⟩
theorem cell_spot {b o:Nat} {sp:Option Nat} (h:w.cell? ⟨b,o,sp⟩=some v):sp=none:=by
 cases sp with
 | none=>rfl
 | some x=>
  unfold World.cell? at h
  split at h<;>simp at h
theorem cell_lt {p:Addr} (h:w.cell? p=some v):p.block<w.heap.size:=by
 rcases Nat.lt_or_ge p.block w.heap.size with hlt|hge
 ·exact hlt
 ·unfold World.cell? at h;rw [Array.getElem?_eq_none hge] at h;simp at h
theorem add_flat (b off j:Nat):(Addr.add ⟨b,off,none⟩ j)=⟨b,off+j,none⟩:=by
 unfold Addr.add
 by_cases h:j=0<;>simp [h]
theorem Reads.flat {A:Option Addr} (h:Reads w B 1 A n xs) (hn:0<n) :
  ∃ b off,A=some ⟨b,off,none⟩∧b<B∧∀ j u,xs[j]?=some u→w.cell? ⟨b,off+j,none⟩=some u:=by
 obtain ⟨⟨b,off,sp⟩,rfl,hb,hc⟩:=h.2 hn
 have hl:=h.1
 have h0:=hc 0 xs[0] (List.getElem?_eq_getElem (by omega))
 have e0:(Addr.add ⟨b,off,sp⟩ 0)=⟨b,off,sp⟩:=by unfold Addr.add;simp
 rw [e0] at h0
 obtain rfl:=cell_spot h0
 exact ⟨b,off,rfl,hb,fun j u hu=>by have:=hc j u hu;rwa [add_flat] at this⟩
theorem Reads.lt {A:Option Addr} (h:Reads w B 1 A n xs):Reads w w.heap.size 1 A n xs:=by
 refine ⟨h.1,fun hn=>?_⟩
 obtain ⟨ad,e,hb,hc⟩:=h.2 hn
 have hl:=h.1
 have h0:=cell_lt (hc 0 xs[0] (List.getElem?_eq_getElem (by omega)))
 rw [block_of_add] at h0
 exact ⟨ad,e,h0,hc⟩
abbrev u8 (x:UInt8):Value:=.int .u8 (x.toNat:Int)
abbrev i64 (x:Int):Value:=.int .i64 x
end Go.Proofs.YtmlbklcmblofkaaGreatDoor.Mem
namespace Go.Proofs.YtmlbklcmblofkaaGreatDoor.Rs
open Go.RowKit Mem
variable {W W':World} {e size n base:Nat} {v:Value} {xs:List Value}
def i64 (x:Int):Value:=.int .i64 x
def agg (r:R):Value:=.agg #[.int .i64 r.1,.int .i64 r.2]
def enc (r:R):List Value:=[.int .i64 r.1,.int .i64 r.2]
def flat (l:List R):List Value:=l.flatMap enc
@[simp] theorem flat_nil:flat []=[]:=rfl
@[simp] theorem flat_cons (r:R) (l:List R):flat (r :: l)=.int .i64 r.1 :: .int .i64 r.2 :: flat l:=rfl
theorem flat_append (a b:List R):flat (a++b)=flat a++flat b:=by simp [flat]
theorem flat_len:∀ l:List R,(flat l).length=l.length*2
 | []=>rfl
 | r :: l=>by simp only [flat_cons,List.length_cons,flat_len l];omega
theorem flat_lo:∀ (l:List R) (k:Nat),(flat l)[k*2]?=(l[k]?).map fun r=>.int .i64 r.1
 | [],k=>by simp
 | r :: l,0=>rfl
 | r :: l,k+1=>by
  rw [show (k+1)*2=k*2+1+1 by omega,flat_cons,List.getElem?_cons_succ,List.getElem?_cons_succ,List.getElem?_cons_succ,flat_lo l k]
theorem flat_hi:∀ (l:List R) (k:Nat),(flat l)[k*2+1]?=(l[k]?).map fun r=>.int .i64 r.2
 | [],k=>by simp
 | r :: l,0=>rfl
 | r :: l,k+1=>by
  rw [show (k+1)*2+1=k*2+1+1+1 by omega,flat_cons,List.getElem?_cons_succ,List.getElem?_cons_succ,List.getElem?_cons_succ,flat_hi l k]
theorem flat_one (l:List R):∀ u∈flat l,u.oneCell'=true:=by
 intro u hu
 simp only [flat,List.mem_flatMap,enc] at hu
 obtain ⟨r,_,h⟩:=hu
 simp at h
 rcases h with rfl|rfl<;>rfl
def Lst (w:World) (B:Nat) (A:Option Addr) (l:List R):Prop:=0<l.length→∃ b off,A=some ⟨b,off,none⟩∧b<B∧∀ k r,l[k]?=some r→w.cell? ⟨b,off+k*2,none⟩=some (.int .i64 r.1)∧w.cell? ⟨b,off+k*2+1,none⟩=some (.int .i64 r.2)
section
variable {w w':World} {B B':Nat} {A:Option Addr} {l:List R}
theorem Lst.keep (h:Lst w B A l) (hk:∀ p:Addr,p.block<B→w'.cell? p=w.cell? p):Lst w' B A l:=fun hn=>by
 obtain ⟨b,off,e,hb,hc⟩:=h hn
 exact ⟨b,off,e,hb,fun k r hr=>⟨(hk ⟨b,_,none⟩ hb).trans (hc k r hr).1,(hk ⟨b,_,none⟩ hb).trans (hc k r hr).2⟩⟩
theorem Lst.below (h:Lst w B A l) (hb:Below B w w'):Lst w' B A l:=h.keep fun _ hp=>hb.cell hp
theorem Lst.more (h:Lst w B A l) (hB:B≤B'):Lst w B' A l:=fun hn=>by
 obtain ⟨b,off,e,hb,hc⟩:=h hn
 exact ⟨b,off,e,by omega,hc⟩
theorem Lst.nil:Lst w B A []:=fun h=>absurd h (by simp)
theorem Lst.lt (h:Lst w B A l):Lst w w.heap.size A l:=fun hn=>by
 obtain ⟨b,off,e,hb,hc⟩:=h hn
 exact ⟨b,off,e,cell_lt (hc 0 l[0] (List.getElem?_eq_getElem hn)).1,hc⟩
theorem Lst.reads (h:Lst w B A l):Reads w B 2 A l.length (flat l):=by
 refine ⟨flat_len l,fun hn=>?_⟩
 obtain ⟨b,off,rfl,hb,hc⟩:=h hn
 refine ⟨_,rfl,hb,fun j u hu=>?_⟩
 rw [add_flat]
 have hj:j<(flat l).length:=(List.getElem?_eq_some_iff.1 hu).1
 rw [flat_len] at hj
 have hl:=List.getElem?_eq_getElem (l:=l) (i:=j / 2) (by omega)
 rcases Nat.mod_two_eq_zero_or_one j with h0|h1
 ·have e:j=(j / 2)*2:=by omega
  rw [e,flat_lo,hl] at hu
  have:=(hc _ _ hl).1
  rw [← e] at this
  exact this.trans hu
 ·have e:j=(j / 2)*2+1:=by omega
  rw [e,flat_hi,hl] at hu
  have:=(hc _ _ hl).2
  rw [Nat.add_assoc,← e] at this
  exact this.trans hu
theorem Lst.of_reads (h:Reads w B 2 A l.length (flat l)):Lst w B A l:=fun hn=>by
 obtain ⟨ad,rfl,hb,hc⟩:=h.2 hn
 have h0:(flat l)[0]?=some (.int .i64 (l[0]).1):=by
  have:=flat_lo l 0
  rw [List.getElem?_eq_getElem hn] at this
  exact this
 obtain ⟨b,off,sp⟩:=ad
 have e:sp=none:=cell_spot (by simpa [Addr.add] using hc 0 _ h0)
 subst e
 refine ⟨b,off,rfl,hb,fun k r hr=>⟨?_,?_⟩⟩
 ·have:=hc (k*2) (.int .i64 r.1) (by rw [flat_lo,hr];rfl)
  rwa [add_flat] at this
 ·have:=hc (k*2+1) (.int .i64 r.2) (by rw [flat_hi,hr];rfl)
  rwa [add_flat] at this
end
theorem info_range:(Tryz.prog.info? 56).map (fun i=>(i.zero,i.size,i.bytes))=some (some (.agg #[.int .i64 0,.int .i64 0]),2,16):=by kernel_rfl
theorem blk_of_heap {wr w3:World} {T:TypeId} {cs:Array Value} (hb:Below W.heap.size W w3) (hH:W.heap=(wr.alloc (.cells cs T)).heap):Blk w3 wr.heap.size T cs:=by
 have h:Blk W wr.heap.size T cs:=by unfold Blk;rw [hH];exact Blk.new wr T cs
 exact h.below hb (by rw [hH];simp)
theorem Lst.tail {B b o:Nat} {x:R} {s:List R} (h:∀ k r,(x :: s)[k]?=some r→W.cell? ⟨b,o+k*2,none⟩=some (.int .i64 r.1)∧W.cell? ⟨b,o+k*2+1,none⟩=some (.int .i64 r.2)) (hb:b<B):Lst W B (some ⟨b,o+2,none⟩) s:=fun _=>⟨b,o+2,rfl,hb,fun k r hr=>by
 have:=h (k+1) r (by simpa using hr)
 rwa [show o+(k+1)*2=o+2+k*2 by omega] at this⟩
theorem run_not_true {P:Program} (w:World):Sem.run P (Op.unary UnOp.not (.bool true)) w=.ok (.bool false) w:=rfl
theorem run_not_false {P:Program} (w:World):Sem.run P (Op.unary UnOp.not (.bool false)) w=.ok (.bool true) w:=rfl
theorem wrap_id (x:Int) (h:-9223372036854775808≤x) (h2:x≤9223372036854775807):IntKind.i64.wrap x=x:=by simp [IntKind.wrap,IntKind.bits,IntKind.signed];omega
theorem own_base (h:W.ownsRow base e size v n xs):∀ k,v.ownBlock=some k→base≤k:=by
 intro k hk
 rcases h.2 with ⟨rfl,_⟩|⟨g,cap,cur,rfl,hb,_,_⟩
 ·simp [Value.ownBlock] at hk
 ·obtain rfl:g=k:=by simpa [Value.ownBlock] using hk
  exact hb
theorem reads_new (W:World) (C:Array Value) (t:TypeId) (n size:Nat) (hC:C.size=n*size):Reads (W.alloc (.cells C t)) (W.heap.size+1) size (some ⟨W.heap.size,0,none⟩) n C.toList:=
 ⟨by simpa using hC,fun _=>⟨_,rfl,Nat.lt_succ_self _,fun j u hj=>by
  rw [add_flat,Nat.zero_add,World.cell?_alloc_new]
  simpa using hj⟩⟩
theorem reads_at {g:Nat} (hg:g=W.heap.size) (C:Array Value) (t:TypeId) (n size:Nat) (hC:C.size=n*size):Reads (W.alloc (.cells C t)) (g+1) size (some ⟨g,0,none⟩) n C.toList:=by subst hg;exact reads_new W C t n size hC
theorem below_al {B:Nat} {a w:World} (h:Below B a w) (hB:B≤w.heap.size) (o:Obj):Below B a (w.alloc o):=h.alloc hB o
theorem below_app {w0:World} {t:Obj} (hB:Below w0.heap.size w0 W) (ho:W.ownsRow w0.heap.size e size v n xs) (hg:(W.alloc t).grownBy W' v.ownBlock):Below w0.heap.size w0 W':=
 (hB.alloc hB.size t).grown hg (by rw [World.size_alloc];have:=hB.size;omega) (own_base ho)
theorem below_app' {w0:World} (hB:Below w0.heap.size w0 W) (ho:W.ownsRow w0.heap.size e size v n xs) (hg:W.grownBy W' v.ownBlock):Below w0.heap.size w0 W':=
 hB.grown hg hB.size (own_base ho)
theorem own_lst2 {l:List R} (h:W.ownsRow base e 2 v l.length (flat l)):∃ A cap,v=.slice A l.length cap∧Lst W W.heap.size A l∧l.length≤cap∧cap≤maxLen:=by
 rcases h.2 with ⟨rfl,hn⟩|⟨g,cap,cur,rfl,hb,hh,hnc,hcm,hcs,ht⟩
 ·exact ⟨none,0,by rw [hn],fun hl=>by omega,by omega,by unfold maxLen;omega⟩
 ·exact ⟨_,cap,rfl,Lst.of_reads (Reads.of_own h),hnc,hcm⟩
theorem own_reads (h:W.ownsRow base e size v n xs):∃ A cap,v=.slice A n cap∧Reads W W.heap.size size A n xs∧n≤cap:=by
 rcases h.2 with ⟨rfl,hn⟩|⟨g,cap,cur,rfl,hb,hh,hnc,hcm,hcs,ht⟩
 ·exact ⟨none,0,by rw [hn],Reads.of_own (by rw [hn];exact hn ▸ h),by omega⟩
 ·exact ⟨_,cap,rfl,Reads.of_own h,hnc⟩
theorem own_lower {base':Nat} (h:W.ownsRow base e size v n xs) (hb:base'≤base):W.ownsRow base' e size v n xs:=by
 refine ⟨h.1,?_⟩
 rcases h.2 with h|⟨g,cap,cur,rfl,h1,h2⟩
 ·exact .inl h
 ·exact .inr ⟨g,cap,cur,rfl,by omega,h2⟩
theorem own_below (h:W.ownsRow base e size v n xs) (hb:Below W.heap.size W W'):W'.ownsRow base e size v n xs:=by
 refine ⟨h.1,?_⟩
 rcases h.2 with h|⟨g,cap,cur,rfl,h1,h2,h3⟩
 ·exact .inl h
 ·refine .inr ⟨g,cap,cur,rfl,h1,(hb.block g ?_).trans h2,h3⟩
  rcases Nat.lt_or_ge g W.heap.size with hlt|hge
  ·exact hlt
  ·rw [Array.getElem?_eq_none hge] at h2;cases h2
end Go.Proofs.YtmlbklcmblofkaaGreatDoor.Rs
