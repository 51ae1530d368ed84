/-
  well.Check, walked: what is wrong with a tree, and where.
-/
import Derived.Test.YtmlbklcmblofkaaGreatDoorMAsB
import Derived.Test.YtmlbklcmblofkaaGreatDoorMWeB
import Derived.StillTail
import Derived.StillTactics
import Derived.Test.YtmlbklcmblofkaaGreatDoorMAsC
import Derived.Laws.MakeOwn
set_option linter.unusedSimpArgs false
set_option linter.unusedVariables false
set_option maxHeartbeats 4000000
set_option maxRecDepth 100000
namespace Go.Proofs.YtmlbklcmblofkaaGreatDoor.We
section
open As
def WKn (N:List Nd) (arr:List Wd) (pre:List (Fin N.length)):Prop:=pre <+: items N.length→backW N (N.length-pre.length) arr=widthsW N
theorem wkn_nil (N:List Nd):WKn N (List.replicate N.length (0,0)) []:=fun _=>rfl
theorem wkn_snoc {N:List Nd} {arr:List Wd} {pre:List (Fin N.length)} {x:Fin N.length} {nd:Nd} (h:WKn N arr pre) (hn:N[x.val]?=some nd):WKn N (arr.set x.val (ofW nd (kidsW nd.kids arr))) (pre++[x]):=fun hp=>by
 have h1:=h ((List.prefix_append _ _).trans hp)
 have hl:=hp.length_le
 rw [items_len,List.length_append,List.length_singleton] at hl
 have hx:(items N.length)[pre.length]?=some x:=by
  obtain ⟨r,hr⟩:=hp
  rw [← hr]
  simp
 rw [items_at (by omega),Option.some.injEq] at hx
 have hv:x.val=N.length-1-pre.length:=by rw [← hx]
 rw [show N.length-pre.length=x.val+1 by omega,backW,hn] at h1
 rw [List.length_append,List.length_singleton,show N.length-(pre.length+1)=x.val by omega]
 exact h1
theorem wkn_all {N:List Nd} {arr:List Wd} (h:WKn N arr (items N.length)):arr=widthsW N:=by
 have h1:=h (List.prefix_refl _)
 rw [items_len,Nat.sub_self] at h1
 exact h1
end
section
open Go.RowKit Mem Rs As
variable {w:World}
def slW (w:World) (p:Addr):Sl:=match w.cell? p with
 | some (.slice a n c)=>⟨a,n,c⟩
 | _=>⟨none,0,0⟩
theorem slW_eq {p:Addr} {a:Option Addr} {n c:Nat} (h:w.cell? p=some (.slice a n c)):slW w p=⟨a,n,c⟩:=by unfold slW;rw [h]
theorem tree_lies {B:Nat} {t:Tr} {v:Value} (hT:TreeV w B t v) (hpos:0<t.nodes.length):∃ b off cap An cn sv kv,v=.agg #[.slice (some ⟨b,off,none⟩) t.nodes.length cap,.int .i64 t.groups,.slice An t.names.length cn]∧b<B∧t.nodes.length≤cap∧cap≤9223372036854775807∧Lies10 w b off t.nodes sv kv∧∀ k nd,t.nodes[k]?=some nd→KidsV w B nd.kids (.slice (kv k).a (kv k).n (kv k).c):=by
 obtain ⟨av,cv,rfl,⟨A,cap,rfl,hc1,hc2,hn⟩,An,cn,rfl,-⟩:=hT
 obtain ⟨b,off,rfl,hbb,hcs⟩:=hn hpos
 refine ⟨b,off,cap,An,cn,fun k=>slW w ⟨b,off+k*10+8,none⟩,fun k=>slW w ⟨b,off+k*10+9,none⟩,rfl,hbb,hc1,hc2,fun k nd hk=>?_,fun k nd hk=>?_⟩
 ·obtain ⟨h0,h1,h2,h3,h4,h5,h6,h7,⟨v8,h8,S,cs,rfl,hs1,hs2,hsa⟩,v9,h9,K,ck,rfl,hk1,hk2,hka9⟩:=hcs k nd hk
  have h8':w.cell? ⟨b,off+k*10+8,none⟩=some (.slice S nd.set.length cs):=h8
  have h9':w.cell? ⟨b,off+k*10+9,none⟩=some (.slice K nd.kids.length ck):=h9
  exact ⟨h0,h1,h2,h3,h4,h5,h6,h7,by simp only [slW_eq h8'];exact h8',by simp only [slW_eq h9'];exact h9'⟩
 ·obtain ⟨h0,h1,h2,h3,h4,h5,h6,h7,⟨v8,h8,S,cs,rfl,hs1,hs2,hsa⟩,v9,h9,K,ck,rfl,hk1,hk2,hka9⟩:=hcs k nd hk
  have h9':w.cell? ⟨b,off+k*10+9,none⟩=some (.slice K nd.kids.length ck):=h9
  simp only [slW_eq h9']
  exact ⟨K,ck,rfl,hk1,hk2,hka9⟩
theorem KidsV.up {B B':Nat} {l:List Int} {v:Value} (h:KidsV w B l v) (hB:B≤B'):KidsV w B' l v:=by
 obtain ⟨A,cap,h1,h2,h3,h4⟩:=h
 exact ⟨A,cap,h1,h2,h3,h4.more hB⟩
end
section
open Go.RowKit Go.Shelf Mem Rs As
attribute [local go_sem] Oper.semAt_some run_not_true run_not_false
variable {W wx:World} {l:List Wd} {k:Nat}
def wds (l:List Wd):Array Value:=(flat l).toArray
theorem flat_zero:∀ n:Nat,flat (List.replicate n (0,0))=List.replicate (n*2) (.int .i64 0)
 | 0=>rfl
 | n+1=>by rw [List.replicate_succ,flat_cons,flat_zero n,show (n+1)*2=n*2+1+1 by omega,List.replicate_succ,List.replicate_succ]
theorem made_wz (n:Nat):madeCells #[.int .i64 0,.int .i64 0] (n*2)=wds (List.replicate n (0,0)):=by
 unfold madeCells wds
 rw [flat_zero]
 apply Array.ext
 ·simp
 ·intro i h1 h2
  rcases Nat.mod_two_eq_zero_or_one i with h|h<;>simp [h]
theorem make_w (n:Nat) (hn:n≤100000) (W:World):Sem.run Tryz.prog (Instr.makeSlice 32 (.int .i64 (n:Int)) (.int .i64 (n:Int))) W=.ok (.slice (some ⟨W.heap.size,0,none⟩) n n) (W.alloc (.cells (wds (List.replicate n (0,0))) 35)):=by
 obtain ⟨i0,hi,hz0,hz1,hz2⟩:=info_parts info_w
 have:=run_makeSlice (P:=Tryz.prog) W 32 35 i0 (.agg #[.int .i64 0,.int .i64 0]) Tryz.underlying32 hi hz0 .i64 .i64 (n:Int) (n:Int) (by omega) (Int.le_refl _) (by rw [hz1];simp;omega) (by rw [hz2];omega) (by omega)
 rw [this,hz1,Int.toNat_natCast]
 exact congrArg (fun z=>Result.ok _ (W.alloc (.cells z 35))) (made_wz n)
theorem wds_at {r:Wd} (h:l[k]?=some r):(wds l)[k*2]?=some (.int .i64 r.1)∧(wds l)[k*2+1]?=some (.int .i64 r.2):=by
 unfold wds
 rw [List.getElem?_toArray,List.getElem?_toArray,flat_lo,flat_hi,h]
 exact ⟨rfl,rfl⟩
theorem wds_lst {g:Nat} (h:Blk W g 35 (wds l)):Lst W W.heap.size (some ⟨g,0,none⟩) l:=fun _=>⟨g,0,rfl,h.lt,fun k r hr=>by
 obtain ⟨h1,h2⟩:=wds_at hr
 have c1:=h.cell (k*2)
 have c2:=h.cell (k*2+1)
 rw [h1] at c1
 rw [h2] at c2
 rw [Nat.zero_add]
 exact ⟨c1,c2⟩⟩
theorem wds_set (hk:k<l.length) (q:Wd):((wds l).setIfInBounds (k*2) (.int .i64 q.1)).setIfInBounds (k*2+1) (.int .i64 q.2)=wds (l.set k q):=by
 have key:∀ (l:List Wd) (k:Nat),k<l.length→((flat l).set (k*2) (.int .i64 q.1)).set (k*2+1) (.int .i64 q.2)=flat (l.set k q):=by
  intro l
  induction l with
  | nil=>intro k h;simp at h
  | cons r l ih=>
   intro k h
   cases k with
   | zero=>rfl
   | succ k=>
    have:=ih k (by simpa using h)
    rw [show (k+1)*2=k*2+1+1 by omega,List.set_cons_succ,flat_cons,flat_cons]
    simp only [List.set_cons_succ]
    rw [this]
 unfold wds
 simp only [List.setIfInBounds_toArray]
 rw [key l k hk]
def WO (w w4:World) (k:Nat):Prop:=k<w4.heap.size∧k≠w.heap.size+1
def WIn (N:List Nd) (w w4:World) (pre:List (Fin N.length)) (W:World):Prop:=∃ arr:List Wd,(Blk W (w.heap.size+1) 35 (wds arr)∧(Stays (WO w w4) w4 W∧w4.heap.size≤W.heap.size))∧(arr.length=N.length∧(∀ a∈arr,OkW a)∧WKn N arr pre)
def WInv (N:List Nd) (w w4:World) (pre:List (Fin N.length)) (W:World):Prop:=WIn N w w4 pre W∧Below w.heap.size w W
theorem own_blk0 (p:Nat) (t:TypeId) (cs:Array Value) (C:Nat) {β:Type}:OwnFrom C (fun (_:β) W=>Blk W p t cs):=fun _ X Y row hs hg hr=>
 hs.grown hg (fun e=>by obtain ⟨-,o,ho,hc⟩:=hr p e.symm;rw [show X.heap[p]?=_ from hs] at ho;cases ho;cases hc)
theorem win_own (N:List Nd) (w w4:World):OwnFrom w4.heap.size (WIn N w w4):=fun pre X Y row hs hg hr=>by
 obtain ⟨arr,⟨h1,h2,h3⟩,h4⟩:=hs
 refine ⟨arr,⟨own_blk0 _ _ _ _ () X Y row h1 hg hr,fun k hk=>?_,Nat.le_trans h3 hg.size⟩,h4⟩
 rw [← h2 k hk]
 exact hg.block k (Nat.lt_of_lt_of_le hk.1 h3) (fun e=>by have:=(hr k e.symm).1;have:=hk.1;omega)
theorem winv_own (N:List Nd) (w w4:World) (hC:w.heap.size≤w4.heap.size):OwnFrom w4.heap.size (WInv N w w4):=OwnFrom.and (win_own N w w4) (ownFrom_below (Nat.le_refl _) hC)
def WSl (b off cap:Nat) (L:List Nd) (g:Int) (c:Value) (sv kv:Nat→Sl) (w:World) (x:Fin L.length) (p:Nat):Act:=
 { tmps:=#[.agg #[.slice (some ⟨b,off,none⟩) L.length cap,.int .i64 g,c],.pointer (some ⟨w.heap.size,0,none⟩),.slice none 0 0,.pointer (some ⟨w.heap.size+1+1,0,none⟩),.int .i64 (x.val:Int),.pointer (some ⟨p,0,none⟩),.pointer (some ⟨w.heap.size,0,none⟩),.slice (some ⟨b,off,none⟩) L.length cap,.int .i64 (L.length:Int),.slice (some ⟨w.heap.size+1,0,none⟩) L.length L.length,.pointer (some ⟨w.heap.size,0,none⟩),.slice (some ⟨b,off,none⟩) L.length cap,.func (.func 26) #[] #[.pointer (some ⟨w.heap.size+3,0,none⟩)],.int .i64 (x.val:Int),.agg #[.int .i64 (L.get x).kind,.int .i64 (L.get x).from_,.int .i64 (L.get x).to_,.int .i64 (L.get x).num,.int .i64 (L.get x).mn,.int .i64 (L.get x).mx,.int .i64 (L.get x).mode,str (L.get x).name,.slice (sv x.val).a (sv x.val).n (sv x.val).c,.slice (kv x.val).a (kv x.val).n (kv x.val).c],undef,undef,undef,undef,undef,undef,undef,undef,undef],defers:=[] }
def WAx (b off cap:Nat) (L:List Nd) (g:Int) (c:Value) (sv kv:Nat→Sl) (w:World) (x:Fin L.length) (a:Act) (W:World):Prop:=∃ p,a=WSl b off cap L g c sv kv w x p∧Blk W p 49 #[.int .i64 (L.get x).kind,.int .i64 (L.get x).from_,.int .i64 (L.get x).to_,.int .i64 (L.get x).num,.int .i64 (L.get x).mn,.int .i64 (L.get x).mx,.int .i64 (L.get x).mode,str (L.get x).name,.slice (sv x.val).a (sv x.val).n (sv x.val).c,.slice (kv x.val).a (kv x.val).n (kv x.val).c]
theorem wax_own (b off cap:Nat) (L:List Nd) (g:Int) (c:Value) (sv kv:Nat→Sl) (w:World) (C:Nat) (x:Fin L.length) (a:Act):OwnFrom C (fun (_:Unit) W=>WAx b off cap L g c sv kv w x a W):=fun s X Y row hs hg hr=>by
 obtain ⟨p,e,hb⟩:=hs
 exact ⟨p,e,own_blk0 p _ _ C s X Y row hb hg hr⟩
theorem wds_own {B g:Nat} {n:Nat} (hB:B≤g) (h:Blk W g 35 (wds l)) (hl:l.length=n) (hn:n≤100000):W.ownsRow B 35 2 (.slice (some ⟨g,0,none⟩) n n) l.length (flat l):=by
 subst hl
 exact ⟨flat_len l,.inr ⟨g,l.length,wds l,rfl,hB,h,Nat.le_refl _,by unfold maxLen;omega,by unfold wds;simpa using flat_len l,by unfold wds;rw [← flat_len l];simp⟩⟩
def Sb (W:World) (g:Nat) (wx:World):Prop:=W.heap.size≤wx.heap.size∧∀ k,k<W.heap.size→k≠g→wx.heap[k]?=W.heap[k]?
theorem Sb.of {g:Nat} (h:Below W.heap.size W wx):Sb W g wx:=⟨h.size,fun k hk _=>h.block k hk⟩
theorem Sb.blk {g t:Nat} {cs:Array Value} (h:Sb W g wx) (hb:Blk W k t cs) (hk:k≠g):Blk wx k t cs:=(h.2 k hb.lt hk).trans hb
theorem Sb.set_ {g:Nat} (h:Sb W g wx) (i:Nat) (u:Value):Sb W g (wx.setCell ⟨g,i,none⟩ u):=⟨by simpa [World.setCell] using h.1,fun k hk hg=>(Below.heap_setCell wx ⟨g,i,none⟩ u k hg).trans (h.2 k hk hg)⟩
theorem widths_flat (L:List Nd) (hpos:0<L.length) (hok:NdsOk L) (b off cap:Nat) (hcap:L.length≤cap) (hc2:cap≤9223372036854775807) (g:Int) (c:Value) (sv kv:Nat→Sl) (w:World) (hb:b<w.heap.size) (hL:Lies10 w b off L sv kv) (hK:∀ (k:Nat) nd,L[k]?=some nd→KidsV w w.heap.size nd.kids (.slice (kv k).a (kv k).n (kv k).c)) :
  Calls Tryz.prog 9 #[.agg #[.slice (some ⟨b,off,none⟩) L.length cap,.int .i64 g,c]] w fun e w'=>∃ v,e=.returned v∧CutW w (widthsW L) v w':=by
 refine (callsIn_wide (n:=3)).1 ?_
 have hlen:=hok.few
 have hmk:=make_w L.length hlen
 have HL:=hide hL
 have HKV:=hide hK
 have HOK:=hide hok
 clear hL hK hok
 have hz3:(((w.alloc (.cells #[.slice (some ⟨b,off,none⟩) L.length cap,.int .i64 g,c] 25)).alloc (.cells (wds (List.replicate L.length (0,0))) 35)).alloc (.cells #[.slice (some ⟨w.heap.size+1,0,none⟩) L.length L.length] 32)).heap.size=w.heap.size+3:=by simp
 have hB3:Below w.heap.size w (((w.alloc (.cells #[.slice (some ⟨b,off,none⟩) L.length cap,.int .i64 g,c] 25)).alloc (.cells (wds (List.replicate L.length (0,0))) 35)).alloc (.cells #[.slice (some ⟨w.heap.size+1,0,none⟩) L.length L.length] 32)):=(((Below.refl w.heap.size w).alloc (Nat.le_refl _) _).alloc (by simp) _).alloc (by simp;omega) _
 have bT:Blk (((w.alloc (.cells #[.slice (some ⟨b,off,none⟩) L.length cap,.int .i64 g,c] 25)).alloc (.cells (wds (List.replicate L.length (0,0))) 35)).alloc (.cells #[.slice (some ⟨w.heap.size+1,0,none⟩) L.length L.length] 32)) w.heap.size 25 #[.slice (some ⟨b,off,none⟩) L.length cap,.int .i64 g,c]:=((Blk.new w 25 #[.slice (some ⟨b,off,none⟩) L.length cap,.int .i64 g,c]).alloc _).alloc _
 have bE:Blk (((w.alloc (.cells #[.slice (some ⟨b,off,none⟩) L.length cap,.int .i64 g,c] 25)).alloc (.cells (wds (List.replicate L.length (0,0))) 35)).alloc (.cells #[.slice (some ⟨w.heap.size+1,0,none⟩) L.length L.length] 32)) (w.heap.size+1) 35 (wds (List.replicate L.length (0,0))):=(blk2 (W:=w)).alloc _
 have bB:Blk (((w.alloc (.cells #[.slice (some ⟨b,off,none⟩) L.length cap,.int .i64 g,c] 25)).alloc (.cells (wds (List.replicate L.length (0,0))) 35)).alloc (.cells #[.slice (some ⟨w.heap.size+1,0,none⟩) L.length L.length] 32)) (w.heap.size+2) 32 #[.slice (some ⟨w.heap.size+1,0,none⟩) L.length L.length]:=blkAt (by simp)
 have c0:=bT.cell 0
 have HB3:=hide hB3
 have HBE:=hide bE
 have HBB:=hide bB
 clear hB3 bT bE bB
 refine callsIn_of_wp_marks Tryz.func9 rfl trivial ?_ rfl
 simp only [Tryz.ntmps9,List.size_toArray,List.length_cons,List.length_nil,Nat.reduceAdd,Nat.reduceSub,Array.replicate_succ,Array.replicate_zero,List.push_toArray,List.append_toArray,List.nil_append,List.cons_append]
 gi_wp2_with fail
 refine ⟨trivial,?_⟩
 refine (callsIn_wide.2 (backward_any (some ⟨b,off,none⟩) L.length cap _)).mono ?_
 rintro e w4 ⟨rfl,hw4⟩
 rw [hz3]
 have bp:Blk w4 (w.heap.size+3) 22 #[.slice (some ⟨b,off,none⟩) L.length cap]:=by rw [hw4];exact blkAt hz3.symm
 have hz4:w4.heap.size=w.heap.size+4:=by rw [hw4,World.size_alloc,hz3]
 have hB4:Below w.heap.size w w4:=by rw [hw4];exact HB3.1.alloc HB3.1.size _
 have bE:Blk w4 (w.heap.size+1) 35 (wds (List.replicate L.length (0,0))):=by rw [hw4];exact HBE.1.alloc _
 have bB:Blk w4 (w.heap.size+2) 32 #[.slice (some ⟨w.heap.size+1,0,none⟩) L.length L.length]:=by rw [hw4];exact HBB.1.alloc _
 clear hw4 HB3 HBE HBB c0 hz3 hmk
 have hKlt:=kb_lt (B:=w.heap.size) (p:=w.heap.size+3) (w:=w4) (by omega) (by omega)
 gi_wp2_with fail
 refine wpIn_rangeFunc_ownH rfl (by omega) (gf:=26) (lb:=#[.pointer (some ⟨w.heap.size+3,0,none⟩)]) rfl trivial (enters_of Tryz.func26 (by kernel_rfl) rfl)
  (back_stops (3-1) (by omega) w.heap.size (w.heap.size+3) b off cap L sv kv hlen hcap w4 hb (by omega) (HL.1.keep (hB4.block b hb)) bp) keeps_t (keeps_b hKlt) (Below.refl _ _) (fun _=>rfl)
  (WInv L w w4)
  (fun _ _ _=>False)
  (winv_own L w w4 (by omega))
  (fun _ _ _ _ _ hs _ _=>hs)
  ⟨⟨List.replicate L.length (0,0),⟨bE,Stays.refl _ _,Nat.le_refl _⟩,by simp,fun a ha=>by rw [List.eq_of_mem_replicate ha];exact ok_zero,wkn_nil _⟩,hB4⟩
  (WAx b off cap L g c sv kv w) (fun x a'=>wax_own b off cap L g c sv kv w _ x a') ?assign ?body ?done ?stop
 case assign=>
  intro lp pre x W Kc hI hK
  have hz2:w4.heap.size≤W.heap.size:=by obtain ⟨⟨es,⟨_,_,h⟩,_⟩,_⟩:=hI;exact h
  have hk:=hide (hK (WSl b off cap L g c sv kv w x W.heap.size) (W.alloc (.cells #[.int .i64 (L.get x).kind,.int .i64 (L.get x).from_,.int .i64 (L.get x).to_,.int .i64 (L.get x).num,.int .i64 (L.get x).mn,.int .i64 (L.get x).mx,.int .i64 (L.get x).mode,str (L.get x).name,.slice (sv x.val).a (sv x.val).n (sv x.val).c,.slice (kv x.val).a (kv x.val).n (kv x.val).c] 49)) ((KeepsOthers.alloc _ _).from _) ⟨fun k hk=>Below.heap_alloc _ _ k (by rcases hk with h|h<;>omega),by simp⟩
   ((winv_own L w w4 (by omega)).alloc _ hI) ⟨_,rfl,Blk.new _ _ _⟩)
  clear hK hI
  gi_wp2
  exact hk.1
 case body=>
  rintro lp pre x a' W hlp hlpr ⟨⟨arr,⟨hE,hS,hsz⟩,hl,hoks,hkn⟩,hBw⟩ ⟨p,rfl,hblk⟩ hltp
  have bB2:Blk W (w.heap.size+2) 32 #[.slice (some ⟨w.heap.size+1,0,none⟩) L.length L.length]:=(hS _ ⟨by omega,by omega⟩).trans bB
  have hget:L[x.val]?=some (L.get x):=List.getElem?_eq_getElem x.isLt
  have hkv:=HKV.1 x.val (L.get x) hget
  have hxl:=x.isLt
  unfold WSl
  generalize L.get x=nd at *
  generalize kv x.val=kx at *
  generalize sv x.val=sx at *
  obtain ⟨ka,kn,kc⟩:=kx
  obtain ⟨A9,cap9,e9,k1,k2,k3⟩:=hkv
  simp only [Value.slice.injEq] at e9
  obtain ⟨rfl,rfl,rfl⟩:=e9
  have HE2:=hide hE
  have HS2:=hide hS
  have HBW:=hide hBw
  have HBB:=hide bB2
  have HNB:=hide hblk
  have HKN:=hide (wkn_snoc hkn hget)
  have HK3:=hide k3
  have HGET:=hide hget
  have HOKS:=hide hoks
  have hpl:=hblk.lt
  have hxi:(x.val:Int)<(L.length:Int):=by omega
  clear hE hS hBw bB2 hblk hkn k3 bE bB bp hget hlpr hoks
  gi_wp2_with fail
  have hpne:p≠w.heap.size+1:=HNB.1.ne_ HE2.1 (by decide)
  have hkin:=kids_in (kids:=nd.kids) HOKS.1
  have hkl:nd.kids.length≤100000:=HOK.1.kids nd (List.mem_of_getElem? HGET.1)
  have HREP:=hide (HOK.1.rep nd (List.mem_of_getElem? HGET.1))
  have HKL:=hide (Nat.le_trans (kids_len nd.kids arr) hkl)
  have HKIN:=hide hkin
  have CK:=hide (kids_any nd (.slice sx.a sx.n sx.c) ka kc arr (some ⟨w.heap.size+1,0,none⟩) L.length W.drew hkl k1 ((HK3.1.keep fun a ha=>HBW.1.cell ha).more HBW.1.size) (by omega) (by omega) (wds_lst HE2.1))
  rw [hl] at CK
  clear hkin hkl
  refine RegTail.wpIn_region_held (S:=fun wx=>Hd (Sb W (w.heap.size+1) wx)) (by kernel_rfl) (by kernel_rfl) (show Hd (Sb W (w.heap.size+1) _) from hide (Sb.of (Below.refl _ _).drew)) (fun hS=>?_)
  refine tkH 0 (some 15) ?va0 rfl ?ya0 hS ?ra0
  case ya0=>(intro wy hSw;(try dsimp only at hSw);have h0:=(hSw.1.blk HBB.1 (by omega)).cell 0;go_simp;try with_reducible rfl)
  try simp only [aP]
  refine tkH 1 (some 16) ?va1 rfl ?ya1 hS ?ra1
  case ya1=>(intro wy hSw;(try dsimp only at hSw);go_simp;try with_reducible rfl)
  try simp only [aP]
  refine tkH 2 (some 17) ?va2 rfl ?ya2 hS ?ra2
  case ya2=>(intro wy hSw;(try dsimp only at hSw);have h0:=(hSw.1.blk HNB.1 hpne).cell 0;have h1:=(hSw.1.blk HNB.1 hpne).cell 1;have h2:=(hSw.1.blk HNB.1 hpne).cell 2;have h3:=(hSw.1.blk HNB.1 hpne).cell 3;have h4:=(hSw.1.blk HNB.1 hpne).cell 4;have h5:=(hSw.1.blk HNB.1 hpne).cell 5;have h6:=(hSw.1.blk HNB.1 hpne).cell 6;have h7:=(hSw.1.blk HNB.1 hpne).cell 7;have h8:=(hSw.1.blk HNB.1 hpne).cell 8;have h9:=(hSw.1.blk HNB.1 hpne).cell 9;go_simp;try with_reducible rfl)
  try simp only [aP]
  refine tkH 3 (some 18) ?va3 rfl ?ya3 hS ?ra3
  case ya3=>(intro wy hSw;(try dsimp only at hSw);have h0:=(hSw.1.blk HNB.1 hpne).cell 0;have h1:=(hSw.1.blk HNB.1 hpne).cell 1;have h2:=(hSw.1.blk HNB.1 hpne).cell 2;have h3:=(hSw.1.blk HNB.1 hpne).cell 3;have h4:=(hSw.1.blk HNB.1 hpne).cell 4;have h5:=(hSw.1.blk HNB.1 hpne).cell 5;have h6:=(hSw.1.blk HNB.1 hpne).cell 6;have h7:=(hSw.1.blk HNB.1 hpne).cell 7;have h8:=(hSw.1.blk HNB.1 hpne).cell 8;have h9:=(hSw.1.blk HNB.1 hpne).cell 9;go_simp;try with_reducible rfl)
  try simp only [aP]
  refine tkH 4 (some 19) ?va4 rfl ?ya4 hS ?ra4
  case ya4=>(intro wy hSw;(try dsimp only at hSw);have h0:=(hSw.1.blk HBB.1 (by omega)).cell 0;go_simp;try with_reducible rfl)
  try simp only [aP]
  refine wpAnyH_ready (rs:=[5]) (by kernel_rfl) (by simp) ?_
  refine AllReadyH.cons (o:=⟨some 20,_,_,_,_,_⟩) rfl (fun K hK=>?_) AllReadyH.nil
  go_simp
  refine CK.1.mono ?_
  rintro e wq1 ⟨v,rfl,hcut⟩
  obtain ⟨A1,c1,rfl,hlst,hc1,hm1⟩:=own_lst2 hcut.1
  have hB1:Below W.heap.size W wq1:=((Below.refl _ W).drew).trans hcut.2
  have CO:=hide (of_any nd (.slice sx.a sx.n sx.c) (.slice ka nd.kids.length kc) (kidsW nd.kids arr) A1 c1 wq1 HREP.1 HKL.1 hc1 (by unfold maxLen at hm1;omega) hlst HKIN.1)
  have HB1:=hide hB1
  clear hcut hlst hB1 CK
  generalize hkw:kidsW nd.kids arr=kw at *
  obtain ⟨q,hq⟩:∃ q,ofW nd kw=q:=⟨_,rfl⟩
  have HOKQ:=hide (show OkW q from by rw [← hq];exact ok_of HREP.1 HKIN.1)
  rw [hq] at CO HKN
  clear hkw hq HKL HKIN
  go_wp2_with fail
  refine hK.out _ _ (hide (Sb.of HB1.1)) (fun hS=>?_)
  clear hK K
  try simp only [aP]
  refine wpAnyH_ready (rs:=[6]) (by kernel_rfl) (by simp) ?_
  refine AllReadyH.cons (o:=⟨some 21,_,_,_,_,_⟩) rfl (fun K hK=>?_) AllReadyH.nil
  go_simp
  refine CO.1.mono ?_
  rintro e wq2 ⟨rfl,hb2⟩
  have hB2:Below W.heap.size W wq2:=HB1.1.trans (hb2.mono HB1.1.size)
  have HB2:=hide hB2
  have hE3:=HE2.1.below hB2 HE2.1.lt
  obtain ⟨r,hr⟩:∃ r,arr[x.val]?=some r:=⟨_,List.getElem?_eq_getElem (by omega)⟩
  have k0:=hE3.cell (x.val*2)
  have k1:=hE3.cell (x.val*2+1)
  rw [(wds_at hr).1] at k0
  rw [(wds_at hr).2] at k1
  have f0:=hE3.frozen (x.val*2)
  have f1:=hE3.frozen (x.val*2+1)
  have HE3:=hide hE3
  clear hb2 hB2 hE3 hr CO HB1
  go_wp2_with fail
  refine hK.out _ _ (hide (Sb.of HB2.1)) (fun hS=>?_)
  clear hK K
  try simp only [aP]
  refine tkH 7 (some 22) ?va7 rfl ?ya7 hS ?ra7
  case ya7=>(intro wy hSw;(try dsimp only at hSw);go_simp;try with_reducible rfl)
  try simp only [aP]
  refine wpAnyH_ready (rs:=[8]) (by kernel_rfl) (by simp) ?_
  refine AllReadyH.cons (o:=⟨none,_,_,_,_,_⟩) rfl (fun K hK=>?_) AllReadyH.nil
  go_simp
  refine hK.out _ _ (hide (((Sb.of HB2.1).set_ _ _).set_ _ _)) (fun hS=>?_)
  clear hK K
  refine wpAnyH_done (by kernel_rfl) ?_ _
  refine RegTail.only_norm ?_
  have hB2:=HB2.1
  have hE4:=(HE3.1.set_ (x.val*2) (.int .i64 q.1)).set_ (x.val*2+1) (.int .i64 q.2)
  rw [wds_set (by omega) q] at hE4
  have HE4:=hide hE4
  have HQ:=hide (show OkW q from HOKQ.1)
  clear hE4
  gi_wp2_with fail
  refine ⟨⟨?_,?_⟩,⟨fun z hz=>?_,?_⟩,⟨arr.set x.val q,⟨HE4.1,fun z hz=>?_,?_⟩,by rw [List.length_set];exact hl,fun a ha=>?_,HKN.1⟩,?_⟩
  ·exact Nat.le_trans hB2.size (by simp [World.setCell])
  ·intro z o hz ho hc
   exact (KeepsOthers.setCell _ _ _).same z o ((KeepsOthers.setCell _ _ _).same z o ((hB2.block z (Array.getElem?_eq_some_iff.1 ho).1).trans ho) hc) hc
  ·rw [Below.heap_setCell _ _ _ z (by rcases hz with h|h<;>(simp;omega)),Below.heap_setCell _ _ _ z (by rcases hz with h|h<;>(simp;omega))]
   exact hB2.block z (by rcases hz with h|h<;>omega)
  ·exact Nat.le_trans hB2.size (by simp [World.setCell])
  ·rw [Below.heap_setCell _ _ _ z (by have:=hz.2;simp;omega),Below.heap_setCell _ _ _ z (by have:=hz.2;simp;omega),hB2.block z (by have:=hz.1;omega)]
   exact HS2.1 z hz
  ·exact Nat.le_trans hsz (Nat.le_trans hB2.size (by simp [World.setCell]))
  ·rcases List.mem_or_eq_of_mem_set ha with h|rfl
   ·exact HOKS.1 a h
   ·exact HQ.1
  ·exact (((HBW.1.trans (hB2.mono HBW.1.size)).setCell (p:=⟨w.heap.size+1,_,none⟩) (by simp) _).setCell (p:=⟨w.heap.size+1,_,none⟩) (by simp) _)
 case done=>
  rintro D ys W hD rfl ⟨⟨arr,⟨hE,hS,hsz⟩,hl,hoks,hkn⟩,hBw⟩ hK
  have bB2:Blk W (w.heap.size+2) 32 #[.slice (some ⟨w.heap.size+1,0,none⟩) L.length L.length]:=(hS _ ⟨by omega,by omega⟩).trans bB
  obtain rfl:=wkn_all hkn
  have c0:=bB2.cell 0
  have HE:=hide hE
  have HBW:=hide hBw
  have HK:=hide hK
  have HD:=hide hD
  clear hE hBw hK hD hkn hoks hS bB2 bB bE bp
  gi_wp2
  have hK:=HK.1
  refine ⟨by simp,.inl ⟨_,_,rfl,run_takeDeferred hK,?_⟩⟩
  have hE:=HE.1
  exact ⟨_,results_tmp rfl _ _ _,_,rfl,ownsRow_putObj (wds_own (by omega) hE hl hlen) _ hK rfl,HBW.1.trans (belowK_b (w:=w) (Nat.le_refl _) W D _ _ (by have:=HD.1;omega) hK rfl rfl)⟩
 case stop=>
  rintro D c pre W _ _ h _
  exact h.elim
theorem widths_any (t:Tr) (v:Value) (B:Nat) (w:World) (hB:B≤w.heap.size) (hpos:0<t.nodes.length) (hok:NdsOk t.nodes) (hT:TreeV w B t v) :
  Calls Tryz.prog 9 #[v] w fun e w'=>∃ v',e=.returned v'∧CutW w (widthsW t.nodes) v' w':=by
 obtain ⟨b,off,cap,An,cn,sv,kv,rfl,hb,h1,h2,hL,hK⟩:=tree_lies hT hpos
 exact widths_flat t.nodes hpos hok b off cap h1 h2 t.groups _ sv kv w (by omega) hL (fun k nd hk=>KidsV.up (hK k nd hk) hB)
end
section
open Go.RowKit Mem Rs As
attribute [local go_sem] run_not_true run_not_false
def CRel (L:List Nd) (WL:List Wd) (g:Int) (w2:World) (i:Value) (wr:World):Prop:=∃ k:Nat,i=.int .i64 (k:Int)∧k≤L.length∧Below w2.heap.size w2 wr∧∀ x∈L.take k,wrongB x g (sumW (kidsW x.kids WL))=0
theorem cellsN {W:World} {g:Nat} {nd:Nd} {vs vk:Value} (h:Blk W g 49 (ndk nd vs vk)):W.cell? ⟨g,0,none⟩=some (.int .i64 nd.kind)∧W.cell? ⟨g,1,none⟩=some (.int .i64 nd.from_)∧W.cell? ⟨g,2,none⟩=some (.int .i64 nd.to_)∧W.cell? ⟨g,3,none⟩=some (.int .i64 nd.num)∧W.cell? ⟨g,4,none⟩=some (.int .i64 nd.mn)∧W.cell? ⟨g,5,none⟩=some (.int .i64 nd.mx)∧W.cell? ⟨g,6,none⟩=some (.int .i64 nd.mode)∧W.cell? ⟨g,7,none⟩=some (str nd.name)∧W.cell? ⟨g,8,none⟩=some vs∧W.cell? ⟨g,9,none⟩=some vk:=⟨h.cell 0,h.cell 1,h.cell 2,h.cell 3,h.cell 4,h.cell 5,h.cell 6,h.cell 7,h.cell 8,h.cell 9⟩
theorem check_flat (L:List Nd) (hpos:0<L.length) (hok:NdsOk L) (b off cap:Nat) (hcap:L.length≤cap) (hc2:cap≤9223372036854775807) (g:Int) (c:Value) (sv kv:Nat→Sl) (w:World) (hb:b<w.heap.size) (hL:Lies10 w b off L sv kv) (hK:∀ (k:Nat) nd,L[k]?=some nd→KidsV w w.heap.size nd.kids (.slice (kv k).a (kv k).n (kv k).c)) :
  Calls Tryz.prog 11 #[.agg #[.slice (some ⟨b,off,none⟩) L.length cap,.int .i64 g,c]] w fun e w'=>e=.returned (.tuple #[.int .i64 (chkL g (widthsW L) L).1,.int .i64 (chkL g (widthsW L) L).2])∧Below w.heap.size w w':=by
 have hlen:=hok.few
 have hb0:Below w.heap.size w (w.alloc (.cells #[.slice (some ⟨b,off,none⟩) L.length cap,.int .i64 g,c] 25)):=(Below.refl w.heap.size w).alloc (Nat.le_refl _) _
 have bT:=Blk.new w 25 #[.slice (some ⟨b,off,none⟩) L.length cap,.int .i64 g,c]
 have c0:=bT.cell 0
 have c1:=bT.cell 1
 have c2:=bT.cell 2
 have CW:=hide (widths_flat L hpos hok b off cap hcap hc2 g c sv kv (w.alloc (.cells #[.slice (some ⟨b,off,none⟩) L.length cap,.int .i64 g,c] 25)) (by simp;omega) (hL.keep (hb0.block b hb)) (fun k nd hk=>KidsV.up ((hK k nd hk).keep fun p hp=>hb0.cell hp) (by simp)))
 have HL:=hide hL
 have HKV:=hide hK
 have HOK:=hide hok
 have HBT:=hide bT
 have HB0:=hide hb0
 clear hL hK hok bT hb0
 go_enter Tryz.func11,Tryz.ntmps11
 go_wp2_with fail
 refine CW.1.mono ?_
 rintro e w2 ⟨v2,rfl,hcut⟩
 obtain ⟨A2,cap2,rfl,hlst,hc3,hm2⟩:=own_lst2 hcut.1
 have hwl:=widths_len L
 have hW:=widths_ok L HOK.1.rep
 have bT2:=HBT.1.below hcut.2 (by simp)
 have hb2:Below w.heap.size w w2:=HB0.1.trans (hcut.2.mono (by simp))
 have HLST:=hide hlst
 have HWO:=hide hW
 have HBT2:=hide bT2
 have HB2:=hide hb2
 clear c0 c1 c2 HBT HB0 CW hcut hlst hW bT2 hb2
 have c0:=HBT2.1.cell 0
 generalize hWL:widthsW L=WL at *
 have HWL:=hide hwl
 have HWE:=hide hWL
 clear hwl hWL
 go_wp2_with fail
 clear c0
 go_loopw [13] (fun i wr=>CRel L WL g w2 i wr) (fun i _=>L.length-(intOf i).toNat)
 case atStart=>exact ⟨0,by go_num,Nat.zero_le _,Below.refl _ _,by simp⟩
 case round=>
  obtain ⟨k,rfl,hk,hbr,hz⟩:=hrel
  have hbw:Below w.heap.size w wr:=HB2.1.trans (hbr.mono HB2.1.size)
  have bT:=HBT2.1.below hbr HBT2.1.lt
  have HBR:=hide hbr
  have HBW:=hide hbw
  have HZ:=hide hz
  have HTR:=hide bT
  go_hideQ
  by_cases hlt:k<L.length
  ·obtain ⟨nd,hnd⟩:∃ nd,L[k]?=some nd:=⟨_,List.getElem?_eq_getElem hlt⟩
   obtain ⟨d0,d1,d2,d3,d4,d5,d6,d7,d8,d9⟩:=(HL.1.keep (hbw.block b hb)) k nd hnd
   have hkv:=HKV.1 k nd hnd
   have hki:(k:Int)<(L.length:Int):=by omega
   have hk0:(0:Int)≤(k:Int):=by omega
   have hkl:nd.kids.length≤100000:=HOK.1.kids nd (List.mem_of_getElem? hnd)
   generalize kv k=kx at *
   generalize sv k=sx at *
   obtain ⟨ka,kn,kc⟩:=kx
   obtain ⟨A9,cap9,e9,k1,k2,k3⟩:=hkv
   simp only [Value.slice.injEq] at e9
   obtain ⟨rfl,rfl,rfl⟩:=e9
   have hW1:Below wr.heap.size wr (wr.alloc (.cells (ndk nd (.slice sx.a sx.n sx.c) (.slice ka nd.kids.length kc)) 49)):=(Below.refl _ _).alloc (Nat.le_refl _) _
   have HNB:=hide (Blk.new wr 49 (ndk nd (.slice sx.a sx.n sx.c) (.slice ka nd.kids.length kc)))
   have HTB:=hide (bT.alloc (.cells (ndk nd (.slice sx.a sx.n sx.c) (.slice ka nd.kids.length kc)) 49))
   have hbx:Below w.heap.size w (wr.alloc (.cells (ndk nd (.slice sx.a sx.n sx.c) (.slice ka nd.kids.length kc)) 49)):=hbw.trans (hW1.mono hbw.size)
   have hl2:=HLST.1.below (hbr.trans (hW1.mono hbr.size))
   have CK:=hide (kids_any nd (.slice sx.a sx.n sx.c) ka kc WL A2 cap2 (wr.alloc (.cells (ndk nd (.slice sx.a sx.n sx.c) (.slice ka nd.kids.length kc)) 49)).drew hkl k1 ((k3.keep fun a ha=>hbx.cell ha).more hbx.size) (by have:=HWL.1;omega) hc3 (hl2.more (show w2.heap.size≤_ from Nat.le_trans hbr.size hW1.size)))
   have HKL:=hide (Nat.le_trans (kids_len nd.kids WL) hkl)
   have HKIN:=hide (kids_in (kids:=nd.kids) HWO.1)
   have HND:=hide hnd
   have HB2W:=hide (hbr.trans (hW1.mono hbr.size))
   clear hW1 hbx hl2 hkl k3 hnd hbw bT hbr hz
   go_wp2_with fail
   generalize hWx:wr.alloc (.cells (ndk nd (.slice sx.a sx.n sx.c) (.slice ka nd.kids.length kc)) 49)=W at *
   have HWX:=hide hWx
   clear hWx d0 d1 d2 d3 d4 d5 d6 d7 d8 d9
   refine wp_region_noPanic ?_
   refine wp_region_held_drew (S:=fun wx=>Hd (Below W.heap.size W wx)) (by kernel_rfl) (show Hd (Below W.heap.size W _) from hide (Below.refl _ _).drew) (fun hS=>?_)
   refine tkH 0 (some 17) ?va0 rfl ?ya0 hS ?ra0
   case ya0=>(intro wy hSw;(try dsimp only at hSw);have h0:=(HNB.1.below hSw.1 HNB.1.lt).cell 0;have h1:=(HNB.1.below hSw.1 HNB.1.lt).cell 1;have h2:=(HNB.1.below hSw.1 HNB.1.lt).cell 2;have h3:=(HNB.1.below hSw.1 HNB.1.lt).cell 3;have h4:=(HNB.1.below hSw.1 HNB.1.lt).cell 4;have h5:=(HNB.1.below hSw.1 HNB.1.lt).cell 5;have h6:=(HNB.1.below hSw.1 HNB.1.lt).cell 6;have h7:=(HNB.1.below hSw.1 HNB.1.lt).cell 7;have h8:=(HNB.1.below hSw.1 HNB.1.lt).cell 8;have h9:=(HNB.1.below hSw.1 HNB.1.lt).cell 9;go_simp;try with_reducible rfl)
   try simp only [aP]
   refine tkH 1 (some 18) ?va1 rfl ?ya1 hS ?ra1
   case ya1=>(intro wy hSw;(try dsimp only at hSw);go_simp;try with_reducible rfl)
   try simp only [aP]
   refine tkH 2 (some 19) ?va2 rfl ?ya2 hS ?ra2
   case ya2=>(intro wy hSw;(try dsimp only at hSw);have h0:=(HTB.1.below hSw.1 HTB.1.lt).cell 0;have h1:=(HTB.1.below hSw.1 HTB.1.lt).cell 1;have h2:=(HTB.1.below hSw.1 HTB.1.lt).cell 2;go_simp;try with_reducible rfl)
   try simp only [aP]
   refine tkH 3 (some 20) ?va3 rfl ?ya3 hS ?ra3
   case ya3=>(intro wy hSw;(try dsimp only at hSw);have h0:=(HNB.1.below hSw.1 HNB.1.lt).cell 0;have h1:=(HNB.1.below hSw.1 HNB.1.lt).cell 1;have h2:=(HNB.1.below hSw.1 HNB.1.lt).cell 2;have h3:=(HNB.1.below hSw.1 HNB.1.lt).cell 3;have h4:=(HNB.1.below hSw.1 HNB.1.lt).cell 4;have h5:=(HNB.1.below hSw.1 HNB.1.lt).cell 5;have h6:=(HNB.1.below hSw.1 HNB.1.lt).cell 6;have h7:=(HNB.1.below hSw.1 HNB.1.lt).cell 7;have h8:=(HNB.1.below hSw.1 HNB.1.lt).cell 8;have h9:=(HNB.1.below hSw.1 HNB.1.lt).cell 9;go_simp;try with_reducible rfl)
   try simp only [aP]
   refine tkH 4 (some 21) ?va4 rfl ?ya4 hS ?ra4
   case ya4=>(intro wy hSw;(try dsimp only at hSw);go_simp;try with_reducible rfl)
   try simp only [aP]
   refine wpAnyH_ready (rs:=[5]) (by kernel_rfl) (by simp) ?_
   refine AllReadyH.cons (o:=⟨some 22,_,_,_,_,_⟩) rfl (fun K hK=>?_) AllReadyH.nil
   go_simp
   refine CK.1.mono ?_
   rintro e wq1 ⟨v,rfl,hcut⟩
   obtain ⟨A3,c3,rfl,hlst,hc4,hm4⟩:=own_lst2 hcut.1
   have hB1:Below W.heap.size W wq1:=((Below.refl _ W).drew).trans hcut.2
   have CS:=hide (sum_any (kidsW nd.kids WL) A3 c3 wq1 HKL.1 hlst HKIN.1)
   have HB1:=hide hB1
   clear hcut hlst hB1 CK
   obtain ⟨q,hq⟩:∃ q,sumW (kidsW nd.kids WL)=q:=⟨_,rfl⟩
   rw [hq] at CS
   have HSQ:=hide hq
   generalize hkw:kidsW nd.kids WL=kw at *
   have HKW:=hide hkw
   clear hq hkw
   go_wp2_with fail
   refine hK.out _ _ (hide HB1.1) (fun hS=>?_)
   clear hK K
   try simp only [aP]
   refine wpAnyH_ready (rs:=[6]) (by kernel_rfl) (by simp) ?_
   refine AllReadyH.cons (o:=⟨some 23,_,_,_,_,_⟩) rfl (fun K hK=>?_) AllReadyH.nil
   go_simp
   refine CS.1.mono ?_
   rintro e wq2 ⟨rfl,hb2⟩
   have HB3:=hide (HB1.1.trans (hb2.mono HB1.1.size))
   clear hb2 CS
   go_wp2_with fail
   refine hK.out _ _ (hide HB3.1) (fun hS=>?_)
   clear hK K
   try simp only [aP]
   refine wpAnyH_ready (rs:=[7]) (by kernel_rfl) (by simp) ?_
   refine AllReadyH.cons (o:=⟨some 24,_,_,_,_,_⟩) rfl (fun K hK=>?_) AllReadyH.nil
   go_simp
   refine (wrong_any nd (.slice sx.a sx.n sx.c) (.slice ka nd.kids.length kc) g q.1 q.2 _).mono ?_
   rintro e wq3 ⟨rfl,hb3⟩
   have HB4:=hide (HB3.1.trans (hb3.mono HB3.1.size))
   clear hb3
   obtain ⟨z,hzz⟩:∃ z,wrongB nd g (q.1,q.2)=z:=⟨_,rfl⟩
   rw [hzz]
   have HZZ:=hide hzz
   clear hzz
   go_wp2_with fail
   refine hK.out _ _ (hide HB4.1) (fun hS=>?_)
   clear hK K
   try simp only [aP]
   refine tkH 8 (some 7) ?va8 rfl ?ya8 hS ?ra8
   case ya8=>(intro wy hSw;(try dsimp only at hSw);go_simp;try with_reducible rfl)
   try simp only [aP]
   refine wpAnyH_done (by kernel_rfl) ?_ _
   refine NoPanic.normal ?_
   have hq:=HSQ.1
   have hbW:=HB2W.1.trans (HB4.1.mono HB2W.1.size)
   have hbN:=HNB.1.below HB4.1 HNB.1.lt
   obtain ⟨n0,n1,n2,n3,n4,n5,n6,n7,n8,n9⟩:=cellsN hbN
   have HBWW:=hide hbW
   clear hbW hbN HB1 HB3
   by_cases hz0:z=0
   ·have e0:(z != 0)=false:=by simp [hz0]
    have HZ1:=hide (show ∀ x∈L.take (k+1),wrongB x g (sumW (kidsW x.kids WL))=0 from fun x hx=>by
     rw [List.take_succ_eq_append_getElem hlt,List.mem_append] at hx
     rcases hx with hx|hx
     ·exact HZ.1 x hx
     ·have e1:L[k]=nd:=by have:=HND.1;rw [List.getElem?_eq_getElem hlt] at this;simpa using this
      rw [List.mem_singleton,e1] at hx
      subst hx
      rw [HKW.1,hq,← hz0]
      exact HZZ.1)
    clear hz0 hq
    go_wp2_with fail
    have hR:CRel L WL g w2 (.int .i64 ((k:Int)+1)) wq3:=⟨k+1,by go_num,by omega,HBWW.1,HZ1.1⟩
    first|go_roundw|refine ⟨?rel,?measure⟩
    case rel=>exact hR
    case measure=>simp [intOf];omega
   ·have e0:(z != 0)=true:=by simp [hz0]
    have HR:=hide (show chkL g WL L=(z,nd.from_) from by
     have:=chk_at (g:=g) (ws:=WL) HND.1 HZ.1 (by rw [HKW.1,hq];rw [← HZZ.1] at hz0;exact hz0)
     rw [HKW.1,hq] at this
     rw [this]
     exact congrArg (fun y=>(y,nd.from_)) HZZ.1)
    clear hz0 hq
    go_wp2_with fail
    go_quiet (fail)
    go_wp2_with fail
    go_ret2
    rw [HWE.1,HR.1]
    exact ⟨rfl,below_drewN (HB2.1.trans (HBWW.1.mono HB2.1.size)) _⟩
  ·obtain rfl:k=L.length:=by omega
   have HR:=hide (show chkL g WL L=(0,0) from chk_no (by have:=hz;rwa [List.take_length] at this))
   clear hz bT hbr hbw
   go_wp2
   go_ret2
   rw [HWE.1,HR.1]
   exact ⟨rfl,HBW.1⟩
theorem check_any (t:Tr) (v:Value) (B:Nat) (w:World) (hB:B≤w.heap.size) (hpos:0<t.nodes.length) (hok:NdsOk t.nodes) (hT:TreeV w B t v) :
  Calls Tryz.prog 11 #[v] w fun e w'=>e=.returned (.tuple #[.int .i64 (checkT t).1,.int .i64 (checkT t).2])∧Below w.heap.size w w':=by
 obtain ⟨b,off,cap,An,cn,sv,kv,rfl,hb,h1,h2,hL,hK⟩:=tree_lies hT hpos
 exact check_flat t.nodes hpos hok b off cap h1 h2 t.groups _ sv kv w (by omega) hL (fun k nd hk=>KidsV.up (hK k nd hk) hB)
end
end Go.Proofs.YtmlbklcmblofkaaGreatDoor.We
