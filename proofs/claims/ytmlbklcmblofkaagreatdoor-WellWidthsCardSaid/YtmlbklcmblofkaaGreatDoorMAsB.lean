/-
  slices.Backward at nodes and its closure, walked: a function value that hands the nodes from behind, each with
-/
import Derived.Test.YtmlbklcmblofkaaGreatDoorMAsA
set_option linter.unusedSimpArgs false
set_option linter.unusedVariables false
set_option maxHeartbeats 4000000
set_option maxRecDepth 100000
namespace Go.Proofs.YtmlbklcmblofkaaGreatDoor.As
section
open Go.RowKit Mem Rs
structure Sl where
 a:Option Addr
 n:Nat
 c:Nat
def Lies10 (w:World) (b off:Nat) (L:List Nd) (sv kv:Nat→Sl):Prop:=∀ (k:Nat) nd,L[k]?=some nd →
 w.cell? ⟨b,off+k*10,none⟩=some (.int .i64 nd.kind)∧w.cell? ⟨b,off+k*10+1,none⟩=some (.int .i64 nd.from_)∧w.cell? ⟨b,off+k*10+2,none⟩=some (.int .i64 nd.to_)∧w.cell? ⟨b,off+k*10+3,none⟩=some (.int .i64 nd.num)∧w.cell? ⟨b,off+k*10+4,none⟩=some (.int .i64 nd.mn)∧w.cell? ⟨b,off+k*10+5,none⟩=some (.int .i64 nd.mx)∧w.cell? ⟨b,off+k*10+6,none⟩=some (.int .i64 nd.mode) ∧
 w.cell? ⟨b,off+k*10+7,none⟩=some (str nd.name)∧w.cell? ⟨b,off+k*10+8,none⟩=some (.slice (sv k).a (sv k).n (sv k).c)∧w.cell? ⟨b,off+k*10+9,none⟩=some (.slice (kv k).a (kv k).n (kv k).c)
theorem Lies10.keep {w w':World} {b off:Nat} {L:List Nd} {sv kv:Nat→Sl} (h:Lies10 w b off L sv kv) (hk:w'.heap[b]?=w.heap[b]?):Lies10 w' b off L sv kv:=fun k nd hn=>by
 have up:∀ j u,w.cell? ⟨b,j,none⟩=some u→w'.cell? ⟨b,j,none⟩=some u:=fun j u h=>(World.cell?_of_block (a:=⟨b,j,none⟩) hk).trans h
 obtain ⟨h0,h1,h2,h3,h4,h5,h6,h7,h8,h9⟩:=h k nd hn
 exact ⟨up _ _ h0,up _ _ h1,up _ _ h2,up _ _ h3,up _ _ h4,up _ _ h5,up _ _ h6,up _ _ h7,up _ _ h8,up _ _ h9⟩
end
section
open Go.RowKit Go.Shelf Mem Rs
attribute [local go_sem] Oper.semAt_some run_not_true run_not_false
def KB (B p:Nat) (k:Nat):Prop:=k<B∨k=p
def BRel (L:List Nd) (B p:Nat) (J:List (Fin L.length)→World→Prop) (W:World) (i:Value) (wr:World):Prop:=
 ∃ q:Nat,i=.int .i64 ((L.length:Int)-1-(q:Int))∧q≤L.length∧J ((items L.length).take q) wr∧Stays (KB B p) W wr∧W.heap.size≤wr.heap.size
theorem take_snoc {n q:Nat} (h:q<n):(items n).take (q+1)=(items n).take q++[⟨n-1-q,by omega⟩]:=by
 have h1:=items_at h
 obtain ⟨hlt,e⟩:=List.getElem?_eq_some_iff.1 h1
 rw [List.take_succ_eq_append_getElem hlt,e]
theorem back1_in (n:Nat) (hn:1≤n) (lb B p b off cap:Nat) (L:List Nd) (sv kv:Nat→Sl) (hlen:L.length≤100000) (hcap:L.length≤cap)
  (J Jx:List (Fin L.length)→World→Prop) (W:World) (hbB:b<B) (hB:B≤W.heap.size) (hL:Lies10 W b off L sv kv) (hp:Blk W p 22 #[.slice (some ⟨b,off,none⟩) L.length cap])
  (hJ:AbidesFrom W.heap.size J)
  (hY:∀ pre x W1,J pre W1→pre.length<L.length→YieldAt Fence.wide (n-1) Tryz.prog lb #[.int .i64 (x.val:Int),.agg #[.int .i64 (L.get x).kind,.int .i64 (L.get x).from_,.int .i64 (L.get x).to_,.int .i64 (L.get x).num,.int .i64 (L.get x).mn,.int .i64 (L.get x).mx,.int .i64 (L.get x).mode,str (L.get x).name,.slice (sv x.val).a (sv x.val).n (sv x.val).c,.slice (kv x.val).a (kv x.val).n (kv x.val).c]] W1 fun e W'=>
   (e=.returned (.bool true)∧J (pre++[x]) W'∧(Stays (KB B p) W1 W'∧W1.heap.size≤W'.heap.size))∨(e=.returned (.bool false)∧Jx (pre++[x]) W'))
  (h0:J [] W) :
  CallsIn Fence.wide n Tryz.prog 26 #[.func (.yield lb) #[] #[],.pointer (some ⟨p,0,none⟩)] W fun e W'=>(∃ v,e=.returned v) ∧
   ((∃ ys,ys=items L.length∧J ys W')∨(∃ pre,pre <+: items L.length∧Jx pre W')):=by
 refine callsIn_of_wp Tryz.func26 rfl trivial ?_ rfl
 simp only [Tryz.ntmps26,List.size_toArray,List.length_cons,List.length_nil,Nat.reduceAdd,Nat.reduceSub,Array.replicate_succ,Array.replicate_zero,List.push_toArray,List.append_toArray,List.nil_append,List.cons_append]
 have c0:=hp.cell 0
 have HJ:=hide hJ
 have HP:=hide hp
 have HY:=hide hY
 have HL:=hide hL
 clear hJ hp hY hL
 gi_wp2_with fail
 gi_loopw [3] (fun i wr=>BRel L B p J W i wr) (fun i _=>(intOf i+1).toNat)
 case atStart=>exact ⟨0,by simp,by omega,by rw [List.take_zero];exact h0,Stays.refl _ _,Nat.le_refl _⟩
 case round=>
  obtain ⟨q,rfl,hq,hJs,hst,hsz⟩:=hrel
  have bp:Blk wr p 22 #[.slice (some ⟨b,off,none⟩) L.length cap]:=(hst _ (.inr rfl)).trans HP.1
  have hLw:=HL.1.keep (hst b (.inl hbB))
  have c0:=bp.cell 0
  gi_hideQ
  by_cases hlt:q<L.length
  ·obtain ⟨k,hk⟩:∃ k:Nat,L.length-1-q=k:=⟨_,rfl⟩
   have hki:(L.length:Int)-1-(q:Int)=(k:Int):=by omega
   have hkl:k<L.length:=by omega
   obtain ⟨x,hx⟩:∃ x:Fin L.length,x=⟨k,hkl⟩:=⟨_,rfl⟩
   have hts:(items L.length).take (q+1)=(items L.length).take q++[x]:=by rw [take_snoc hlt,hx];simp [hk]
   have hpl:((items L.length).take q).length<L.length:=by rw [List.length_take,items_len];omega
   have hpf:=hide (show (items L.length).take q++[x] <+: items L.length from by rw [← hts];exact List.take_prefix _ _)
   obtain ⟨d0,d1,d2,d3,d4,d5,d6,d7,d8,d9⟩:=hLw k (L.get x) (by rw [hx];exact List.getElem?_eq_getElem hkl)
   have HY2:=hide (HY.1 ((items L.length).take q) x wr hJs hpl)
   have hxk:x.val=k:=by rw [hx]
   have hkn:(k:Int)<(L.length:Int):=by omega
   have hk0:(0:Int)≤(k:Int):=by omega
   have HST:=hide hst
   have HTS:=hide hts
   rw [hxk] at HY2
   rw [hki]
   clear hJs hst hts hLw bp hpl
   generalize L.get x=nd at *
   generalize sv k=s8 at *
   generalize kv k=s9 at *
   obtain ⟨fn,tmps,assign,body,hy,hR⟩:=HY2.1
   clear HY2
   gi_wp2_with fail
   refine hR.mono ?_
   rintro e' W3 (⟨rfl,hJ3,hk3,hz3⟩|⟨rfl,hJx3⟩)
   ·clear hy hR
    have hRR:BRel L B p J W (.int .i64 ((k:Int)-1)) W3:=⟨q+1,by rw [show (k:Int)-1=(L.length:Int)-1-((q+1:Nat):Int) by omega],by omega,by rw [HTS.1];exact hJ3,HST.1.trans hk3,Nat.le_trans hsz hz3⟩
    have HRR:=hide hRR
    clear hRR hJ3 hk3
    gi_wp2_with fail
    have hR:=HRR.1
    first|go_roundw|refine ⟨?rel,?measure⟩
    case rel=>exact hR
    case measure=>simp [intOf];omega
   ·clear hy hR
    gi_wp2
    refine bodyPost_ret (results_none rfl _ _ _) rfl ?_
    exact ⟨⟨_,rfl⟩,.inr ⟨_,hpf.1,hJx3⟩⟩
  ·obtain rfl:q=L.length:=by omega
   have hneg:(L.length:Int)-1-(L.length:Int)=-1:=by omega
   rw [hneg]
   rw [List.take_of_length_le (by rw [items_len];omega)] at hJs
   have HJs:=hide hJs
   clear hJs hst hLw bp
   gi_wp2
   go_end0
   exact ⟨⟨_,rfl⟩,.inl ⟨_,by rfl,HJs.1⟩⟩
theorem backward_any (A:Option Addr) (n cap:Nat) (w:World) :
  Calls Tryz.prog 16 #[.slice A n cap] w fun e w'=>e=.returned (.func (.func 26) #[] #[.pointer (some ⟨w.heap.size,0,none⟩)])∧w'=w.alloc (.cells #[.slice A n cap] 22):=by
 go_enter Tryz.func16,Tryz.ntmps16
 go_wp2
 go_ret
 exact ⟨rfl,rfl⟩
theorem back_stops (n:Nat) (hn:1≤n) (B p b off cap:Nat) (L:List Nd) (sv kv:Nat→Sl) (hlen:L.length≤100000) (hcap:L.length≤cap) (w:World) (hbB:b<B) (hB:B≤w.heap.size) (hL:Lies10 w b off L sv kv) (hp:Blk w p 22 #[.slice (some ⟨b,off,none⟩) L.length cap]) :
  SeqStopsK Fence.wide n Tryz.prog 26 #[.pointer (some ⟨p,0,none⟩)] (fun x:Fin L.length=>#[Value.int .i64 (x.val:Int),.agg #[.int .i64 (L.get x).kind,.int .i64 (L.get x).from_,.int .i64 (L.get x).to_,.int .i64 (L.get x).num,.int .i64 (L.get x).mn,.int .i64 (L.get x).mx,.int .i64 (L.get x).mode,str (L.get x).name,.slice (sv x.val).a (sv x.val).n (sv x.val).c,.slice (kv x.val).a (kv x.val).n (kv x.val).c]]) (Keeps (KB B p)) (fun ys=>ys=items L.length)
   (fun pre=>pre <+: items L.length) L.length w:=fun lb J Jx W hW hJ _ hY h0=>
 back1_in n hn lb B p b off cap L sv kv hlen hcap J Jx W hbB (Nat.le_trans hB hW.size) (hL.keep (hW.block b (by omega))) (hp.below hW hp.lt) hJ hY h0
theorem kb_lt {B p:Nat} {w:World} (hB:B≤w.heap.size) (hp:p<w.heap.size):∀ k,KB B p k→k<w.heap.size:=fun k hk=>by
 rcases hk with h|rfl<;>omega
end
end Go.Proofs.YtmlbklcmblofkaaGreatDoor.As
