/-
  An append onto a slice that is full (whatever marks its row bears), or onto a row of the call's own; bytes.
-/
import Derived.Test.YtmphmddmfcaldaaGreatDoorMPaF
set_option linter.unusedSimpArgs false
set_option linter.unusedVariables false
namespace Go.Proofs.YtmphmddmfcaldaaGreatDoor.Pa
open Go.RowKit Mem
theorem info_byteP:(Tryz.prog.info? 5).map (fun i=>(i.zero,i.size,i.bytes))=some (some (.int .u8 0),1,1):=by kernel_rfl
def FO (w0 w:World) (v:Value) (n:Nat) (xs:List Value):Prop:=Below w0.heap.size w0 w∧(w.ownsRow w0.heap.size 5 1 v n xs∨(∃ b,v=.slice (some ⟨b,0,none⟩) n n∧w0.heap.size≤b∧b<w.heap.size∧xs.length=n∧∀ j u,xs[j]?=some u→w.cell? ⟨b,j,none⟩=some u))
theorem run_append_full (w0 w:World) (ty:TypeId) (b n:Nat) (xs:List Value) (hl:xs.length=n) (hc:∀ j u,xs[j]?=some u→w.cell? ⟨b,j,none⟩=some u) (B:Nat) (A:Option Addr) (m c:Nat) (news:List Value) (hr:Reads w B 1 A m news)
  (h63:n+m≤maxLen) (hbytes:n+m≤140737488355328) (h0:w0.heap.size≤b) (hlt:b<w.heap.size) (hB:Below w0.heap.size w0 w) :
  ∃ v' w',(Builtin.append_ #[22,22] ty #[.slice (some ⟨b,0,none⟩) n n,.slice A m c]).run Tryz.prog w=.ok v' w'∧FO w0 w' v' (n+m) (xs++news)∧(0<m→w'.ownsRow w0.heap.size 5 1 v' (n+m) (xs++news)):=by
 obtain ⟨i,hi,hz,hz1,hz2⟩:=info_parts info_byteP
 have ht:=Tryz.underlying22
 rcases Nat.eq_zero_or_pos m with rfl|hm
 ·have hn:news=[]:=List.eq_nil_of_length_eq_zero (by have:=hr.1;omega)
  subst hn
  refine ⟨.slice (some ⟨b,0,none⟩) n n,w,?_,⟨hB,.inr ⟨b,rfl,h0,hlt,by simpa using hl,fun j u hu=>hc j u (by simpa using hu)⟩⟩,fun h=>absurd h (by omega)⟩
  cases A with
  | none=>simp [Builtin.append_,run_underlying ht,sizeOf,typeInfo,hi,Builtin.lenOf,Builtin.firstCells,storeCells]
  | some a=>
   have hf:=run_firstCells_some (P:=Tryz.prog) w i.size 0 a 0 c [] (by simp) (fun j v h=>by simp at h)
   simp [Builtin.append_,run_underlying ht,sizeOf,typeInfo,hi,Builtin.lenOf,hf,storeCells]
 ·obtain ⟨a,rfl,-,hnews⟩:=hr.2 hm
  have hln:news.length=m:=by have:=hr.1;omega
  have hfit:Builtin.nextslicecap (n+m) n*i.bytes≤281474976710656:=growslice_fits (by omega) (by rw [hz2];omega)
  have hrun:=run_append_grow (P:=Tryz.prog) (w:=w) 22 ty 5 i (.int .u8 0) ht hi hz ⟨b,0,none⟩ n n xs (by rw [hz1];omega) (fun j v h=>by rw [add_flat,Nat.zero_add];exact hc j v h) a m c news (by rw [hz1];omega) hnews (by omega) (by unfold maxLen at h63;omega) hfit
  have g1:=grownCap_ge w (n+m) n 5
  have g2:=grownCap_le_maxLen w (n+m) n 5 h63
  have hown:(w.drew.alloc (.cells (xs.toArray++news.toArray++Builtin.zeroCells (Value.int .u8 0).cells (grownCap w (n+m) n 5-(n+m))) 5)).ownsRow w0.heap.size 5 1 (.slice (some ⟨w.heap.size,0,none⟩) (n+m) (grownCap w (n+m) n 5)) (n+m) (xs++news):=by
   refine ⟨by simp;omega,.inr ⟨w.heap.size,_,_,rfl,hB.size,heap_alloc_new w.drew _,g1,g2,?_,?_⟩⟩
   ·simp [size_zeroCells,Value.cells];omega
   ·rw [Nat.mul_one,Array.toList_append,Array.toList_append,List.take_append_of_le_length (by simp;omega)]
    exact List.take_of_length_le (by simp;omega)
  refine ⟨_,_,hrun,⟨(hB.drew).alloc (by simpa using hB.size) _,.inl hown⟩,fun _=>hown⟩
theorem FO.alloc {w0 w:World} {v:Value} {n:Nat} {xs:List Value} (h:FO w0 w v n xs) (o:Obj):FO w0 (w.alloc o) v n xs:=by
 refine ⟨h.1.alloc h.1.size _,?_⟩
 rcases h.2 with ho|⟨b,hv,h0,hlt,hl,hc⟩
 ·exact .inl (ho.alloc o)
 ·exact .inr ⟨b,hv,h0,by simp;omega,hl,fun j u hu=>(World.cell?_alloc_lt w o ⟨b,j,none⟩ hlt).trans (hc j u hu)⟩
theorem run_append_fo (w0 w:World) (ty:TypeId) (v:Value) (n:Nat) (xs:List Value) (h:FO w0 w v n xs) (B:Nat) (A:Option Addr) (m c:Nat) (news:List Value) (hr:Reads w B 1 A m news) (h1:∀ u∈news,u.oneCell'=true)
  (h63:n+m≤maxLen) (hbytes:n+m≤140737488355328) :
  ∃ v' w',(Builtin.append_ #[22,22] ty #[v,.slice A m c]).run Tryz.prog w=.ok v' w'∧FO w0 w' v' (n+m) (xs++news)∧(0<m→w'.ownsRow w0.heap.size 5 1 v' (n+m) (xs++news)):=by
 rcases h.2 with ho|⟨b,rfl,h0,hlt,hl,hc⟩
 ·obtain ⟨i,hi,hz,hz1,hz2⟩:=info_parts info_byteP
  obtain ⟨v',w',hrun,h2,h3,h4⟩:=run_append_any (P:=Tryz.prog) w w0.heap.size 22 ty 5 i (.int .u8 0) 1 1 Tryz.underlying22 hi hz hz1 hz2 rfl (by decide) v n xs ho B A m c news hr h1 h63 (by omega) h.1.size
  refine ⟨v',w',hrun,⟨h.1.grown h3 h.1.size ?_,.inl h2⟩,fun _=>h2⟩
  intro k hk
  exact (ho.lt k hk).1
 ·exact run_append_full w0 w ty b n xs hl hc B A m c news hr h63 hbytes h0 hlt h.1
theorem wpList_append_fo {ops:Array Oper} {rest:List Oper} {o:Oper} {a:Act} {Q:Exit→Act→World→Prop} {w:World} (hgd:o.guard=none) (s x:Operand) (w0:World)
  (ho:o.op=.call { callee:=.builtin .append,args:=#[s,x],argTypes:=#[22,22] })
  (v:Value) (n:Nat) (xs:List Value) (hs:a.eval s=v) (hf:FO w0 w v n xs) (B:Nat) (A:Option Addr) (m c:Nat) (news:List Value) (hx:a.eval x=.slice A m c) (hr:Reads w B 1 A m news) (h1:∀ u∈news,u.oneCell'=true)
  (h63:n+m≤4096)
  (h:∀ v' w',FO w0 w' v' (n+m) (xs++news)→(0<m→w'.ownsRow w0.heap.size 5 1 v' (n+m) (xs++news))→wpList Tryz.prog ops Q rest (a.put o.dst v') w'):wpList Tryz.prog ops Q (o :: rest) a w:=
 wpList_plain hgd fun _ hK=>by
  obtain ⟨v',w',hrun,h2,h3⟩:=run_append_fo w0 w o.type v n xs hf B A m c news hr h1 (by unfold maxLen;omega) (by omega)
  unfold Oper.wp execOp
  simp only [ho,resolve,invoke,builtin,Sem.run_bind,Sem.run_pure,Result.andThen_ok,List.map_toArray,List.map_cons,List.map_nil,hs,hx,hrun]
  exact hK _ _ (h v' w' h2 h3)
end Go.Proofs.YtmphmddmfcaldaaGreatDoor.Pa
