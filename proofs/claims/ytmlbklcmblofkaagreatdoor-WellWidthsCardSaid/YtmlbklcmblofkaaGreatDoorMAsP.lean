/-
  The reference's Least, walked, at lists of any length.
-/
import Derived.WalkKit
import Derived.ProofKit
import Derived.OpenShut
import Derived.ShutString
import Derived.ChangeOld
import Derived.Carry
import Derived.Deep.SlicePairs
import Derived.Test.YtmlbklcmblofkaaGreatDoorMPaPu
import Derived.Lib.SmallJoins
import Derived.SliceStrings
import Derived.Deep.Slices
import Derived.SizedLaws
import Derived.IntWalk
import Derived.Lib.Walk
import Derived.Deep.QuietTactic
import Derived.BigQuiet
set_option linter.unusedSimpArgs false
set_option linter.unusedVariables false
set_option maxHeartbeats 4000000
set_option maxRecDepth 100000
namespace Go.Proofs.YtmlbklcmblofkaaGreatDoor.Rs
open Go.ChangeShapes Go.WideShapes Go.ChangeAt Go.RowKit Go.Deep Mem
theorem int_of {x:Int} (h:(Lit.int .i64 x).wf=true):-9223372036854775808≤x∧x≤9223372036854775807:=by
 simp [Lit.wf,IntKind.min,IntKind.max,IntKind.signed,IntKind.bits] at h
 omega
theorem ranges_of {H:Type} {enc:TypeId×Value→H} {W:World} {a:Option Addr} {len cap:Nat} {d:DataW H} {p:List MemPlace} (h:DataW.Trod enc Tryz.prog W 0 (fun _=>true) true 46 (.slice a len cap) d p) :
  ∃ l:List R,l.length=len∧len≤cap∧cap≤9223372036854775807∧(∀ r∈l,-9223372036854775808≤r.1∧r.1≤9223372036854775807)∧Lst W W.heap.size a l:=by
 obtain ⟨fuel,hf⟩:=h
 rcases open_slice_pairs Tryz.underlying46 Tryz.underlying56 (by kernel_rfl) rfl rfl (by kernel_rfl) (by kernel_rfl) hf with ⟨hcs,_⟩|⟨x,l,c,m,n,V0,V1,D0,D1,P0,P1,hcs,_,hl,hm,hmm,_,hx⟩
 ·simp [Value.cells] at hcs
  obtain ⟨rfl,rfl,rfl⟩:=hcs
  exact ⟨[],rfl,Nat.le_refl _,by omega,by simp,Lst.nil⟩
 ·simp [Value.cells] at hcs
  obtain ⟨rfl,rfl,rfl⟩:=hcs
  have hlm:len≤m:=by rw [hmm];split<;>omega
  have hi:∀ i,i<len→∃ r0 r1:Int,V0 i=.int .i64 r0∧V1 i=.int .i64 r1∧(-9223372036854775808≤r0∧r0≤9223372036854775807):=fun i hil=>by
   obtain ⟨_,_,h3,h4⟩:=hx i (by omega)
   obtain ⟨r0,e0,_,w0⟩:=DataW.trod_int Tryz.underlying3 h3
   obtain ⟨r1,e1,_,w1⟩:=DataW.trod_int Tryz.underlying3 h4
   exact ⟨r0,r1,by simpa using e0,by simpa using e1,int_of w0⟩
  refine ⟨(List.range len).map fun i=>(intOf (V0 i),intOf (V1 i)),by simp,hl,by unfold maxLen at hm;omega,?_,fun hn=>?_⟩
  ·intro r hr
   simp only [List.mem_map,List.mem_range] at hr
   obtain ⟨i,hil,rfl⟩:=hr
   obtain ⟨r0,r1,e0,e1,hb⟩:=hi i hil
   rw [e0];exact hb
  ·simp at hn
   obtain ⟨b,off,sp⟩:=x
   have h0:=(hx 0 (by omega)).1
   have es:sp=none:=cell_spot (by simpa [Addr.add] using h0)
   subst es
   refine ⟨b,off,rfl,by simpa [add_flat] using cell_lt h0,fun k r hr=>?_⟩
   have hk:k<len:=by have:=(List.getElem?_eq_some_iff.1 hr).1;simpa using this
   have e:r=(intOf (V0 k),intOf (V1 k)):=by simpa [hk] using hr.symm
   subst e
   obtain ⟨r0,r1,e0,e1,hb⟩:=hi k hk
   obtain ⟨h1,h2,_,_⟩:=hx k (by omega)
   rw [add_flat] at h1 h2
   rw [h1,e0]
   refine ⟨by simp [intOf],?_⟩
   rw [show off+k*2+1=off+(k*2+1) by omega,h2,e1]
   simp [intOf]
end Go.Proofs.YtmlbklcmblofkaaGreatDoor.Rs
namespace Go.Proofs.YtmlbklcmblofkaaGreatDoor.As
open Go.ChangeShapes Go.WideShapes Go.ChangeAt Go.RowKit Go.Deep Mem Rs
variable {v:Value}
section
variable {H:Type} {enc:TypeId×Value→H} {W:World} {fuel:Nat} {x:DataW H×List MemPlace}
theorem in_of {k:Int} (h:(Lit.int .i64 k).wf=true):in64 k:=Rs.int_of h
theorem shape_of {t e:TypeId} (ht:Tryz.prog.underlying t=some (.slice e)) (h:DataW.trod enc Tryz.prog W 0 (fun _=>true) true fuel t [v]=some x):∃ a len cap,v=.slice a len cap:=by
 rcases DataW.trod_slice ht h with ⟨hcs,_⟩|⟨a,len,cap,_,_,_,_,hcs,_⟩
 ·simp only [List.cons.injEq,and_true] at hcs
  exact ⟨_,_,_,hcs⟩
 ·simp only [List.cons.injEq,and_true] at hcs
  exact ⟨_,_,_,hcs⟩
def Reach (t:TypeId) (d:DataW H):Prop:=∀ n∈d.weights Tryz.prog t,n≤reachBytes
theorem b_range:Tryz.prog.bytesOf 56=16:=by kernel_rfl
theorem mem_all {P:Program} {e:TypeId} {d:DataW H}:∀ {ds:List (DataW H)},d∈ds→∀ n∈d.weights P e,n∈DataW.weightsAll P e ds
 | x :: ds,hd,n,hn=>by
  rw [DataW.weightsAll,List.mem_append]
  rcases List.mem_cons.1 hd with rfl|hd
  ·exact .inl hn
  ·exact .inr (mem_all hd n hn)
theorem set_reach {a:Option Addr} {len cap:Nat} (h:DataW.trod enc Tryz.prog W 0 (fun _=>true) true fuel 46 [.slice a len cap]=some x) (hr:Reach 46 x.1):len*16≤reachBytes:=by
 rcases Go.Deep.open_slice Tryz.underlying46 h with ⟨hcs,_⟩|⟨b,l,c,m,n,D,Pl,hcs,_,hl,hm,hmm,hx,hel⟩
 ·simp only [List.cons.injEq,Value.slice.injEq,and_true] at hcs
  omega
 ·simp only [List.cons.injEq,Value.slice.injEq,and_true] at hcs
  obtain ⟨-,rfl,-⟩:=hcs
  have:=hr (((List.range len).map D).length*16+((List.range (m-len)).map fun j=>D (len+j)).length*16) (by
   rw [hx]
   simp only [DataW.weights,Tryz.underlying46,b_range,List.mem_cons]
   left
   rw [Nat.add_mul])
  simp at this
  omega
theorem set_of (h:DataW.trod enc Tryz.prog W 0 (fun _=>true) true fuel 46 [v]=some x):∃ l:List R,SetV W W.heap.size l v∧(∀ r∈l,in64 r.1)∧(Reach 46 x.1→l.length*16≤reachBytes):=by
 obtain ⟨a,len,cap,rfl⟩:=shape_of Tryz.underlying46 h
 have HR:=set_reach h
 obtain ⟨l,rfl,h1,h2,h3,h4⟩:=ranges_of (⟨fuel,by simpa [Value.cells] using h⟩:DataW.Trod enc Tryz.prog W 0 (fun _=>true) true 46 (.slice a len cap) x.1 x.2)
 exact ⟨l,⟨a,cap,rfl,h1,h2,h4⟩,h3,HR⟩
theorem kids_of (h:DataW.trod enc Tryz.prog W 0 (fun _=>true) true fuel 47 [v]=some x):∃ l:List Int,KidsV W W.heap.size l v∧∀ k∈l,in64 k:=by
 rcases open_ints Tryz.underlying47 Tryz.underlying3 (by kernel_rfl) h with ⟨hcs,_⟩|⟨y,len,cap,zs,hcs,_,hl,hm,hz,_,hc,hw⟩
 ·simp only [List.cons.injEq,and_true] at hcs
  subst hcs
  exact ⟨[],⟨none,0,rfl,Nat.le_refl _,by omega,Reads.none_⟩,by simp⟩
 ·simp only [List.cons.injEq,and_true] at hcs
  subst hcs
  have hz':zs.length=cap:=by simpa using hz
  have hlt:(zs.take len).length=len:=by rw [List.length_take];omega
  refine ⟨zs.take len,⟨some y,cap,by rw [hlt],by rw [hlt];exact hl,by unfold maxLen at hm;omega,?_⟩,fun k hk=>in_of (hw k (List.mem_of_mem_take hk))⟩
  refine ⟨by simp,fun hn=>⟨y,rfl,?_,fun j u hj=>?_⟩⟩
  ·rw [hlt] at hn
   have:=cell_lt (hc 0 (by omega))
   rwa [block_of_add] at this
  ·rw [List.getElem?_map] at hj
   rcases Nat.lt_or_ge j len with h1|h1
   ·have hj':j<zs.length:=by omega
    rw [List.getElem?_take,if_pos h1,List.getElem?_eq_getElem hj'] at hj
    simp only [Option.map_some,Option.some.injEq] at hj
    rw [hc j hj',← hj]
    simp [List.getD,hj']
   ·rw [List.getElem?_take,if_neg (by omega)] at hj;simp at hj
theorem str_of (h:DataW.trod enc Tryz.prog W 0 (fun _=>true) true fuel 9 [v]=some x):∃ l:List UInt8,v=str l:=by
 obtain ⟨s,hv,_⟩:=DataW.trod_string Tryz.underlying9 h
 simp only [List.cons.injEq,and_true] at hv
 exact ⟨s.data.toList,by rw [hv]⟩
theorem int_v (h:DataW.trod enc Tryz.prog W 0 (fun _=>true) true fuel 3 [v]=some x):∃ k:Int,v=.int .i64 k∧in64 k:=by
 obtain ⟨k,hv,_,hw⟩:=DataW.trod_int Tryz.underlying3 h
 simp only [List.cons.injEq,and_true] at hv
 exact ⟨k,hv,in_of hw⟩
theorem c_int:Tryz.prog.cellsOf 3=1:=by kernel_rfl
theorem c_str:Tryz.prog.cellsOf 9=1:=by kernel_rfl
theorem c_set:Tryz.prog.cellsOf 46=1:=by kernel_rfl
theorem c_kids:Tryz.prog.cellsOf 47=1:=by kernel_rfl
theorem c_node:Tryz.prog.cellsOf 49=10:=by kernel_rfl
theorem node_of {cs:List Value} (hlen:cs.length=10) (h:DataW.trod enc Tryz.prog W 0 (fun _=>true) true fuel 49 cs=some x):∃ nd,NdIn nd∧(NodeV W W.heap.size nd fun j=>cs[j]?)∧(Reach 49 x.1→nd.set.length*16≤reachBytes):=by
 obtain ⟨xs,n',_,hxy,_,hxl,hf⟩:=DataW.trod_struct Tryz.underlying49 h
 match xs,hxl,cs,hlen with
 | [y0,y1,y2,y3,y4,y5,y6,y7,y8,y9],_,[v0,v1,v2,v3,v4,v5,v6,v7,v8,v9],_=>
  have g0:=hf 0 _ rfl
  have g1:=hf 1 _ rfl
  have g2:=hf 2 _ rfl
  have g3:=hf 3 _ rfl
  have g4:=hf 4 _ rfl
  have g5:=hf 5 _ rfl
  have g6:=hf 6 _ rfl
  have g7:=hf 7 _ rfl
  have g8:=hf 8 _ rfl
  have g9:=hf 9 _ rfl
  simp only [c_int,c_str,c_set,c_kids,List.getElem?_cons_zero,List.getElem?_cons_succ,List.drop_zero,List.drop_succ_cons,List.take_succ_cons,List.take_zero] at g0 g1 g2 g3 g4 g5 g6 g7 g8 g9
  obtain ⟨k0,rfl,i0⟩:=int_v g0
  obtain ⟨k1,rfl,i1⟩:=int_v g1
  obtain ⟨k2,rfl,i2⟩:=int_v g2
  obtain ⟨k3,rfl,i3⟩:=int_v g3
  obtain ⟨k4,rfl,i4⟩:=int_v g4
  obtain ⟨k5,rfl,i5⟩:=int_v g5
  obtain ⟨k6,rfl,i6⟩:=int_v g6
  obtain ⟨k7,rfl⟩:=str_of g7
  obtain ⟨k8,h8,i8,z8⟩:=set_of g8
  obtain ⟨k9,h9,i9⟩:=kids_of g9
  exact ⟨⟨k0,k1,k2,k3,k4,k5,k6,k7,k8,k9⟩,⟨i0,i1,i2,i3,i4,i5,i6,i8,i9⟩,⟨rfl,rfl,rfl,rfl,rfl,rfl,rfl,rfl,⟨_,rfl,h8⟩,_,rfl,h9⟩,fun hr=>z8 fun n hn=>hr n (by
   rw [hxy]
   simp only [DataW.weights,Tryz.underlying49]
   exact DataW.weights_mem_each (j:=8) rfl rfl n hn)⟩
theorem nodes_of (h:DataW.trod enc Tryz.prog W 0 (fun _=>true) true fuel 22 [v]=some x):∃ l:List Nd,NodesV W W.heap.size l v∧(∀ nd∈l,NdIn nd)∧(Reach 22 x.1→∀ nd∈l,nd.set.length*16≤reachBytes):=by
 rcases Go.Deep.open_slice Tryz.underlying22 h with ⟨hcs,_⟩|⟨a,len,cap,m,n,D,Pl,hcs,_,hl,hm,hmm,hx,hel⟩
 ·simp only [List.cons.injEq,and_true] at hcs
  subst hcs
  exact ⟨[],⟨none,0,rfl,Nat.le_refl _,by omega,fun hn=>absurd hn (by simp)⟩,by simp,by simp⟩
 ·simp only [List.cons.injEq,and_true] at hcs
  subst hcs
  have hlm:len≤m:=by rw [hmm];split<;>omega
  have key:∀ i,i<len→∃ nd,NdIn nd∧(NodeV W W.heap.size nd fun j=>W.cell? (a.add (i*10+j)))∧(Reach 22 x.1→nd.set.length*16≤reachBytes):=by
   intro i hi
   obtain ⟨cs',h1,h2⟩:=hel i (by omega)
   rw [c_node] at h1
   obtain ⟨_,hlen,hcell⟩:=World.cells?_some h1
   obtain ⟨nd,hin,hv,hz⟩:=node_of hlen h2
   refine ⟨nd,hin,?_,fun hr=>hz fun n hn=>hr n (by
    rw [hx]
    simp only [DataW.weights,Tryz.underlying22,List.mem_cons,List.mem_append]
    exact .inr (.inl (mem_all (List.mem_map.2 ⟨i,List.mem_range.2 hi,rfl⟩) n hn)))⟩
   have hj:∀ j v,cs'[j]?=some v→W.cell? (a.add (i*10+j))=some v:=by
    intro j v hjv
    have hlt:j<cs'.length:=(List.getElem?_eq_some_iff.1 hjv).1
    have k0:=hcell j (by omega)
    rw [Go.Deep.add_add] at k0
    rw [k0]
    exact hjv
   obtain ⟨h0,h1,h2,h3,h4,h5,h6,h7,⟨v8,h8,h8'⟩,v9,h9,h9'⟩:=hv
   exact ⟨hj 0 _ h0,hj 1 _ h1,hj 2 _ h2,hj 3 _ h3,hj 4 _ h4,hj 5 _ h5,hj 6 _ h6,hj 7 _ h7,⟨v8,hj 8 _ h8,h8'⟩,v9,hj 9 _ h9,h9'⟩
  haveI:Inhabited Nd:=⟨⟨0,0,0,0,0,0,0,[],[],[]⟩⟩
  obtain ⟨f,hf⟩:=Go.Deep.choose_lt key
  have hll:((List.range len).map f).length=len:=by simp
  refine ⟨(List.range len).map f,⟨some a,cap,by rw [hll],by rw [hll];exact hl,by unfold maxLen at hm;omega,fun hn=>?_⟩,fun nd hnd=>?_,fun hr nd hnd=>?_⟩
  ·rw [hll] at hn
   obtain ⟨b,off,sp⟩:=a
   have h0:=(hf 0 hn).2.1.1
   have es:sp=none:=cell_spot (by simpa [Addr.add] using h0)
   subst es
   refine ⟨b,off,rfl,?_,fun k nd hk=>?_⟩
   ·have:=cell_lt h0
    rwa [block_of_add] at this
   ·have hkl:k<len:=by have:=(List.getElem?_eq_some_iff.1 hk).1;simpa using this
    have e:nd=f k:=by simpa [hkl] using hk.symm
    subst e
    have h:=(hf k hkl).2.1
    have ea:∀ j,(Addr.add ⟨b,off,none⟩ (k*10+j))=⟨b,off+k*10+j,none⟩:=fun j=>by rw [add_flat,Nat.add_assoc]
    simp only [ea] at h
    exact h
  ·obtain ⟨i,hi,rfl⟩:=List.mem_map.1 hnd
   exact (hf i (List.mem_range.1 hi)).1
  ·obtain ⟨i,hi,rfl⟩:=List.mem_map.1 hnd
   exact (hf i (List.mem_range.1 hi)).2.2 hr
theorem names_of (h:DataW.trod enc Tryz.prog W 0 (fun _=>true) true fuel 23 [v]=some x):∃ l:List (List UInt8),NamesV W W.heap.size l v:=by
 rcases open_strings Tryz.underlying23 Tryz.underlying9 (by kernel_rfl) h with ⟨hcs,_⟩|⟨a,len,cap,ss,hcs,_,hl,hm,hlen,_,hc,_⟩
 ·simp only [List.cons.injEq,and_true] at hcs
  subst hcs
  exact ⟨[],none,0,rfl,Nat.le_refl _,by omega,fun hn=>absurd hn (by simp)⟩
 ·simp only [List.cons.injEq,and_true] at hcs
  subst hcs
  have hlm:len≤ss.length:=by rw [hlen];split<;>omega
  have hll:((ss.take len).map fun s=>s.data.toList).length=len:=by rw [List.length_map,List.length_take];omega
  refine ⟨(ss.take len).map fun s=>s.data.toList,some a,cap,by rw [hll],by rw [hll];exact hl,by unfold maxLen at hm;omega,fun hn=>?_⟩
  rw [hll] at hn
  obtain ⟨b,off,sp⟩:=a
  have h0:=hc 0 (by omega)
  have es:sp=none:=cell_spot (by simpa [Addr.add] using h0)
  subst es
  refine ⟨b,off,rfl,?_,fun k s hk=>?_⟩
  ·have:=cell_lt h0
   rwa [block_of_add] at this
  ·rw [List.getElem?_map,List.getElem?_take] at hk
   split at hk
   ·rename_i hkl
    have h:=hc k (by omega)
    rw [add_flat] at h
    rw [h,List.getD]
    obtain ⟨y,hy,rfl⟩:=Option.map_eq_some_iff.1 hk
    rw [hy]
    simp [str]
   ·simp at hk
end
theorem tree_of {H:Type} {enc:TypeId×Value→H} {W:World} {b0:Nat} {d:DataW H} {p:List MemPlace} (hv:Value.okWide Tryz.prog W .any b0 25 v) (h:DataW.Trod enc Tryz.prog W 0 (fun _=>true) true 25 v d p) :
  ∃ t:Tr,TreeV W W.heap.size t v∧TrIn t∧(Reach 25 d→∀ nd∈t.nodes,nd.set.length≤8796093021952):=by
 obtain ⟨a,g,c,y0,y1,y2,n,rfl,hd,_,h0,h1,h2⟩:=Go.Joins.open_agg3 Tryz.underlying25 (by kernel_rfl) (by kernel_rfl) hv h
 obtain ⟨l,hl,hin,hz⟩:=nodes_of h0
 obtain ⟨k,rfl,hk⟩:=int_v h1
 obtain ⟨ns,hns⟩:=names_of h2
 refine ⟨⟨l,k,ns⟩,⟨a,c,rfl,hl,hns⟩,⟨hin,hk⟩,fun hr nd hnd=>?_⟩
 have:=hz (fun n hn=>hr n (by
  rw [hd]
  simp only [DataW.weights,Tryz.underlying25]
  exact DataW.weights_mem_each (j:=0) rfl rfl n hn)) nd hnd
 unfold reachBytes at this
 omega
end Go.Proofs.YtmlbklcmblofkaaGreatDoor.As
namespace Go.Proofs.YtmlbklcmblofkaaGreatDoor.Rs
open Go.RowKit Mem
def okAt (l:List R) (k:Nat):Prop:=∀ r,l[k]?=some r→0≤r.1∧r.2≤1114367∧r.1≤r.2∧(∀ j q,k=j+1→l[j]?=some q→q.2<r.1-1)
theorem leastF_iff:∀ (l:List R) (p:Int),-2≤p→(LeastF p l↔((∀ r,l[0]?=some r→p<r.1-1)∧∀ k,okAt l k))
 | [],p,hp=>⟨fun _=>⟨fun r h=>by simp at h,fun k r h=>by simp at h⟩,fun _=>trivial⟩
 | a :: t,p,hp=>by
  constructor
  ·rintro ⟨h1,h2,h3,h4⟩
   have ih:=(leastF_iff t a.2 (by omega)).1 h4
   refine ⟨fun r h=>by simp at h;subst h;exact h1,fun k r h=>?_⟩
   cases k with
   | zero=>
    simp at h;subst h
    exact ⟨by omega,h3,h2,fun j q hj=>by omega⟩
   | succ k=>
    have h':t[k]?=some r:=by simpa using h
    obtain ⟨e1,e2,e3,e4⟩:=ih.2 k r h'
    refine ⟨e1,e2,e3,fun j q hj hq=>?_⟩
    obtain rfl:k=j:=by omega
    cases k with
    | zero=>
     simp at hq;subst hq
     exact ih.1 r h'
    | succ k=>exact e4 k q rfl (by simpa using hq)
  ·rintro ⟨h1,h2⟩
   have ha:=h2 0 a (by simp)
   refine ⟨h1 a (by simp),ha.2.2.1,ha.2.1,(leastF_iff t a.2 (by omega)).2 ⟨fun r hr=>?_,fun k r hr=>?_⟩⟩
   ·exact (h2 1 r (by simpa using hr)).2.2.2 0 a rfl (by simp)
   ·obtain ⟨e1,e2,e3,e4⟩:=h2 (k+1) r (by simpa using hr)
    refine ⟨e1,e2,e3,fun j q hj hq=>?_⟩
    exact e4 (j+1) q (by omega) (by simpa using hq)
theorem least_iff (l:List R):Least l↔∀ k,okAt l k:=by
 rw [Least,leastF_iff l (-2) (by omega)]
 refine ⟨fun h=>h.2,fun h=>⟨fun r hr=>?_,h⟩⟩
 have:=(h 0 r hr).1
 omega
def LRel (l:List R) (w:World) (i:Value) (wr:World):Prop:=∃ k n:Nat,i=.int .i64 k∧k≤l.length∧(∀ j,j<k→okAt l j)∧wr=w.drewN n
theorem refLeast_any (l:List R) (A:Option Addr) (cap:Nat) (w:World) (hlen:l.length≤8796093021952) (hint:∀ r∈l,-9223372036854775808≤r.1∧r.1≤9223372036854775807) (h:Lst w w.heap.size A l) :
  Calls Tryz.prog 25 #[.slice A l.length cap] w fun e w'=>e=.returned (.bool (decide (Least l)))∧Below w.heap.size w w':=by
 have H:=hide h
 have HI:=hide hint
 clear h hint
 have hfin:∀ k,¬ okAt l k→decide (Least l)=false:=fun k hk=>by
  rw [decide_eq_false_iff_not,least_iff];exact fun h=>hk (h k)
 have HF:=hide hfin
 clear hfin
 go_enter Tryz.func25,Tryz.ntmps25
 go_wp2
 go_loopw [3] (fun i wr=>LRel l w i wr) (fun i _=>l.length-(intOf i).toNat)
 case atStart=>exact ⟨0,0,rfl,Nat.zero_le _,(fun j hj=>by omega),rfl⟩
 case round=>
  obtain ⟨k,n,rfl,hk,hok,rfl⟩:=hrel
  by_cases hlt:k<l.length
  ·obtain ⟨b,off,rfl,hb,hc⟩:=H.1 (by omega)
   obtain ⟨r,hr⟩:∃ r,l[k]?=some r:=⟨_,List.getElem?_eq_getElem hlt⟩
   obtain ⟨c1,c2⟩:=hc k r hr
   have hri:=HI.1 r (List.mem_of_getElem? hr)
   have hlt':(k:Int)<(l.length:Int):=by omega
   have hk0:(0:Int)≤(k:Int):=by omega
   have HOK:=hide hok
   have HR:=hide hr
   have HC:=hide hc
   clear hok hr hc
   by_cases h0:r.1<0
   ·have hbad:=hide (HF.1 k fun hk'=>by have:=((hk' r HR.1).1);omega)
    go_wp2_with fail
    go_quiet (fail)
    go_wp2
    go_ret
    exact ⟨by rw [hbad.1];rfl,below_drewN (below_drewN (Below.refl _ _) _) _⟩
   ·have d0:decide (r.1<0)=false:=by simp;omega
    by_cases h1:1114367<r.2
    ·have hbad:=hide (HF.1 k fun hk'=>by have:=((hk' r HR.1).2.1);omega)
     go_wp2_with fail
     go_quiet (fail)
     go_wp2
     go_ret
     exact ⟨by rw [hbad.1];rfl,below_drewN (below_drewN (Below.refl _ _) _) _⟩
    ·have d1:decide (1114367<r.2)=false:=by simp;omega
     by_cases h2:r.2<r.1
     ·have hbad:=hide (HF.1 k fun hk'=>by have:=((hk' r HR.1).2.2.1);omega)
      go_wp2_with fail
      go_quiet (fail)
      go_wp2
      go_ret
      exact ⟨by rw [hbad.1];rfl,below_drewN (below_drewN (Below.refl _ _) _) _⟩
     ·have d2:decide (r.2<r.1)=false:=by simp;omega
      by_cases hk1:k=0
      ·have HOK1:=hide (show okAt l k from fun r' hr'=>by
        rw [HR.1] at hr';obtain rfl:=Option.some.inj hr'
        exact ⟨by omega,by omega,by omega,fun j q hj=>by omega⟩)
       have HK1:=hide hk1
       have d3:decide (0<k)=false:=by simp;omega
       clear hk1
       go_wp2_with fail
       go_quiet (fail)
       go_wp2
       go_roundw
       case rel=>exact ⟨k+1,_,by go_num,by omega,(fun j hj=>by
        rcases Nat.lt_succ_iff_lt_or_eq.1 hj with h|rfl
        ·exact HOK.1 j h
        ·exact HOK1.1),rfl⟩
       case measure=>simp [intOf];omega
      ·obtain ⟨j,rfl⟩:∃ j,k=j+1:=⟨k-1,by omega⟩
       obtain ⟨q,hq⟩:∃ q,l[j]?=some q:=⟨_,List.getElem?_eq_getElem (by omega)⟩
       have e2:=(HC.1 j q hq).2
       have hw1:IntKind.i64.wrap (j:Int)=j:=wrap_id _ (by omega) (by omega)
       have hw2:IntKind.i64.wrap (r.1-1)=r.1-1:=wrap_id _ (by omega) (by omega)
       have hjl:(j:Int)<(l.length:Int):=by omega
       have hj0:(0:Int)≤(j:Int):=by omega
       have HQ:=hide hq
       clear hq hk1
       by_cases h3:r.1-1≤q.2
       ·have hbad:=hide (HF.1 (j+1) fun hk'=>by have:=((hk' r HR.1).2.2.2 j q rfl HQ.1);omega)
        go_wp2_with fail
        go_quiet (fail)
        go_wp2
        go_ret
        exact ⟨by rw [hbad.1];rfl,below_drewN (below_drewN (Below.refl _ _) _) _⟩
       ·have d4:decide (r.1-1≤q.2)=false:=by simp;omega
        have HOK1:=hide (show okAt l (j+1) from fun r' hr'=>by
         rw [HR.1] at hr';obtain rfl:=Option.some.inj hr'
         refine ⟨by omega,by omega,by omega,fun j' q' hj hq'=>?_⟩
         obtain rfl:j=j':=by omega
         rw [HQ.1] at hq';obtain rfl:=Option.some.inj hq'
         omega)
        go_wp2_with fail
        go_quiet (fail)
        go_wp2
        go_roundw
        case rel=>exact ⟨j+1+1,_,by go_num,by omega,(fun i hj=>by
         rcases Nat.lt_succ_iff_lt_or_eq.1 hj with h|rfl
         ·exact HOK.1 i h
         ·exact HOK1.1),rfl⟩
        case measure=>simp [intOf];omega
  ·obtain rfl:k=l.length:=by omega
   have ht:decide (Least l)=true:=by
    rw [decide_eq_true_iff,least_iff]
    intro k r hr
    exact hok k (List.getElem?_eq_some_iff.1 hr).1 r hr
   have HT:=hide ht
   clear ht hok
   go_wp2
   go_ret
   exact ⟨by rw [HT.1];rfl,below_drewN (Below.refl _ _) _⟩
end Go.Proofs.YtmlbklcmblofkaaGreatDoor.Rs
