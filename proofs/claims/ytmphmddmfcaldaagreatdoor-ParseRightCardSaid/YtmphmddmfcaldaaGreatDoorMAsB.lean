/-
  covers, walked: are another node's bytes within a node's? No conditions.
-/
import Derived.Test.YtmphmddmfcaldaaGreatDoorMAsE
set_option linter.unusedSimpArgs false
set_option linter.unusedVariables false
set_option maxHeartbeats 4000000
set_option maxRecDepth 100000
namespace Go.Proofs.YtmphmddmfcaldaaGreatDoor.As
section
open Go.RowKit Mem Rs
attribute [local go_sem] run_not_true run_not_false
def loT:List (List Int):=[[0,0,0,0,0],[0,0,0,0,0],[0,0,0,0,0],[1,0,0,0,0],[0,0,0,0,0],[0,0,0,0,2],[0,0,0,0,2],[1,0,0,0,1],[0,0,-1,0,1],[0,0,0,0,1],[1,0,0,0,1]]
def hiT:List (List Int):=[[0,0,0,0,0],[0,0,0,0,0],[0,0,0,0,0],[7,0,0,0,0],[99,0,0,1,0],[0,0,0,0,4096],[0,0,0,0,4097],[9223372036854775807,0,0,0,1],[0,1000,1000,1,1],[0,0,0,0,1],[4,0,0,0,1]]
def loF (k i:Nat):Int:=(loT.getD k []).getD i 0
def hiF (k i:Nat):Int:=(hiT.getD k []).getD i 0
def setF (k:Nat):Bool:=k==2
def nameF (k:Nat):Bool:=k==4||k==7
structure Fm (w:World):Prop where
 lo:∀ k i:Nat,k<11→i<5→w.cell? ⟨0,k*12+i,none⟩=some (.int .i64 (loF k i))
 hi:∀ k i:Nat,k<11→i<5→w.cell? ⟨0,k*12+5+i,none⟩=some (.int .i64 (hiF k i))
 set:∀ k:Nat,k<11→w.cell? ⟨0,k*12+10,none⟩=some (.bool (setF k))
 name:∀ k:Nat,k<11→w.cell? ⟨0,k*12+11,none⟩=some (.bool (nameF k))
theorem Fm.lt {w:World} (h:Fm w):0<w.heap.size:=cell_lt (h.set 0 (by omega))
theorem Fm.below {w w':World} {B:Nat} (h:Fm w) (hb:Below B w w') (hB:w.heap.size≤B):Fm w':=
 ⟨fun k i hk hi=>(hb.cell (p:=⟨0,_,none⟩) (by have:=h.lt;show 0<B;omega)).trans (h.lo k i hk hi),fun k i hk hi=>(hb.cell (p:=⟨0,_,none⟩) (by have:=h.lt;show 0<B;omega)).trans (h.hi k i hk hi),
  fun k hk=>(hb.cell (p:=⟨0,_,none⟩) (by have:=h.lt;show 0<B;omega)).trans (h.set k hk),fun k hk=>(hb.cell (p:=⟨0,_,none⟩) (by have:=h.lt;show 0<B;omega)).trans (h.name k hk)⟩
def numF (nd:Nd) (i:Nat):Int:=match i with
 | 0=>nd.num
 | 1=>nd.mn
 | 2=>nd.mx
 | 3=>nd.mode
 | _=>nd.kids.length
def numsOk (k:Nat) (nd:Nd):Bool:=(List.range 5).all fun i=>decide (loF k i≤numF nd i)&&decide (numF nd i≤hiF k i)
def formedB (k:Nat) (nd:Nd):Bool:=numsOk k nd&&(!(decide (0<nd.set.length)&&!setF k)&&!(!(nd.name==[])&&!nameF k))&&(decide (nd.name.length≤32)&&decide (Least nd.set))
theorem nums_fail {k:Nat} {nd:Nd} {i:Nat} (hi:i<5) (h:numF nd i<loF k i∨hiF k i<numF nd i):formedB k nd=false:=by
 unfold formedB
 rw [show numsOk k nd=false from by
  rw [Bool.eq_false_iff,ne_eq]
  intro ha
  have:=List.all_eq_true.1 ha i (List.mem_range.2 hi)
  simp at this
  omega]
 simp
theorem idx_num (nd:Nd) (i:Nat) (hi:i<5) (W:World):Sem.run Tryz.prog (Instr.index 76 (.agg (five nd.num nd.mn nd.mx nd.mode nd.kids.length)) (.int .i64 (i:Int))) W=.ok (.int .i64 (numF nd i)) W:=by
 have u:=Tryz.underlying76
 have u3:=Tryz.underlying3
 have a3:=Tryz.isAgg3
 have z3:=Tryz.sizeOf3
 match i,hi with
 | 0,_=>go_simp;try rfl
 | 1,_=>go_simp;try rfl
 | 2,_=>go_simp;try rfl
 | 3,_=>go_simp;try rfl
 | 4,_=>go_simp;try rfl
def FRel (k:Nat) (nd:Nd) (W:World) (i:Value) (wr:World):Prop:=∃ j:Nat,i=.int .i64 j∧j≤5∧(∀ t:Nat,t<j→loF k t≤numF nd t∧numF nd t≤hiF k t)∧wr=W
theorem formed_any (nd:Nd) (k:Nat) (hkd:nd.kind=k) (hk1:1≤k) (hk2:k≤10) (S K:Option Addr) (cs ck:Nat) (w:World) (hT:Fm w) (hs:nd.set.length≤8796093021952) (hcs:nd.set.length≤cs) (hS:Lst w w.heap.size S nd.set) :
  Calls Tryz.prog 33 #[.agg #[.int .i64 nd.kind,.int .i64 nd.from_,.int .i64 nd.to_,.int .i64 nd.num,.int .i64 nd.mn,.int .i64 nd.mx,.int .i64 nd.mode,str nd.name,.slice S nd.set.length cs,.slice K nd.kids.length ck]] w fun e w'=>e=.returned (.bool (formedB k nd))∧Below w.heap.size w w':=by
 have hb0:Below w.heap.size w (w.alloc (.cells #[.int .i64 nd.kind,.int .i64 nd.from_,.int .i64 nd.to_,.int .i64 nd.num,.int .i64 nd.mn,.int .i64 nd.mx,.int .i64 nd.mode,str nd.name,.slice S nd.set.length cs,.slice K nd.kids.length ck] 34)):=(Below.refl _ _).alloc (Nat.le_refl _) _
 have hT1:=hT.below hb0 (Nat.le_refl _)
 have t0:=hT1.lo k 0 (by omega) (by omega)
 have t1:=hT1.lo k 1 (by omega) (by omega)
 have t2:=hT1.lo k 2 (by omega) (by omega)
 have t3:=hT1.lo k 3 (by omega) (by omega)
 have t4:=hT1.lo k 4 (by omega) (by omega)
 have t5:=hT1.hi k 0 (by omega) (by omega)
 have t6:=hT1.hi k 1 (by omega) (by omega)
 have t7:=hT1.hi k 2 (by omega) (by omega)
 have t8:=hT1.hi k 3 (by omega) (by omega)
 have t9:=hT1.hi k 4 (by omega) (by omega)
 have t10:=hT1.set k (by omega)
 have t11:=hT1.name k (by omega)
 simp only [Nat.add_zero,Nat.add_assoc,Nat.reduceAdd] at t0 t1 t2 t3 t4 t5 t6 t7 t8 t9 t10 t11
 have hb1:Below w.heap.size w ((w.alloc (.cells #[.int .i64 nd.kind,.int .i64 nd.from_,.int .i64 nd.to_,.int .i64 nd.num,.int .i64 nd.mn,.int .i64 nd.mx,.int .i64 nd.mode,str nd.name,.slice S nd.set.length cs,.slice K nd.kids.length ck] 34)).alloc (.cells #[.int .i64 (loF k 0),.int .i64 (loF k 1),.int .i64 (loF k 2),.int .i64 (loF k 3),.int .i64 (loF k 4),.int .i64 (hiF k 0),.int .i64 (hiF k 1),.int .i64 (hiF k 2),.int .i64 (hiF k 3),.int .i64 (hiF k 4),.bool (setF k),.bool (nameF k)] 91)):=hb0.alloc hb0.size _
 have HB1:=hide hb1
 have HSL:=hide (hS.below hb1)
 have bN:=(Blk.new w 34 #[.int .i64 nd.kind,.int .i64 nd.from_,.int .i64 nd.to_,.int .i64 nd.num,.int .i64 nd.mn,.int .i64 nd.mx,.int .i64 nd.mode,str nd.name,.slice S nd.set.length cs,.slice K nd.kids.length ck]).alloc (.cells #[.int .i64 (loF k 0),.int .i64 (loF k 1),.int .i64 (loF k 2),.int .i64 (loF k 3),.int .i64 (loF k 4),.int .i64 (hiF k 0),.int .i64 (hiF k 1),.int .i64 (hiF k 2),.int .i64 (hiF k 3),.int .i64 (hiF k 4),.bool (setF k),.bool (nameF k)] 91)
 have bF:=Blk.new (w.alloc (.cells #[.int .i64 nd.kind,.int .i64 nd.from_,.int .i64 nd.to_,.int .i64 nd.num,.int .i64 nd.mn,.int .i64 nd.mx,.int .i64 nd.mode,str nd.name,.slice S nd.set.length cs,.slice K nd.kids.length ck] 34)) 91 #[.int .i64 (loF k 0),.int .i64 (loF k 1),.int .i64 (loF k 2),.int .i64 (loF k 3),.int .i64 (loF k 4),.int .i64 (hiF k 0),.int .i64 (hiF k 1),.int .i64 (hiF k 2),.int .i64 (hiF k 3),.int .i64 (hiF k 4),.bool (setF k),.bool (nameF k)]
 rw [World.size_alloc] at bF
 have HN:=hide bN
 have HF:=hide bF
 have C:=hide (nums_any nd (.slice S nd.set.length cs) K nd.kids.length ck ((w.alloc (.cells #[.int .i64 nd.kind,.int .i64 nd.from_,.int .i64 nd.to_,.int .i64 nd.num,.int .i64 nd.mn,.int .i64 nd.mx,.int .i64 nd.mode,str nd.name,.slice S nd.set.length cs,.slice K nd.kids.length ck] 34)).alloc (.cells #[.int .i64 (loF k 0),.int .i64 (loF k 1),.int .i64 (loF k 2),.int .i64 (loF k 3),.int .i64 (loF k 4),.int .i64 (hiF k 0),.int .i64 (hiF k 1),.int .i64 (hiF k 2),.int .i64 (hiF k 3),.int .i64 (hiF k 4),.bool (setF k),.bool (nameF k)] 91)))
 have hkl:(k:Int)<11:=by omega
 have hk0:(1:Int)≤(k:Int):=by omega
 rw [hkd] at C HN HF HB1 HSL t0 t1 t2 t3 t4 t5 t6 t7 t8 t9 t10 t11 ⊢
 clear hT hT1 hS hb0 hb1 bN bF
 go_enter Tryz.func33,Tryz.ntmps33
 go_wp2_with fail
 refine C.1.mono ?_
 rintro e w3 ⟨rfl,hb3⟩
 have HIX:=hide (fun i hi=>idx_num nd i hi)
 have bN:=HN.1.below hb3 (by simp;omega)
 have bF:=HF.1.below hb3 (by simp)
 have HSL3:=hide (HSL.1.below (hb3.mono (by simp;omega)))
 have HB3:=hide (HB1.1.trans (hb3.mono (by simp;omega)))
 have HN:=hide bN
 have HF:=hide bF
 have HNF:=hide (fun i hi h=>nums_fail (k:=k) (nd:=nd) (i:=i) hi h)
 clear C HB1 HSL hb3 bN bF t0 t1 t2 t3 t4 t5 t6 t7 t8 t9 t10 t11
 go_wp2_with fail
 go_loopw [12] (fun i wr=>FRel k nd w3 i wr) (fun i _=>5-(intOf i).toNat)
 case atStart=>exact ⟨0,rfl,by omega,fun t ht=>absurd ht (by omega),rfl⟩
 case round=>
  obtain ⟨j,rfl,hj,hok,rfl⟩:=hrel
  go_hideQ
  have HOK:=hide hok
  clear hok
  by_cases hlt:j<5
  ·have hji:(j:Int)<5:=by omega
   have ix:=HIX.1 j hlt
   have c0:wr.cell? ⟨w.heap.size+1,j,none⟩=some (.int .i64 (loF k j)):=(HF.1.cell j).trans (by match j,hlt with
    | 0,_=>rfl
    | 1,_=>rfl
    | 2,_=>rfl
    | 3,_=>rfl
    | 4,_=>rfl)
   have c1:wr.cell? ⟨w.heap.size+1,5+j,none⟩=some (.int .i64 (hiF k j)):=(HF.1.cell (5+j)).trans (by match j,hlt with
    | 0,_=>rfl
    | 1,_=>rfl
    | 2,_=>rfl
    | 3,_=>rfl
    | 4,_=>rfl)
   obtain ⟨x,hx⟩:∃ x,numF nd j=x:=⟨_,rfl⟩
   obtain ⟨lo,hlo⟩:∃ x,loF k j=x:=⟨_,rfl⟩
   obtain ⟨hi,hhi⟩:∃ x,hiF k j=x:=⟨_,rfl⟩
   rw [hx] at ix
   rw [hlo] at c0
   rw [hhi] at c1
   have HX:=hide (And.intro hx (And.intro hlo hhi))
   clear hx hlo hhi
   by_cases h1:x<lo
   ·have e1:decide (x<lo)=true:=by simpa using h1
    have HR:=hide (HNF.1 j hlt (.inl (by rw [HX.1.1,HX.1.2.1];exact h1)))
    clear h1
    go_wp2_with fail
    go_ret
    exact ⟨by rw [HR.1];rfl,HB3.1⟩
   ·have e1:decide (x<lo)=false:=by simpa using h1
    by_cases h2:hi<x
    ·have e2:decide (hi<x)=true:=by simpa using h2
     have HR:=hide (HNF.1 j hlt (.inr (by rw [HX.1.1,HX.1.2.2];exact h2)))
     clear h1 h2
     go_wp2_with fail
     go_ret
     exact ⟨by rw [HR.1];rfl,HB3.1⟩
    ·have e2:decide (hi<x)=false:=by simpa using h2
     have hR:FRel k nd wr (.int .i64 ((j:Int)+1)) wr:=by
      refine ⟨j+1,by go_num,by omega,fun t ht=>?_,rfl⟩
      rcases Nat.lt_or_ge t j with h|h
      ·exact HOK.1 t h
      ·obtain rfl:t=j:=by omega
       rw [HX.1.1,HX.1.2.1,HX.1.2.2]
       omega
     have HRR:=hide hR
     clear h1 h2 hR
     go_wp2_with fail
     have hR:=HRR.1
     go_roundw
     case rel=>exact hR
     case measure=>simp [intOf];omega
  ·obtain rfl:j=5:=by omega
   have HNO:=hide (show numsOk k nd=true from List.all_eq_true.2 fun t ht=>by
    have:=HOK.1 t (List.mem_range.1 ht)
    simpa using this)
   have n7:=HN.1.cell 7
   have n8:=HN.1.cell 8
   have f2:=HF.1.cell 10
   have f3:=HF.1.cell 11
   clear hlt HIX HNF
   obtain ⟨p,hp⟩:∃ p,setF k=p:=⟨_,rfl⟩
   obtain ⟨q,hq⟩:∃ q,nameF k=q:=⟨_,rfl⟩
   obtain ⟨lq,hlq⟩:∃ q,decide (Least nd.set)=q:=⟨_,rfl⟩
   have HFB:=hide (show formedB k nd=((!(decide (0<nd.set.length)&&!p)&&!(!(nd.name==[])&&!q))&&(decide (nd.name.length≤32)&&lq)) from by
    unfold formedB
    rw [HNO.1,hp,hq,hlq,Bool.true_and])
   have hrt:=right_any nd.set S cs wr hs hcs (HSL3.1.more (by have:=HB3.1.size;omega))
   rw [hlq] at hrt
   have HRT:=hide hrt
   replace f2:wr.cell? ⟨w.heap.size+1,10,none⟩=some (.bool p):=f2.trans (by rw [← hp];rfl)
   replace f3:wr.cell? ⟨w.heap.size+1,11,none⟩=some (.bool q):=f3.trans (by rw [← hq];rfl)
   clear hrt hp hq hlq HNO HSL3 HN HF HOK
   by_cases hS:0<nd.set.length
   ·have es:decide (0<nd.set.length)=true:=by simpa using hS
    cases p with
    | true=>
     by_cases hn:nd.name=[]
     ·have en:(nd.name==[])=true:=by simp [hn]
      by_cases h32:nd.name.length≤32
      ·have e32:decide ((nd.name.length:Int)≤32)=true:=by simp;omega
       have e33:decide (nd.name.length≤32)=true:=by simpa using h32
       have HR:=hide (show formedB k nd=lq from by rw [HFB.1];simp [hS,hn,h32])
       clear hS h32 hn
       go_wp2_with fail
       refine HRT.1.mono ?_
       rintro e w5 ⟨rfl,hb5⟩
       have HB5:=hide (HB3.1.trans (hb5.mono HB3.1.size))
       clear hb5 HRT
       go_wp2_with fail
       go_ret
       exact ⟨by rw [HR.1];rfl,HB5.1⟩
      ·have e32:decide ((nd.name.length:Int)≤32)=false:=by simp;omega
       have e33:decide (nd.name.length≤32)=false:=by simpa using h32
       have HR:=hide (show formedB k nd=false from by rw [HFB.1];simp [h32])
       clear hS h32 hn
       go_wp2_with fail
       go_ret
       exact ⟨by rw [HR.1];rfl,HB3.1⟩
     ·have en:(nd.name==[])=false:=by simp [hn]
      cases q with
      | true=>
       by_cases h32:nd.name.length≤32
       ·have e32:decide ((nd.name.length:Int)≤32)=true:=by simp;omega
        have e33:decide (nd.name.length≤32)=true:=by simpa using h32
        have HR:=hide (show formedB k nd=lq from by rw [HFB.1];simp [hS,hn,h32])
        clear hS h32 hn
        go_wp2_with fail
        refine HRT.1.mono ?_
        rintro e w5 ⟨rfl,hb5⟩
        have HB5:=hide (HB3.1.trans (hb5.mono HB3.1.size))
        clear hb5 HRT
        go_wp2_with fail
        go_ret
        exact ⟨by rw [HR.1];rfl,HB5.1⟩
       ·have e32:decide ((nd.name.length:Int)≤32)=false:=by simp;omega
        have e33:decide (nd.name.length≤32)=false:=by simpa using h32
        have HR:=hide (show formedB k nd=false from by rw [HFB.1];simp [h32])
        clear hS h32 hn
        go_wp2_with fail
        go_ret
        exact ⟨by rw [HR.1];rfl,HB3.1⟩
      | false=>
       have HR:=hide (show formedB k nd=false from by rw [HFB.1];simp [hn])
       clear hS hn
       go_wp2_with fail
       go_ret
       exact ⟨by rw [HR.1];rfl,HB3.1⟩
    | false=>
     have HR:=hide (show formedB k nd=false from by rw [HFB.1];simp [hS])
     clear hS
     go_wp2_with fail
     go_ret
     exact ⟨by rw [HR.1];rfl,HB3.1⟩
   ·have es:decide (0<nd.set.length)=false:=by simpa using hS
    by_cases hn:nd.name=[]
    ·have en:(nd.name==[])=true:=by simp [hn]
     by_cases h32:nd.name.length≤32
     ·have e32:decide ((nd.name.length:Int)≤32)=true:=by simp;omega
      have e33:decide (nd.name.length≤32)=true:=by simpa using h32
      have HR:=hide (show formedB k nd=lq from by rw [HFB.1];simp [hS,hn,h32])
      clear hS h32 hn
      go_wp2_with fail
      refine HRT.1.mono ?_
      rintro e w5 ⟨rfl,hb5⟩
      have HB5:=hide (HB3.1.trans (hb5.mono HB3.1.size))
      clear hb5 HRT
      go_wp2_with fail
      go_ret
      exact ⟨by rw [HR.1];rfl,HB5.1⟩
     ·have e32:decide ((nd.name.length:Int)≤32)=false:=by simp;omega
      have e33:decide (nd.name.length≤32)=false:=by simpa using h32
      have HR:=hide (show formedB k nd=false from by rw [HFB.1];simp [h32])
      clear hS h32 hn
      go_wp2_with fail
      go_ret
      exact ⟨by rw [HR.1];rfl,HB3.1⟩
    ·have en:(nd.name==[])=false:=by simp [hn]
     cases q with
     | true=>
      by_cases h32:nd.name.length≤32
      ·have e32:decide ((nd.name.length:Int)≤32)=true:=by simp;omega
       have e33:decide (nd.name.length≤32)=true:=by simpa using h32
       have HR:=hide (show formedB k nd=lq from by rw [HFB.1];simp [hS,hn,h32])
       clear hS h32 hn
       go_wp2_with fail
       refine HRT.1.mono ?_
       rintro e w5 ⟨rfl,hb5⟩
       have HB5:=hide (HB3.1.trans (hb5.mono HB3.1.size))
       clear hb5 HRT
       go_wp2_with fail
       go_ret
       exact ⟨by rw [HR.1];rfl,HB5.1⟩
      ·have e32:decide ((nd.name.length:Int)≤32)=false:=by simp;omega
       have e33:decide (nd.name.length≤32)=false:=by simpa using h32
       have HR:=hide (show formedB k nd=false from by rw [HFB.1];simp [h32])
       clear hS h32 hn
       go_wp2_with fail
       go_ret
       exact ⟨by rw [HR.1];rfl,HB3.1⟩
     | false=>
      have HR:=hide (show formedB k nd=false from by rw [HFB.1];simp [hn])
      clear hS hn
      go_wp2_with fail
      go_ret
      exact ⟨by rw [HR.1];rfl,HB3.1⟩
def countedB (k:Nat) (nd:Nd):Bool:=if k=4 then decide (0<nd.num)||!(nd.name==[]) else if k=8 then (nd.mx==-1)||decide (max 1 nd.mn≤nd.mx) else true
theorem counted_any (nd:Nd) (k:Nat) (hkd:nd.kind=k) (s kv:Value) (w:World) :
  Calls Tryz.prog 34 #[.agg #[.int .i64 nd.kind,.int .i64 nd.from_,.int .i64 nd.to_,.int .i64 nd.num,.int .i64 nd.mn,.int .i64 nd.mx,.int .i64 nd.mode,str nd.name,s,kv]] w fun e w'=>e=.returned (.bool (countedB k nd))∧Below w.heap.size w w':=by
 have HBW:=hide ((Below.refl w.heap.size w).alloc (Nat.le_refl _) (.cells #[.int .i64 nd.kind,.int .i64 nd.from_,.int .i64 nd.to_,.int .i64 nd.num,.int .i64 nd.mn,.int .i64 nd.mx,.int .i64 nd.mode,str nd.name,s,kv] 34))
 rw [hkd] at HBW ⊢
 clear hkd
 by_cases h4:k=4
 ·subst h4
  by_cases hn:0<nd.num
  ·have e1:decide (0<nd.num)=true:=by simpa using hn
   have HR:=hide (show countedB 4 nd=true by unfold countedB;simp [hn])
   clear hn
   go_enter Tryz.func34,Tryz.ntmps34
   go_wp2_with fail
   go_ret
   exact ⟨by rw [HR.1];rfl,HBW.1⟩
  ·have e1:decide (0<nd.num)=false:=by simpa using hn
   by_cases he:nd.name=[]
   ·have en:(nd.name==[])=true:=by simp [he]
    have HR:=hide (show countedB 4 nd=false by unfold countedB;simp [hn,he])
    clear hn he
    go_enter Tryz.func34,Tryz.ntmps34
    go_wp2_with fail
    go_ret
    exact ⟨by rw [HR.1];rfl,HBW.1⟩
   ·have en:(nd.name==[])=false:=by simp [he]
    have HR:=hide (show countedB 4 nd=true by unfold countedB;simp [he])
    clear hn he
    go_enter Tryz.func34,Tryz.ntmps34
    go_wp2_with fail
    go_ret
    exact ⟨by rw [HR.1];rfl,HBW.1⟩
 ·by_cases h8:k=8
  ·subst h8
   clear h4
   by_cases hm:nd.mx=-1
   ·have e1:(nd.mx==-1)=true:=by simp [hm]
    have HR:=hide (show countedB 8 nd=true by unfold countedB;simp [hm])
    clear hm
    go_enter Tryz.func34,Tryz.ntmps34
    go_wp2_with fail
    go_ret
    exact ⟨by rw [HR.1];rfl,HBW.1⟩
   ·have e1:(nd.mx==-1)=false:=by simp [hm]
    obtain ⟨z,hz⟩:∃ z,max 1 nd.mn=z:=⟨_,rfl⟩
    obtain ⟨q,hq⟩:∃ q,decide (z≤nd.mx)=q:=⟨_,rfl⟩
    have HR:=hide (show countedB 8 nd=q by unfold countedB;rw [if_neg (by decide),if_pos rfl,hz,hq,e1,Bool.false_or])
    clear hm
    go_enter Tryz.func34,Tryz.ntmps34
    go_wp2_with fail
    go_ret
    exact ⟨by rw [HR.1];rfl,HBW.1⟩
  ·have e4:((k:Int)==4)=false:=by simp;omega
   have e8:((k:Int)==8)=false:=by simp;omega
   have HR:=hide (show countedB k nd=true by unfold countedB;rw [if_neg h4,if_neg h8])
   clear h4 h8
   go_enter Tryz.func34,Tryz.ntmps34
   go_wp2_with fail
   go_ret
   exact ⟨by rw [HR.1];rfl,HBW.1⟩
end
section
open Go.RowKit Mem Rs
attribute [local go_sem] run_not_true run_not_false
def nodeB (nd:Nd):Bool:=decide (1≤nd.kind∧nd.kind≤10)&&(formedB nd.kind.toNat nd&&countedB nd.kind.toNat nd&&(decide (0≤nd.from_)&&decide (nd.from_≤nd.to_)&&decide (nd.to_≤4096)))
theorem node_any (nd:Nd) (S K:Option Addr) (cs ck:Nat) (w:World) (hT:Fm w) (hs:nd.set.length≤8796093021952) (hcs:nd.set.length≤cs) (hS:Lst w w.heap.size S nd.set) :
  Calls Tryz.prog 19 #[.agg #[.int .i64 nd.kind,.int .i64 nd.from_,.int .i64 nd.to_,.int .i64 nd.num,.int .i64 nd.mn,.int .i64 nd.mx,.int .i64 nd.mode,str nd.name,.slice S nd.set.length cs,.slice K nd.kids.length ck]] w fun e w'=>e=.returned (.bool (nodeB nd))∧Below w.heap.size w w':=by
 have hb0:Below w.heap.size w (w.alloc (.cells #[.int .i64 nd.kind,.int .i64 nd.from_,.int .i64 nd.to_,.int .i64 nd.num,.int .i64 nd.mn,.int .i64 nd.mx,.int .i64 nd.mode,str nd.name,.slice S nd.set.length cs,.slice K nd.kids.length ck] 34)):=(Below.refl _ _).alloc (Nat.le_refl _) _
 have HB0:=hide hb0
 by_cases hk:1≤nd.kind∧nd.kind≤10
 ·obtain ⟨k,hkd⟩:∃ k:Nat,nd.kind=k:=⟨nd.kind.toNat,by omega⟩
  have CF:=hide (formed_any nd k hkd (by omega) (by omega) S K cs ck (w.alloc (.cells #[.int .i64 nd.kind,.int .i64 nd.from_,.int .i64 nd.to_,.int .i64 nd.num,.int .i64 nd.mn,.int .i64 nd.mx,.int .i64 nd.mode,str nd.name,.slice S nd.set.length cs,.slice K nd.kids.length ck] 34)) (hT.below hb0 (Nat.le_refl _)) hs hcs ((hS.below hb0).more hb0.size))
  have CC:=hide (fun wx=>counted_any nd k hkd (.slice S nd.set.length cs) (.slice K nd.kids.length ck) wx)
  have bN:=Blk.new w 34 #[.int .i64 nd.kind,.int .i64 nd.from_,.int .i64 nd.to_,.int .i64 nd.num,.int .i64 nd.mn,.int .i64 nd.mx,.int .i64 nd.mode,str nd.name,.slice S nd.set.length cs,.slice K nd.kids.length ck]
  have HN:=hide bN
  obtain ⟨fb,hfb⟩:∃ q,formedB k nd=q:=⟨_,rfl⟩
  obtain ⟨cb,hcb⟩:∃ q,countedB k nd=q:=⟨_,rfl⟩
  have HR:=hide (show nodeB nd=(fb&&cb&&(decide (0≤nd.from_)&&decide (nd.from_≤nd.to_)&&decide (nd.to_≤4096))) from by
   unfold nodeB
   rw [decide_eq_true hk,hkd,Int.toNat_natCast,hfb,hcb,Bool.true_and])
  rw [hfb] at CF
  rw [hcb] at CC
  have k1:decide (nd.kind<1)=false:=by simp;omega
  have k2:decide (10<nd.kind)=false:=by simp;omega
  clear hk hkd hT hS hb0 bN hfb hcb
  go_enter Tryz.func19,Tryz.ntmps19
  go_wp2_with fail
  refine CF.1.mono ?_
  rintro e w2 ⟨rfl,hb2⟩
  have bN:=HN.1.below hb2 (by simp)
  have HN:=hide bN
  have HB2:=hide (HB0.1.trans (hb2.mono HB0.1.size))
  clear CF hb2 bN
  cases fb with
  | false=>
   go_wp2_with fail
   go_ret
   exact ⟨by rw [HR.1];simp,HB2.1⟩
  | true=>
   have n0:=HN.1.cell 0
   have n1:=HN.1.cell 1
   have n2:=HN.1.cell 2
   have n3:=HN.1.cell 3
   have n4:=HN.1.cell 4
   have n5:=HN.1.cell 5
   have n6:=HN.1.cell 6
   have n7:=HN.1.cell 7
   have n8:=HN.1.cell 8
   have n9:=HN.1.cell 9
   go_wp2_with fail
   refine (CC.1 w2).mono ?_
   rintro e w3 ⟨rfl,hb3⟩
   have bN:=HN.1.below hb3 (by have:=HB2.1.size;have:=HN.1.lt;omega)
   have HB3:=hide (HB2.1.trans (hb3.mono HB2.1.size))
   clear CC hb3 n0 n1 n2 n3 n4 n5 n6 n7 n8 n9
   cases cb with
   | false=>
    go_wp2_with fail
    go_ret
    exact ⟨by rw [HR.1];simp,HB3.1⟩
   | true=>
    have n1:=bN.cell 1
    have n2:=bN.cell 2
    clear bN
    by_cases h1:0≤nd.from_
    ·have e1:decide (0≤nd.from_)=true:=by simpa using h1
     by_cases h2:nd.from_≤nd.to_
     ·have e2:decide (nd.from_≤nd.to_)=true:=by simpa using h2
      obtain ⟨q,hq⟩:∃ q,decide (nd.to_≤4096)=q:=⟨_,rfl⟩
      have HR2:=hide (show nodeB nd=q from by rw [HR.1,e1,e2,hq];simp)
      clear h1 h2
      go_wp2_with fail
      go_ret
      exact ⟨by rw [HR2.1];rfl,HB3.1⟩
     ·have e2:decide (nd.from_≤nd.to_)=false:=by simpa using h2
      have HR2:=hide (show nodeB nd=false from by rw [HR.1,e1,e2];simp)
      clear h1 h2
      go_wp2_with fail
      go_ret
      exact ⟨by rw [HR2.1];rfl,HB3.1⟩
    ·have e1:decide (0≤nd.from_)=false:=by simpa using h1
     have HR2:=hide (show nodeB nd=false from by rw [HR.1,e1];simp)
     clear h1
     go_wp2_with fail
     go_ret
     exact ⟨by rw [HR2.1];rfl,HB3.1⟩
 ·have HR:=hide (show nodeB nd=false from by unfold nodeB;rw [decide_eq_false hk];rfl)
  by_cases h1:nd.kind<1
  ·have k1:decide (nd.kind<1)=true:=by simpa using h1
   clear hk h1 hT hS hb0
   go_enter Tryz.func19,Tryz.ntmps19
   go_wp2_with fail
   go_ret
   exact ⟨by rw [HR.1];rfl,HB0.1⟩
  ·have k1:decide (nd.kind<1)=false:=by simpa using h1
   have k2:decide (10<nd.kind)=true:=by simp;omega
   clear hk h1 hT hS hb0
   go_enter Tryz.func19,Tryz.ntmps19
   go_wp2_with fail
   go_ret
   exact ⟨by rw [HR.1];rfl,HB0.1⟩
theorem wrong_any (nd:Nd) (S K:Option Addr) (cs ck:Nat) (w:World) (hT:Fm w) (hs:nd.set.length≤8796093021952) (hcs:nd.set.length≤cs) (hS:Lst w w.heap.size S nd.set) :
  Calls Tryz.prog 18 #[.agg #[.int .i64 nd.kind,.int .i64 nd.from_,.int .i64 nd.to_,.int .i64 nd.num,.int .i64 nd.mn,.int .i64 nd.mx,.int .i64 nd.mode,str nd.name,.slice S nd.set.length cs,.slice K nd.kids.length ck]] w fun e w'=>e=.returned (.bool (!nodeB nd))∧Below w.heap.size w w':=by
 have hb0:Below w.heap.size w (w.alloc (.cells #[.int .i64 nd.kind,.int .i64 nd.from_,.int .i64 nd.to_,.int .i64 nd.num,.int .i64 nd.mn,.int .i64 nd.mx,.int .i64 nd.mode,str nd.name,.slice S nd.set.length cs,.slice K nd.kids.length ck] 34)):=(Below.refl _ _).alloc (Nat.le_refl _) _
 have C:=hide (node_any nd S K cs ck (w.alloc (.cells #[.int .i64 nd.kind,.int .i64 nd.from_,.int .i64 nd.to_,.int .i64 nd.num,.int .i64 nd.mn,.int .i64 nd.mx,.int .i64 nd.mode,str nd.name,.slice S nd.set.length cs,.slice K nd.kids.length ck] 34)) (hT.below hb0 (Nat.le_refl _)) hs hcs ((hS.below hb0).more hb0.size))
 have HB0:=hide hb0
 generalize nodeB nd=q at *
 clear hb0 hT hS
 go_enter Tryz.func18,Tryz.ntmps18
 go_wp2_with fail
 refine C.1.mono ?_
 rintro e w2 ⟨rfl,hb2⟩
 have HB2:=hide (HB0.1.trans (hb2.mono HB0.1.size))
 clear C hb2
 cases q with
 | true=>
  go_wp2_with fail
  go_ret
  exact ⟨rfl,HB2.1⟩
 | false=>
  go_wp2_with fail
  go_ret
  exact ⟨rfl,HB2.1⟩
def XRel (l:List Nd) (w:World) (i:Value) (wr:World):Prop:=∃ k:Nat,i=.int .i64 k∧k≤l.length∧(∀ (j:Nat) nd,j<k→l[j]?=some nd→nodeB nd=true)∧Below w.heap.size w wr
def IdxPost (l:List Nd) (w:World) (e:Ending) (w':World):Prop:=∃ z:Int,e=.returned (.int .i64 z)∧decide (0≤z)=(!l.all nodeB)∧Below w.heap.size w w'
theorem index_any (l:List Nd) (A:Option Addr) (ca B:Nat) (w:World) (hB:B≤w.heap.size) (hT:Fm w) (hset:∀ nd∈l,nd.set.length≤8796093021952) (hl:NodesV w B l (.slice A l.length ca)) :
  Calls Tryz.prog 35 #[.slice A l.length ca,.func (.func 18) #[] #[]] w (IdxPost l w):=by
 obtain ⟨A',ca',e1,hl1,hl2,hln⟩:=hl
 simp only [Value.slice.injEq,true_and] at e1
 obtain ⟨rfl,rfl⟩:=e1
 have HLN:=hide hln
 have HT:=hide hT
 have HS:=hide hset
 clear hln hT hset
 go_enter Tryz.func35,Tryz.ntmps35
 go_wp2_with fail
 go_loopw [8] (fun i wr=>XRel l w i wr) (fun i _=>l.length-(intOf i).toNat)
 case atStart=>exact ⟨0,rfl,by omega,fun j _ hj=>absurd hj (by omega),Below.refl _ _⟩
 case round=>
  obtain ⟨k,rfl,hk,heq,hb⟩:=hrel
  go_hideQ
  have HEQ:=hide heq
  have HB:=hide hb
  have hsz:=hb.size
  clear heq hb
  by_cases hlt:k<l.length
  ·have hka:(k:Int)<(l.length:Int):=by omega
   obtain ⟨nd,ha⟩:∃ r,l[k]?=some r:=⟨_,List.getElem?_eq_getElem hlt⟩
   obtain ⟨ba,oa,rfl,hba,hca⟩:=HLN.1 (by omega)
   obtain ⟨h0,h1,h2,h3,h4,h5,h6,h7,⟨v8,h8,S,cs,rfl,hs1,hs2,hsa⟩,v9,h9,K,ck,rfl,hk1,hk2,hka9⟩:=hca k nd ha
   have up:∀ j u,w.cell? ⟨ba,oa+k*10+j,none⟩=some u→wr.cell? ⟨ba,oa+k*10+j,none⟩=some u:=fun j u h=>(HB.1.cell (p:=⟨ba,oa+k*10+j,none⟩) (by show ba<w.heap.size;omega)).trans h
   have d0:wr.cell? ⟨ba,oa+k*10,none⟩=some (.int .i64 nd.kind):=up 0 _ h0
   have d1:=up 1 _ h1
   have d2:=up 2 _ h2
   have d3:=up 3 _ h3
   have d4:=up 4 _ h4
   have d5:=up 5 _ h5
   have d6:=up 6 _ h6
   have d7:=up 7 _ h7
   have d8:=up 8 _ h8
   have d9:=up 9 _ h9
   have C:=hide (wrong_any nd S K cs ck wr (HT.1.below HB.1 (Nat.le_refl _)) (HS.1 nd (List.mem_of_getElem? ha)) hs1 ((hsa.keep fun p hp=>HB.1.cell (by omega)).more (by omega)))
   have HA:=hide ha
   obtain ⟨q,hq⟩:∃ q,nodeB nd=q:=⟨_,rfl⟩
   rw [hq] at C
   have HQ:=hide hq
   clear ha hca hsa hka9 up h0 h1 h2 h3 h4 h5 h6 h7 h8 h9 hba hq
   cases q with
   | true=>
    go_wp2_with fail
    refine C.1.mono ?_
    rintro e w5 ⟨rfl,hb5⟩
    have hR:XRel l w (.int .i64 ((k:Int)+1)) w5:=by
     refine ⟨k+1,by go_num,by omega,fun j x hj hx=>?_,HB.1.trans (hb5.mono hsz)⟩
     rcases Nat.lt_or_ge j k with h|h
     ·exact HEQ.1 j x h hx
     ·obtain rfl:j=k:=by omega
      obtain rfl:=Option.some.inj (HA.1.symm.trans hx)
      exact HQ.1
    have HRR:=hide hR
    clear C hb5 hR
    go_wp2_with fail
    have hR:=HRR.1
    go_roundw
    case rel=>exact hR
    case measure=>simp [intOf];omega
   | false=>
    have HR:=hide (show (!l.all nodeB)=true from by
     rw [Bool.not_eq_true',Bool.eq_false_iff,ne_eq]
     intro h
     have:=List.all_eq_true.1 h nd (List.mem_of_getElem? HA.1)
     rw [HQ.1] at this
     cases this)
    go_wp2_with fail
    refine C.1.mono ?_
    rintro e w5 ⟨rfl,hb5⟩
    have HB5:=hide (HB.1.trans (hb5.mono hsz))
    clear C hb5
    go_wp2_with fail
    go_ret
    exact ⟨k,rfl,by rw [HR.1];simp,HB5.1⟩
  ·have hka:(l.length:Int)≤(k:Int):=by omega
   have HR:=hide (show (!l.all nodeB)=false from by
    rw [Bool.not_eq_false',List.all_eq_true]
    intro x hx
    obtain ⟨j,hj,rfl⟩:=List.mem_iff_getElem.1 hx
    exact HEQ.1 j _ (by omega) (List.getElem?_eq_getElem hj))
   clear hlt
   go_wp2_with fail
   go_ret
   exact ⟨-1,rfl,by rw [HR.1];rfl,HB.1⟩
theorem contains_any (l:List Nd) (A:Option Addr) (ca B:Nat) (w:World) (hB:B≤w.heap.size) (hT:Fm w) (hset:∀ nd∈l,nd.set.length≤8796093021952) (hl:NodesV w B l (.slice A l.length ca)) :
  Calls Tryz.prog 20 #[.slice A l.length ca,.func (.func 18) #[] #[]] w fun e w'=>e=.returned (.bool (!l.all nodeB))∧Below w.heap.size w w':=by
 have C:=hide (index_any l A ca B w hB hT hset hl)
 unfold IdxPost at C
 clear hT hset hl
 go_enter Tryz.func20,Tryz.ntmps20
 go_wp2_with fail
 refine C.1.mono ?_
 rintro e w1 ⟨z,rfl,hz,hb⟩
 have HB:=hide hb
 clear C hb
 go_wp2_with fail
 go_ret
 exact ⟨rfl,HB.1⟩
end
section
open Go.RowKit Mem Rs
def nmsOf:List Nd→List (List UInt8)→Option (List (List UInt8))
 | [],acc=>some acc
 | nd :: l,acc=>if nd.kind=7 then (if nd.num=(acc.length:Int) then nmsOf l (acc++[nd.name]) else none) else nmsOf l acc
def namedB (t:Tr):Bool:=match nmsOf t.nodes [[]] with
 | some names=>decide (t.groups=(names.length:Int)-1)&&decide (t.names=names)
 | none=>false
theorem nmsOf_drop {l:List Nd} {k:Nat} {nd:Nd} (h:l[k]?=some nd) (acc:List (List UInt8)):nmsOf (l.drop k) acc=if nd.kind=7 then (if nd.num=(acc.length:Int) then nmsOf (l.drop (k+1)) (acc++[nd.name]) else none) else nmsOf (l.drop (k+1)) acc:=by
 obtain ⟨hk,rfl⟩:=List.getElem?_eq_some_iff.1 h
 rw [List.drop_eq_getElem_cons hk,nmsOf]
theorem info_str:(Tryz.prog.info? 9).map (fun i=>(i.zero,i.size,i.bytes))=some (some (.string ⟨#[]⟩),1,16):=by kernel_rfl
theorem one_str (l:List UInt8):∀ u∈(#[str l]:Array Value).toList,u.oneCell'=true:=by simp [Value.oneCell']
def MRel (t:Tr) (w W:World) (v i:Value) (wr:World):Prop:=∃ (k:Nat) (acc:List (List UInt8)),i=.int .i64 k∧k≤t.nodes.length∧acc.length≤k+1∧1≤acc.length∧nmsOf (t.nodes.drop k) acc=nmsOf t.nodes [[]]∧wr.ownsRow W.heap.size 9 1 v acc.length (acc.map str)∧Below W.heap.size W wr
theorem names_at {w:World} {base:Nat} {v:Value} {l:List (List UInt8)} (h:w.ownsRow base 9 1 v l.length (l.map str)):∃ A cap,v=.slice A l.length cap∧l.length≤cap∧cap≤9223372036854775807∧NmsAt w A l:=by
 rcases h.2 with ⟨rfl,hx⟩|⟨g,cap,cur,rfl,hb,hh,hnc,hcm,hcs,ht⟩
 ·refine ⟨none,0,by rw [hx],by omega,by omega,fun hn=>by omega⟩
 ·refine ⟨some ⟨g,0,none⟩,cap,rfl,hnc,by unfold maxLen at hcm;omega,fun hn=>⟨g,0,rfl,fun k s hs=>?_⟩⟩
  obtain ⟨ad,he,hlt,hc⟩:=(Reads.of_own h).2 hn
  cases he
  have:=hc k (str s) (by rw [List.getElem?_map,hs];rfl)
  rwa [add_flat] at this
theorem named_any (t:Tr) (v:Value) (B:Nat) (w:World) (hB:B≤w.heap.size) (hlen:t.nodes.length≤100000) (hT:TreeV w B t v) :
  Calls Tryz.prog 22 #[v] w fun e w'=>e=.returned (.bool (namedB t))∧Below w.heap.size w w':=by
 obtain ⟨av,cv,rfl,⟨A,cap,rfl,hc1,hc2,hn⟩,hns⟩:=hT
 obtain ⟨C,cc,rfl,-⟩:=id hns
 obtain ⟨i0,hi,hz0,hz1,hz2⟩:=info_parts info_str
 have HNS:=hide hns
 have HN:=hide hn
 have hb0:Below w.heap.size w (w.alloc (.cells #[.slice A t.nodes.length cap,.int .i64 t.groups,.slice C t.names.length cc] 27)):=(Below.refl _ _).alloc (Nat.le_refl _) _
 have HB0:=hide hb0
 have bT:=Blk.new w 27 #[.slice A t.nodes.length cap,.int .i64 t.groups,.slice C t.names.length cc]
 have HBT:=hide bT
 clear hn hns hb0 bT
 go_enter Tryz.func22,Tryz.ntmps22
 go_wp2_with fail
 have ho0:((w.alloc (.cells #[.slice A t.nodes.length cap,.int .i64 t.groups,.slice C t.names.length cc] 27)).alloc (.cells #[.string ⟨#[]⟩] 9)).ownsRow (w.alloc (.cells #[.slice A t.nodes.length cap,.int .i64 t.groups,.slice C t.names.length cc] 27)).heap.size 9 1 (.slice (some ⟨w.heap.size+1,0,none⟩) 1 1) 1 [.string ⟨#[]⟩]:=by
  rw [← World.size_alloc w (.cells #[.slice A t.nodes.length cap,.int .i64 t.groups,.slice C t.names.length cc] 27)]
  exact ⟨rfl,.inr ⟨_,1,#[.string ⟨#[]⟩],rfl,Nat.le_refl _,World.alloc_heap_new _ _,Nat.le_refl _,by unfold maxLen;omega,rfl,rfl⟩⟩
 go_loopw [3,10] (fun x i wr=>MRel t w (w.alloc (.cells #[.slice A t.nodes.length cap,.int .i64 t.groups,.slice C t.names.length cc] 27)) x i wr) (fun _ i _=>t.nodes.length-(intOf i).toNat)
 case atStart=>exact ⟨0,[[]],rfl,by omega,by simp,by simp,by simp,ho0,(Below.refl _ _).alloc (Nat.le_refl _) _⟩
 case round=>
  obtain ⟨k,acc,rfl,hk,ha1,ha2,hnm,ho,hb⟩:=hrel
  obtain ⟨m,hm⟩:∃ m,acc.length=m+1:=⟨acc.length-1,by omega⟩
  obtain ⟨g,vc,rfl⟩:=ownsRow_succ (k:=m) (by rw [← hm];exact ho)
  go_hideQ
  have HO:=hide ho
  have HB:=hide hb
  have HNM:=hide hnm
  have hbw:Below w.heap.size w wr:=HB0.1.trans (hb.mono (by simp))
  have HBW:=hide hbw
  have hsz:w.heap.size+1≤wr.heap.size:=by have:=hb.size;simpa using this
  have bT:=HBT.1.below hb (by simp)
  clear ho hb hnm ho0 hbw
  by_cases hlt:k<t.nodes.length
  ·have hka:(k:Int)<(t.nodes.length:Int):=by omega
   obtain ⟨nd,ha⟩:∃ r,t.nodes[k]?=some r:=⟨_,List.getElem?_eq_getElem hlt⟩
   obtain ⟨ba,oa,rfl,hba,hca⟩:=HN.1 (by omega)
   obtain ⟨h0,h1,h2,h3,h4,h5,h6,h7,⟨v8,h8,S,cs,rfl,hs1,hs2,hsa⟩,v9,h9,K,ck,rfl,hk1,hk2,hka9⟩:=hca k nd ha
   have up:∀ j u,w.cell? ⟨ba,oa+k*10+j,none⟩=some u→wr.cell? ⟨ba,oa+k*10+j,none⟩=some u:=fun j u h=>(HBW.1.cell (p:=⟨ba,oa+k*10+j,none⟩) (by show ba<w.heap.size;omega)).trans h
   have d0:wr.cell? ⟨ba,oa+k*10,none⟩=some (.int .i64 nd.kind):=up 0 _ h0
   have d1:=up 1 _ h1
   have d2:=up 2 _ h2
   have d3:=up 3 _ h3
   have d4:=up 4 _ h4
   have d5:=up 5 _ h5
   have d6:=up 6 _ h6
   have d7:=up 7 _ h7
   have d8:=up 8 _ h8
   have d9:=up 9 _ h9
   have hdrop:=nmsOf_drop ha acc
   have HA:=hide ha
   have hmx:acc.length+1≤maxLen:=by unfold maxLen;omega
   have hml:(acc.length:Int)=(m:Int)+1:=by omega
   clear ha hca hsa hka9 up h0 h1 h2 h3 h4 h5 h6 h7 h8 h9 hba bT
   by_cases hkd:nd.kind=7
   ·have e1:(nd.kind != 7)=false:=by simp [hkd]
    rw [if_pos hkd] at hdrop
    by_cases hnum:nd.num=(m:Int)+1
    ·have e2:(nd.num != (m:Int)+1)=false:=by simp [hnum]
     rw [if_pos (by omega)] at hdrop
     have HD:=hide (hdrop.symm.trans HNM.1)
     clear hkd hnum hdrop
     go_wp2_with (at_builtin;refine wpList_append_any _ rfl (.tmp 22) (.tmp 25) 25 rfl (w.alloc (.cells #[.slice (some ⟨ba,oa,none⟩) t.nodes.length cap,.int .i64 t.groups,.slice C t.names.length cc] 27)).heap.size 9 i0 (.string ⟨#[]⟩) 1 16 Tryz.underlying25 hi hz0 hz1 hz2 rfl (by decide) _ acc.length _ rfl ((HO.1.alloc _).alloc _) _ _ 1 1 _ rfl (reads_at (by rw [World.size_alloc]) #[str nd.name] 9 1 1 rfl) (one_str nd.name) hmx (by omega) (by rw [World.size_alloc,World.size_alloc,World.size_alloc];omega) ?_;intro v5 w5 ho5 hg5 hn5;have hb5:=below_app (below_al HB.1 HB.1.size _) (HO.1.alloc _) hg5;have HO5:=hide ho5;have HB5:=hide hb5;clear ho5 hg5 hn5 hb5)
     have hR:MRel t w (w.alloc (.cells #[.slice (some ⟨ba,oa,none⟩) t.nodes.length cap,.int .i64 t.groups,.slice C t.names.length cc] 27)) v5 (.int .i64 ((k:Int)+1)) w5:=by
      refine ⟨k+1,acc++[nd.name],by go_num,by omega,by simp;omega,by simp,HD.1,?_,HB5.1⟩
      rw [List.length_append,List.map_append]
      exact HO5.1
     go_roundw
     case rel=>exact hR
     case measure=>simp [intOf];omega
    ·have e2:(nd.num != (m:Int)+1)=true:=by simp [hnum]
     rw [if_neg (by omega)] at hdrop
     have HR:=hide (show namedB t=false from by unfold namedB;rw [← HNM.1,hdrop])
     clear hkd hnum hdrop
     go_wp2_with fail
     go_ret
     exact ⟨by rw [HR.1];rfl,HBW.1.alloc HBW.1.size _⟩
   ·have e1:(nd.kind != 7)=true:=by simp [hkd]
    rw [if_neg hkd] at hdrop
    have HD:=hide (hdrop.symm.trans HNM.1)
    clear hkd hdrop
    go_wp2_with fail
    have hR:MRel t w (w.alloc (.cells #[.slice (some ⟨ba,oa,none⟩) t.nodes.length cap,.int .i64 t.groups,.slice C t.names.length cc] 27)) (.slice (some ⟨g,0,none⟩) (m+1) vc) (.int .i64 ((k:Int)+1)) (wr.alloc (.cells #[.int .i64 nd.kind,.int .i64 nd.from_,.int .i64 nd.to_,.int .i64 nd.num,.int .i64 nd.mn,.int .i64 nd.mx,.int .i64 nd.mode,str nd.name,.slice S nd.set.length cs,.slice K nd.kids.length ck] 34)):=
     ⟨k+1,acc,by go_num,by omega,by omega,ha2,HD.1,HO.1.alloc _,HB.1.alloc HB.1.size _⟩
    go_roundw
    case rel=>exact hR
    case measure=>simp [intOf];omega
  ·have hka:(t.nodes.length:Int)≤(k:Int):=by omega
   obtain rfl:k=t.nodes.length:=by omega
   have hfin:=HNM.1
   rw [List.drop_length,nmsOf] at hfin
   have HNB:=hide (show namedB t=(decide (t.groups=(acc.length:Int)-1)&&decide (t.names=acc)) from by unfold namedB;rw [← hfin])
   obtain ⟨n1,n2,n3⟩:NmsAt wr C t.names∧t.names.length≤cc∧cc≤9223372036854775807:=by
    obtain ⟨C',cc',e,p1,p2,p3⟩:=HNS.1.keep fun p hp=>HBW.1.cell (by omega)
    simp only [Value.slice.injEq,true_and] at e
    obtain ⟨rfl,rfl⟩:=e
    exact ⟨fun hn=>by obtain ⟨b,off,e,_,hc⟩:=p3 hn;exact ⟨b,off,e,hc⟩,p1,p2⟩
   obtain ⟨A2,cap2,e2,q1,q2,q3⟩:=names_at HO.1
   rw [hm] at e2
   simp only [Value.slice.injEq,true_and] at e2
   obtain ⟨rfl,rfl⟩:=e2
   obtain ⟨q,hq⟩:∃ q,decide (t.names=acc)=q:=⟨_,rfl⟩
   have CE:=hide (eqS_any t.names acc C (some ⟨g,0,none⟩) cc vc wr n2 n3 q1 q2 n1 q3 q hq)
   rw [hm] at CE
   have c1:=bT.cell 1
   have c2:=bT.cell 2
   have HQ:=hide hq
   have hgz:(acc.length:Int)-1=(m:Int):=by omega
   clear hfin n1 q3 bT hq hlt
   by_cases hg:t.groups=(m:Int)
   ·have d0:(t.groups==(m:Int))=true:=by simp [hg]
    have HR:=hide (show namedB t=q from by rw [HNB.1,HQ.1,hgz,decide_eq_true hg,Bool.true_and])
    clear hg hgz
    go_wp2_with fail
    refine CE.1.mono ?_
    rintro e w3 hh
    obtain ⟨rfl,hb3⟩:=hh.below
    have HB3:=hide (HBW.1.trans (hb3.mono HBW.1.size))
    clear hh hb3 CE
    go_wp2_with fail
    go_ret
    exact ⟨by rw [HR.1];rfl,HB3.1⟩
   ·have d0:(t.groups==(m:Int))=false:=by simp [hg]
    have HR:=hide (show namedB t=false from by rw [HNB.1,hgz,decide_eq_false hg,Bool.false_and])
    clear hg hgz
    go_wp2_with fail
    go_ret
    exact ⟨by rw [HR.1];rfl,HBW.1⟩
end
section
open Go.RowKit Go.Shelf Mem Rs
attribute [local go_sem] Oper.semAt_some run_not_true run_not_false
structure Sl where
 a:Option Addr
 n:Nat
 c:Nat
def Lies10 (w:World) (b off:Nat) (L:List Nd) (sv kv:Nat→Sl):Prop:=∀ (k:Nat) nd,L[k]?=some nd →
 w.cell? ⟨b,off+k*10,none⟩=some (.int .i64 nd.kind)∧w.cell? ⟨b,off+k*10+1,none⟩=some (.int .i64 nd.from_)∧w.cell? ⟨b,off+k*10+2,none⟩=some (.int .i64 nd.to_)∧w.cell? ⟨b,off+k*10+3,none⟩=some (.int .i64 nd.num)∧w.cell? ⟨b,off+k*10+4,none⟩=some (.int .i64 nd.mn)∧w.cell? ⟨b,off+k*10+5,none⟩=some (.int .i64 nd.mx)∧w.cell? ⟨b,off+k*10+6,none⟩=some (.int .i64 nd.mode) ∧
 w.cell? ⟨b,off+k*10+7,none⟩=some (str nd.name)∧w.cell? ⟨b,off+k*10+8,none⟩=some (.slice (sv k).a (sv k).n (sv k).c)∧w.cell? ⟨b,off+k*10+9,none⟩=some (.slice (kv k).a (kv k).n (kv k).c)
theorem Lies10.keep {w w':World} {b off:Nat} {L:List Nd} {sv kv:Nat→Sl} (h:Lies10 w b off L sv kv) (hk:w'.heap[b]?=w.heap[b]?):Lies10 w' b off L sv kv:=fun k nd hn=>by
 have up:∀ j u,w.cell? ⟨b,j,none⟩=some u→w'.cell? ⟨b,j,none⟩=some u:=fun j u h=>(World.cell?_of_block (a:=⟨b,j,none⟩) hk).trans h
 obtain ⟨h0,h1,h2,h3,h4,h5,h6,h7,h8,h9⟩:=h k nd hn
 exact ⟨up _ _ h0,up _ _ h1,up _ _ h2,up _ _ h3,up _ _ h4,up _ _ h5,up _ _ h6,up _ _ h7,up _ _ h8,up _ _ h9⟩
def KB (B p:Nat) (k:Nat):Prop:=k<B∨k=p
def BRel (L:List Nd) (B p:Nat) (J:List (Fin L.length)→World→Prop) (W:World) (i:Value) (wr:World):Prop:=
 ∃ q:Nat,i=.int .i64 ((L.length:Int)-1-(q:Int))∧q≤L.length∧J ((items L.length).take q) wr∧Stays (KB B p) W wr∧W.heap.size≤wr.heap.size
theorem take_snoc {n q:Nat} (h:q<n):(items n).take (q+1)=(items n).take q++[⟨n-1-q,by omega⟩]:=by
 have h1:=items_at h
 obtain ⟨hlt,e⟩:=List.getElem?_eq_some_iff.1 h1
 rw [List.take_succ_eq_append_getElem hlt,e]
theorem back1_in (n:Nat) (hn:1≤n) (lb B p b off cap:Nat) (L:List Nd) (sv kv:Nat→Sl) (hlen:L.length≤100000) (hcap:L.length≤cap)
  (J Jx:List (Fin L.length)→World→Prop) (W:World) (hbB:b<B) (hB:B≤W.heap.size) (hL:Lies10 W b off L sv kv) (hp:Blk W p 24 #[.slice (some ⟨b,off,none⟩) L.length cap])
  (hJ:AbidesFrom W.heap.size J)
  (hY:∀ pre x W1,J pre W1→pre.length<L.length→YieldAt Fence.wide (n-1) Tryz.prog lb #[.int .i64 (x.val:Int),.agg #[.int .i64 (L.get x).kind,.int .i64 (L.get x).from_,.int .i64 (L.get x).to_,.int .i64 (L.get x).num,.int .i64 (L.get x).mn,.int .i64 (L.get x).mx,.int .i64 (L.get x).mode,str (L.get x).name,.slice (sv x.val).a (sv x.val).n (sv x.val).c,.slice (kv x.val).a (kv x.val).n (kv x.val).c]] W1 fun e W'=>
   (e=.returned (.bool true)∧J (pre++[x]) W'∧(Stays (KB B p) W1 W'∧W1.heap.size≤W'.heap.size))∨(e=.returned (.bool false)∧Jx (pre++[x]) W'))
  (h0:J [] W) :
  CallsIn Fence.wide n Tryz.prog 54 #[.func (.yield lb) #[] #[],.pointer (some ⟨p,0,none⟩)] W fun e W'=>(∃ v,e=.returned v) ∧
   ((∃ ys,ys=items L.length∧J ys W')∨(∃ pre,pre <+: items L.length∧Jx pre W')):=by
 refine callsIn_of_wp Tryz.func54 rfl trivial ?_ rfl
 simp only [Tryz.ntmps54,List.size_toArray,List.length_cons,List.length_nil,Nat.reduceAdd,Nat.reduceSub,Array.replicate_succ,Array.replicate_zero,List.push_toArray,List.append_toArray,List.nil_append,List.cons_append]
 have c0:=hp.cell 0
 have HJ:=hide hJ
 have HP:=hide hp
 have HY:=hide hY
 have HL:=hide hL
 clear hJ hp hY hL
 gi_wp2_with fail
 gi_loopw [3] (fun i wr=>BRel L B p J W i wr) (fun i _=>(intOf i+1).toNat)
 case atStart=>exact ⟨0,by simp,by omega,by rw [List.take_zero];exact h0,Stays.refl _ _,Nat.le_refl _⟩
 case round=>
  obtain ⟨q,rfl,hq,hJs,hst,hsz⟩:=hrel
  have bp:Blk wr p 24 #[.slice (some ⟨b,off,none⟩) L.length cap]:=(hst _ (.inr rfl)).trans HP.1
  have hLw:=HL.1.keep (hst b (.inl hbB))
  have c0:=bp.cell 0
  gi_hideQ
  by_cases hlt:q<L.length
  ·obtain ⟨k,hk⟩:∃ k:Nat,L.length-1-q=k:=⟨_,rfl⟩
   have hki:(L.length:Int)-1-(q:Int)=(k:Int):=by omega
   have hkl:k<L.length:=by omega
   obtain ⟨x,hx⟩:∃ x:Fin L.length,x=⟨k,hkl⟩:=⟨_,rfl⟩
   have hts:(items L.length).take (q+1)=(items L.length).take q++[x]:=by rw [take_snoc hlt,hx];simp [hk]
   have hpl:((items L.length).take q).length<L.length:=by rw [List.length_take,items_len];omega
   have hpf:=hide (show (items L.length).take q++[x] <+: items L.length from by rw [← hts];exact List.take_prefix _ _)
   obtain ⟨d0,d1,d2,d3,d4,d5,d6,d7,d8,d9⟩:=hLw k (L.get x) (by rw [hx];exact List.getElem?_eq_getElem hkl)
   have HY2:=hide (HY.1 ((items L.length).take q) x wr hJs hpl)
   have hxk:x.val=k:=by rw [hx]
   have hkn:(k:Int)<(L.length:Int):=by omega
   have hk0:(0:Int)≤(k:Int):=by omega
   have HST:=hide hst
   have HTS:=hide hts
   rw [hxk] at HY2
   rw [hki]
   clear hJs hst hts hLw bp hpl
   generalize L.get x=nd at *
   generalize sv k=s8 at *
   generalize kv k=s9 at *
   obtain ⟨fn,tmps,assign,body,hy,hR⟩:=HY2.1
   clear HY2
   gi_wp2_with fail
   refine hR.mono ?_
   rintro e' W3 (⟨rfl,hJ3,hk3,hz3⟩|⟨rfl,hJx3⟩)
   ·clear hy hR
    have hRR:BRel L B p J W (.int .i64 ((k:Int)-1)) W3:=⟨q+1,by rw [show (k:Int)-1=(L.length:Int)-1-((q+1:Nat):Int) by omega],by omega,by rw [HTS.1];exact hJ3,HST.1.trans hk3,Nat.le_trans hsz hz3⟩
    have HRR:=hide hRR
    clear hRR hJ3 hk3
    gi_wp2_with fail
    have hR:=HRR.1
    first|go_roundw|refine ⟨?rel,?measure⟩
    case rel=>exact hR
    case measure=>simp [intOf];omega
   ·clear hy hR
    gi_wp2
    refine bodyPost_ret (results_none rfl _ _ _) rfl ?_
    exact ⟨⟨_,rfl⟩,.inr ⟨_,hpf.1,hJx3⟩⟩
  ·obtain rfl:q=L.length:=by omega
   have hneg:(L.length:Int)-1-(L.length:Int)=-1:=by omega
   rw [hneg]
   rw [List.take_of_length_le (by rw [items_len];omega)] at hJs
   have HJs:=hide hJs
   clear hJs hst hLw bp
   gi_wp2
   go_end0
   exact ⟨⟨_,rfl⟩,.inl ⟨_,by rfl,HJs.1⟩⟩
theorem backward_any (A:Option Addr) (n cap:Nat) (w:World) :
  Calls Tryz.prog 36 #[.slice A n cap] w fun e w'=>e=.returned (.func (.func 54) #[] #[.pointer (some ⟨w.heap.size,0,none⟩)])∧w'=w.alloc (.cells #[.slice A n cap] 24):=by
 go_enter Tryz.func36,Tryz.ntmps36
 go_wp2
 go_ret
 exact ⟨rfl,rfl⟩
theorem back_stops (n:Nat) (hn:1≤n) (B p b off cap:Nat) (L:List Nd) (sv kv:Nat→Sl) (hlen:L.length≤100000) (hcap:L.length≤cap) (w:World) (hbB:b<B) (hB:B≤w.heap.size) (hL:Lies10 w b off L sv kv) (hp:Blk w p 24 #[.slice (some ⟨b,off,none⟩) L.length cap]) :
  SeqStopsK Fence.wide n Tryz.prog 54 #[.pointer (some ⟨p,0,none⟩)] (fun x:Fin L.length=>#[Value.int .i64 (x.val:Int),.agg #[.int .i64 (L.get x).kind,.int .i64 (L.get x).from_,.int .i64 (L.get x).to_,.int .i64 (L.get x).num,.int .i64 (L.get x).mn,.int .i64 (L.get x).mx,.int .i64 (L.get x).mode,str (L.get x).name,.slice (sv x.val).a (sv x.val).n (sv x.val).c,.slice (kv x.val).a (kv x.val).n (kv x.val).c]]) (Keeps (KB B p)) (fun ys=>ys=items L.length)
   (fun pre=>pre <+: items L.length) L.length w:=fun lb J Jx W hW hJ _ hY h0=>
 back1_in n hn lb B p b off cap L sv kv hlen hcap J Jx W hbB (Nat.le_trans hB hW.size) (hL.keep (hW.block b (by omega))) (hp.below hW hp.lt) hJ hY h0
theorem kb_lt {B p:Nat} {w:World} (hB:B≤w.heap.size) (hp:p<w.heap.size):∀ k,KB B p k→k<w.heap.size:=fun k hk=>by
 rcases hk with h|rfl<;>omega
end
section
open Go.RowKit Mem Rs
theorem covers_any (a b:Nd) (s1 k1 s2 k2:Value) (w:World) :
  Calls Tryz.prog 38 #[.agg #[.int .i64 a.kind,.int .i64 a.from_,.int .i64 a.to_,.int .i64 a.num,.int .i64 a.mn,.int .i64 a.mx,.int .i64 a.mode,str a.name,s1,k1],.agg #[.int .i64 b.kind,.int .i64 b.from_,.int .i64 b.to_,.int .i64 b.num,.int .i64 b.mn,.int .i64 b.mx,.int .i64 b.mode,str b.name,s2,k2]] w fun e w'=>e=.returned (.bool (covB a b))∧Below w.heap.size w w':=by
 have HB:=hide (((Below.refl w.heap.size w).alloc (Nat.le_refl _) (.cells #[.int .i64 a.kind,.int .i64 a.from_,.int .i64 a.to_,.int .i64 a.num,.int .i64 a.mn,.int .i64 a.mx,.int .i64 a.mode,str a.name,s1,k1] 34)).alloc (by simp) (.cells #[.int .i64 b.kind,.int .i64 b.from_,.int .i64 b.to_,.int .i64 b.num,.int .i64 b.mn,.int .i64 b.mx,.int .i64 b.mode,str b.name,s2,k2] 34))
 by_cases h1:a.from_≤b.from_
 ·have e1:decide (a.from_≤b.from_)=true:=by simpa using h1
  obtain ⟨q,hq⟩:∃ q,decide (b.to_≤a.to_)=q:=⟨_,rfl⟩
  have HR:=hide (show covB a b=q from by unfold covB;rw [e1,hq,Bool.true_and])
  clear h1
  go_enter Tryz.func38,Tryz.ntmps38
  go_wp2_with fail
  go_ret
  exact ⟨by rw [HR.1];rfl,HB.1⟩
 ·have e1:decide (a.from_≤b.from_)=false:=by simpa using h1
  have HR:=hide (show covB a b=false from by unfold covB;rw [e1,Bool.false_and])
  clear h1
  go_enter Tryz.func38,Tryz.ntmps38
  go_wp2_with fail
  go_ret
  exact ⟨by rw [HR.1];rfl,HB.1⟩
end
end Go.Proofs.YtmphmddmfcaldaaGreatDoor.As
