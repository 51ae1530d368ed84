/-
  numbersOf, walked; two arrays of five ints compared; how many the kids are, and what goes with them.
-/
import Derived.Test.YtmphmddmfcaldaaGreatDoorMAsA
import Derived.DeepKeys
import Derived.Deep.WholeRow
set_option linter.unusedSimpArgs false
set_option linter.unusedVariables false
set_option maxHeartbeats 2000000
set_option maxRecDepth 100000
namespace Go.Proofs.YtmphmddmfcaldaaGreatDoor.As
section
open Go.RowKit Mem Rs
attribute [local go_sem] neq_range neq_guard
variable {w:World}
def Same1 (b:Bool) (w:World) (e:Ending) (w':World):Prop:=e=.returned (.bool b)∧∃ n,w'=w.drewN n
theorem Same1.below {b:Bool} {e:Ending} {w':World} (h:Same1 b w e w'):e=.returned (.bool b)∧Below w.heap.size w w':=by
 obtain ⟨h1,n,rfl⟩:=h
 exact ⟨h1,below_drewN (Below.refl _ _) n⟩
def NmsAt (w:World) (A:Option Addr) (l:List (List UInt8)):Prop:=0<l.length→∃ b off,A=some ⟨b,off,none⟩∧∀ (k:Nat) s,l[k]?=some s→w.cell? ⟨b,off+k,none⟩=some (str s)
def IntsAt (w:World) (A:Option Addr) (l:List Int):Prop:=0<l.length→∃ b off,A=some ⟨b,off,none⟩∧∀ (k:Nat) s,l[k]?=some s→w.cell? ⟨b,off+k,none⟩=some (.int .i64 s)
def RgsAt (w:World) (A:Option Addr) (l:List R):Prop:=0<l.length→∃ b off,A=some ⟨b,off,none⟩∧∀ (k:Nat) r,l[k]?=some r→w.cell? ⟨b,off+k*2,none⟩=some (.int .i64 r.1)∧w.cell? ⟨b,off+k*2+1,none⟩=some (.int .i64 r.2)
theorem ints_at {B:Nat} {A:Option Addr} {l:List Int} (h:Reads w B 1 A l.length (l.map Mem.i64)):IntsAt w A l:=fun hn=>by
 obtain ⟨b,off,e,_,hc⟩:=kids_at h hn
 exact ⟨b,off,e,hc⟩
theorem rgs_at {B:Nat} {A:Option Addr} {l:List R} (h:Lst w B A l):RgsAt w A l:=fun hn=>by
 obtain ⟨b,off,e,_,hc⟩:=h hn
 exact ⟨b,off,e,hc⟩
theorem eqI_any (l m:List (Int)) (A M:Option Addr) (ca cm:Nat) (w:World) (hl1:l.length≤ca) (hl2:ca≤9223372036854775807) (hm1:m.length≤cm) (hm2:cm≤9223372036854775807) (hA:IntsAt w A l) (hM:IntsAt w M m) (b:Bool) (hb:decide (l=m)=b) :
  Calls Tryz.prog 41 #[.slice A l.length ca,.slice M m.length cm] w (Same1 b w):=by
 have HA:=hide hA
 have HM:=hide hM
 have HBB:=hide hb
 clear hA hM hb
 by_cases hll:l.length=m.length
 ·have d0:((l.length:Int) != (m.length:Int))=false:=by simp [hll]
  have HLL:=hide hll
  clear hll
  go_enter Tryz.func41,Tryz.ntmps41
  go_wp2_with fail
  go_loopw [13] (fun i wr=>QRel l m w w i wr) (fun i _=>l.length-(intOf i).toNat)
  case atStart=>exact ⟨0,0,rfl,by omega,fun j hj=>absurd hj (by omega),rfl⟩
  case round=>
   obtain ⟨k,n,rfl,hk,heq,rfl⟩:=hrel
   go_hideQ
   have HEQ:=hide heq
   clear heq
   by_cases hlt:k<l.length
   ·have hka:(k:Int)<(l.length:Int):=by omega
    have hkb:(k:Int)<(m.length:Int):=by have:=HLL.1;omega
    obtain ⟨r,hr⟩:∃ r,l[k]?=some r:=⟨_,List.getElem?_eq_getElem hlt⟩
    obtain ⟨q,hq⟩:∃ q,m[k]?=some q:=⟨_,List.getElem?_eq_getElem (by have:=HLL.1;omega)⟩
    obtain ⟨ba,oa,rfl,hca⟩:=HA.1 (by omega)
    obtain ⟨bb,ob,rfl,hcb⟩:=HM.1 (by have:=HLL.1;omega)
    have r0:=hca k r hr
    have q0:=hcb k q hq
    have HRQ:=hide (And.intro hr hq)
    clear hca hcb hr hq
    by_cases h1:r=q
    ·have HRE:=hide h1
     have e1:(r != q)=false:=by simp [h1]
     clear h1
     go_wp2_with fail
     go_quiet (fail)
     go_wp2_with fail
     have hR:QRel l m w w (.int .i64 ((k:Int)+1)) (w.drewN (n+nq)):=⟨k+1,n+nq,by go_num,by omega,fun j hj=>step_eq HEQ.1 HRQ.1.1 HRQ.1.2 HRE.1 j hj,rfl⟩
     first|exact ⟨hR,by simp [intOf];omega⟩|(go_roundw;case rel=>exact hR;case measure=>simp [intOf];omega)
    ·have HNE:=hide (show ¬ l=m from fun e=>h1 (by
      have h:=HRQ.1
      rw [e] at h
      exact Option.some.inj (h.1.symm.trans h.2)))
     have HR:=hide (HBB.1.symm.trans (decide_eq_false HNE.1))
     have e1:(r != q)=true:=by simp [h1]
     clear h1
     go_wp2_with fail
     go_quiet (fail)
     go_wp2_with fail
     go_ret
     exact ⟨by rw [HR.1];rfl,n+nq,by simp⟩
   ·have hka:(l.length:Int)≤(k:Int):=by omega
    have HR:=hide (HBB.1.symm.trans (decide_eq_true (show l=m from all_eq HEQ.1 (by omega) HLL.1)))
    clear hlt
    go_wp2_with fail
    go_ret
    exact ⟨by rw [HR.1];rfl,n,rfl⟩
 ·have d0:((l.length:Int) != (m.length:Int))=true:=by simp;omega
  have HR:=hide (HBB.1.symm.trans (decide_eq_false (show ¬ l=m from fun e=>hll (by rw [e]))))
  clear hll
  go_enter Tryz.func41,Tryz.ntmps41
  go_wp2_with fail
  go_ret
  exact ⟨by rw [HR.1];rfl,0,rfl⟩
theorem eqS_any (l m:List (List UInt8)) (A M:Option Addr) (ca cm:Nat) (w:World) (hl1:l.length≤ca) (hl2:ca≤9223372036854775807) (hm1:m.length≤cm) (hm2:cm≤9223372036854775807) (hA:NmsAt w A l) (hM:NmsAt w M m) (b:Bool) (hb:decide (l=m)=b) :
  Calls Tryz.prog 23 #[.slice A l.length ca,.slice M m.length cm] w (Same1 b w):=by
 have HA:=hide hA
 have HM:=hide hM
 have HBB:=hide hb
 clear hA hM hb
 by_cases hll:l.length=m.length
 ·have d0:((l.length:Int) != (m.length:Int))=false:=by simp [hll]
  have HLL:=hide hll
  clear hll
  go_enter Tryz.func23,Tryz.ntmps23
  go_wp2_with fail
  go_loopw [13] (fun i wr=>QRel l m w w i wr) (fun i _=>l.length-(intOf i).toNat)
  case atStart=>exact ⟨0,0,rfl,by omega,fun j hj=>absurd hj (by omega),rfl⟩
  case round=>
   obtain ⟨k,n,rfl,hk,heq,rfl⟩:=hrel
   go_hideQ
   have HEQ:=hide heq
   clear heq
   by_cases hlt:k<l.length
   ·have hka:(k:Int)<(l.length:Int):=by omega
    have hkb:(k:Int)<(m.length:Int):=by have:=HLL.1;omega
    obtain ⟨r,hr⟩:∃ r,l[k]?=some r:=⟨_,List.getElem?_eq_getElem hlt⟩
    obtain ⟨q,hq⟩:∃ q,m[k]?=some q:=⟨_,List.getElem?_eq_getElem (by have:=HLL.1;omega)⟩
    obtain ⟨ba,oa,rfl,hca⟩:=HA.1 (by omega)
    obtain ⟨bb,ob,rfl,hcb⟩:=HM.1 (by have:=HLL.1;omega)
    have r0:=hca k r hr
    have q0:=hcb k q hq
    have HRQ:=hide (And.intro hr hq)
    clear hca hcb hr hq
    by_cases h1:r=q
    ·have HRE:=hide h1
     have e1:(r==q)=true:=by simp [h1]
     clear h1
     go_wp2_with fail
     go_quiet (fail)
     go_wp2_with fail
     have hR:QRel l m w w (.int .i64 ((k:Int)+1)) (w.drewN (n+nq)):=⟨k+1,n+nq,by go_num,by omega,fun j hj=>step_eq HEQ.1 HRQ.1.1 HRQ.1.2 HRE.1 j hj,rfl⟩
     first|exact ⟨hR,by simp [intOf];omega⟩|(go_roundw;case rel=>exact hR;case measure=>simp [intOf];omega)
    ·have HNE:=hide (show ¬ l=m from fun e=>h1 (by
      have h:=HRQ.1
      rw [e] at h
      exact Option.some.inj (h.1.symm.trans h.2)))
     have HR:=hide (HBB.1.symm.trans (decide_eq_false HNE.1))
     have e1:(r==q)=false:=by simp [h1]
     clear h1
     go_wp2_with fail
     go_quiet (fail)
     go_wp2_with fail
     go_ret
     exact ⟨by rw [HR.1];rfl,n+nq,by simp⟩
   ·have hka:(l.length:Int)≤(k:Int):=by omega
    have HR:=hide (HBB.1.symm.trans (decide_eq_true (show l=m from all_eq HEQ.1 (by omega) HLL.1)))
    clear hlt
    go_wp2_with fail
    go_ret
    exact ⟨by rw [HR.1];rfl,n,rfl⟩
 ·have d0:((l.length:Int) != (m.length:Int))=true:=by simp;omega
  have HR:=hide (HBB.1.symm.trans (decide_eq_false (show ¬ l=m from fun e=>hll (by rw [e]))))
  clear hll
  go_enter Tryz.func23,Tryz.ntmps23
  go_wp2_with fail
  go_ret
  exact ⟨by rw [HR.1];rfl,0,rfl⟩
theorem eqR_any (l m:List (R)) (A M:Option Addr) (ca cm:Nat) (w:World) (hl1:l.length≤ca) (hl2:ca≤9223372036854775807) (hm1:m.length≤cm) (hm2:cm≤9223372036854775807) (hA:RgsAt w A l) (hM:RgsAt w M m) (b:Bool) (hb:decide (l=m)=b) :
  Calls Tryz.prog 40 #[.slice A l.length ca,.slice M m.length cm] w (Same1 b w):=by
 have HA:=hide hA
 have HM:=hide hM
 have HBB:=hide hb
 clear hA hM hb
 by_cases hll:l.length=m.length
 ·have d0:((l.length:Int) != (m.length:Int))=false:=by simp [hll]
  have HLL:=hide hll
  clear hll
  go_enter Tryz.func40,Tryz.ntmps40
  go_wp2_with fail
  go_loopw [13] (fun i wr=>QRel l m w w i wr) (fun i _=>l.length-(intOf i).toNat)
  case atStart=>exact ⟨0,0,rfl,by omega,fun j hj=>absurd hj (by omega),rfl⟩
  case round=>
   obtain ⟨k,n,rfl,hk,heq,rfl⟩:=hrel
   go_hideQ
   have HEQ:=hide heq
   clear heq
   by_cases hlt:k<l.length
   ·have hka:(k:Int)<(l.length:Int):=by omega
    have hkb:(k:Int)<(m.length:Int):=by have:=HLL.1;omega
    obtain ⟨r,hr⟩:∃ r,l[k]?=some r:=⟨_,List.getElem?_eq_getElem hlt⟩
    obtain ⟨q,hq⟩:∃ q,m[k]?=some q:=⟨_,List.getElem?_eq_getElem (by have:=HLL.1;omega)⟩
    obtain ⟨ba,oa,rfl,hca⟩:=HA.1 (by omega)
    obtain ⟨bb,ob,rfl,hcb⟩:=HM.1 (by have:=HLL.1;omega)
    have r0:=(hca k r hr).1
    have r1:=(hca k r hr).2
    have q0:=(hcb k q hq).1
    have q1:=(hcb k q hq).2
    have HRQ:=hide (And.intro hr hq)
    clear hca hcb hr hq
    by_cases h1:r=q
    ·have HRE:=hide h1
     have e1:(r.1==q.1)=true:=by simp [h1]
     have e2:(r.2==q.2)=true:=by simp [h1]
     clear h1
     go_wp2_with fail
     go_quiet (fail)
     go_wp2_with fail
     have hR:QRel l m w w (.int .i64 ((k:Int)+1)) (w.drewN (n+nq)):=⟨k+1,n+nq,by go_num,by omega,fun j hj=>step_eq HEQ.1 HRQ.1.1 HRQ.1.2 HRE.1 j hj,rfl⟩
     first|exact ⟨hR,by simp [intOf];omega⟩|(go_roundw;case rel=>exact hR;case measure=>simp [intOf];omega)
    ·have HNE:=hide (show ¬ l=m from fun e=>h1 (by
      have h:=HRQ.1
      rw [e] at h
      exact Option.some.inj (h.1.symm.trans h.2)))
     have HR:=hide (HBB.1.symm.trans (decide_eq_false HNE.1))
     by_cases h0:r.1=q.1
     ·have e1:(r.1==q.1)=true:=by simp [h0]
      have e2:(r.2==q.2)=false:=by simp;exact fun h=>h1 (Prod.ext h0 h)
      clear h0 h1
      go_wp2_with fail
      go_quiet (fail)
      go_wp2_with fail
      go_ret
      exact ⟨by rw [HR.1];rfl,n+nq,by simp⟩
     ·have e1:(r.1==q.1)=false:=by simp [h0]
      clear h0 h1
      go_wp2_with fail
      go_quiet (fail)
      go_wp2_with fail
      go_ret
      exact ⟨by rw [HR.1];rfl,n+nq,by simp⟩
   ·have hka:(l.length:Int)≤(k:Int):=by omega
    have HR:=hide (HBB.1.symm.trans (decide_eq_true (show l=m from all_eq HEQ.1 (by omega) HLL.1)))
    clear hlt
    go_wp2_with fail
    go_ret
    exact ⟨by rw [HR.1];rfl,n,rfl⟩
 ·have d0:((l.length:Int) != (m.length:Int))=true:=by simp;omega
  have HR:=hide (HBB.1.symm.trans (decide_eq_false (show ¬ l=m from fun e=>hll (by rw [e]))))
  clear hll
  go_enter Tryz.func40,Tryz.ntmps40
  go_wp2_with fail
  go_ret
  exact ⟨by rw [HR.1];rfl,0,rfl⟩
end
section
open Go.Shelf Go.RowKit Mem Rs
abbrev five (a b c d e:Int):Array Value:=#[.int .i64 a,.int .i64 b,.int .i64 c,.int .i64 d,.int .i64 e]
theorem zero_numbers:(∀ w,(zeroValue 76).run Tryz.prog w=.ok (.agg (five 0 0 0 0 0)) w)∧(Tryz.prog.info? 76).map (·.size)=some 5:=zero_of_info (by kernel_rfl)
theorem nums_any (nd:Nd) (s:Value) (K:Option Addr) (m ck:Nat) (w:World):Calls Tryz.prog 39 #[.agg #[.int .i64 nd.kind,.int .i64 nd.from_,.int .i64 nd.to_,.int .i64 nd.num,.int .i64 nd.mn,.int .i64 nd.mx,.int .i64 nd.mode,str nd.name,s,.slice K m ck]] w fun e w'=>e=.returned (.agg (five nd.num nd.mn nd.mx nd.mode m))∧Below w.heap.size w w':=by
 have h2:=zero_numbers.1
 go_enter Tryz.func39,Tryz.ntmps39
 go_wp2
 refine bodyPost_ret (results_cell_row rfl _ _ (w.heap.size+1) 76 (five nd.num nd.mn nd.mx nd.mode m) (0,0) _ rfl (by simpa using heap_alloc_new (w.alloc _) _) Tryz.underlying76 rfl (by kernel_rfl)) rfl ⟨rfl,((Below.refl _ _).alloc (Nat.le_refl _) _).alloc (by simp) _⟩
theorem eqIn_five (a b c d e a' b' c' d' e':Int) (w:World):Sem.run Tryz.prog (Op.equalIn 10000 76 (.agg (five a b c d e)) (.agg (five a' b' c' d' e'))) w=.ok (decide (a=a'∧b=b'∧c=c'∧d=d'∧e=e')) w:=by
 have u3:=Tryz.underlying3
 have a3:=Tryz.isAgg3
 have z3:=Tryz.sizeOf3
 obtain ⟨i0,hi0⟩:=Option.isSome_iff_exists.1 (show (Tryz.prog.info? 3).isSome=true by kernel_rfl)
 rw [show (10000:Nat)=9999+1 from rfl,run_equalIn_array w 9999 _ _ Tryz.underlying76 hi0]
 rw [show Tryz.prog.cellsOf 3=1 by kernel_rfl,show List.range 5=[0,1,2,3,4] from rfl]
 simp only [Op.eqItems]
 go_simp
 by_cases h1:a=a' <;> by_cases h2:b=b' <;> by_cases h3:c=c' <;> by_cases h4:d=d' <;> by_cases h5:e=e' <;> simp [h1,h2,h3,h4,h5]
theorem guard_five (op:BinOp) (x y:Operand) (a b c d e a' b' c' d' e':Int) (w:World):Sem.run Tryz.prog (eqGuard op 76 x y (.agg (five a b c d e)) (.agg (five a' b' c' d' e'))) w=.ok () w:=run_eqGuard_agg w op 76 x y _ _ (by kernel_rfl)
end
end Go.Proofs.YtmphmddmfcaldaaGreatDoor.As
