/-
  rset.Right, walked; the library's Equal by its contract.
-/
import Derived.Laws.StructEq
import Derived.Shelf.SlicesQ.Equal
import Derived.Ground.SlgqProg
import Derived.Test.YtmphmddmfcaldaaGreatDoorMRsF
set_option linter.unusedSimpArgs false
set_option linter.unusedVariables false
set_option maxHeartbeats 1000000
namespace Go.Proofs.YtmphmddmfcaldaaGreatDoor.Rs
open Go.Shelf Go.RowKit Mem
theorem neq_at:NeqAt Tryz.prog 65 (fun x:R=>.agg (enc x).toArray) (fun x y=>x.1==y.1&&x.2==y.2):=by
 refine ⟨fun x y w=>?_,GuardAt.agg _ (by kernel_rfl)⟩
 have u3:=Tryz.underlying3
 have a3:=Tryz.isAgg3
 have z3:=Tryz.sizeOf3
 have hS:Tryz.prog.underlying 65=some (.struct (Tryz.prog.fieldsOf 65)):=by kernel_rfl
 have hp:Tryz.prog.stoodInHeld 65=false:=by kernel_rfl
 simp only [enc]
 rw [run_neq_struct,show (10000:Nat)=9999+1 from rfl,run_equalIn_agg w 9999 65 _ _ hS hp]
 simp only [Program.fieldsOf,Tryz.underlying65]
 go_simp
 by_cases h1:x.fst=y.fst<;>by_cases h2:x.snd=y.snd<;>simp [h1,h2]
theorem neq_range (a b c d:Int) (w:World):Sem.run Tryz.prog (binOp .neq 65 (.agg #[.int .i64 a,.int .i64 b]) (.agg #[.int .i64 c,.int .i64 d])) w=.ok (.bool (!(a==c&&b==d))) w:=Rs.neq_at.1 (a,b) (c,d) w
theorem neq_guard (op:BinOp) (x y:Operand) (a b c d:Int) (w:World):Sem.run Tryz.prog (eqGuard op 65 x y (.agg #[.int .i64 a,.int .i64 b]) (.agg #[.int .i64 c,.int .i64 d])) w=.ok () w:=Rs.neq_at.2 op x y (a,b) (c,d) w
end Go.Proofs.YtmphmddmfcaldaaGreatDoor.Rs
namespace Go.Proofs
shelf_lay_g SlLaysQ.n8 Slgq 8 at Tryz 40 as Tryz.eqRg
end Go.Proofs
namespace Go.Proofs.YtmphmddmfcaldaaGreatDoor.Rs
open Go.Shelf Go.RowKit Mem
theorem allEq_dec:∀ (l m:List R),Lib.allEq (fun x y:R=>x.1==y.1&&x.2==y.2) l m=decide (l=m)
 | [],[]=>by simp [Lib.allEq]
 | [],_ :: _=>by simp [Lib.allEq]
 | _ :: _,[]=>by simp [Lib.allEq]
 | a :: l,b :: m=>by
  rw [Lib.allEq,allEq_dec l m,Bool.eq_iff_iff]
  simp [Prod.ext_iff]
theorem equal_lens (A B:Option Addr) (n m c d:Nat) (w:World) (h:(n:Int)≠(m:Int)):Calls Tryz.prog 40 #[.slice A n c,.slice B m d] w fun e w'=>e=.returned (.bool false)∧Below w.heap.size w w':=by
 go_enter Tryz.func40,Tryz.ntmps40
 go_wp2
 go_ret
 exact ⟨rfl,Below.refl _ _⟩
theorem equal_none (A B:Option Addr) (c d:Nat) (w:World):Calls Tryz.prog 40 #[.slice A 0 c,.slice B 0 d] w fun e w'=>e=.returned (.bool true)∧Below w.heap.size w w':=by
 go_enter Tryz.func40,Tryz.ntmps40
 go_wp2
 go_loop [13] (fun i=>i=.int .i64 0) (fun _=>0)
 case atStart=>exact rfl
 case round=>
  obtain rfl:=hrel
  go_wp2
  go_ret
  exact ⟨rfl,Below.refl _ _⟩
theorem equal_any (l m:List R) (A B:Option Addr) (c d:Nat) (w:World) (hl:l.length≤8796093021952) (hm:m.length≤8796093021952) (h1:Lst w w.heap.size A l) (h2:Lst w w.heap.size B m) :
  Calls Tryz.prog 40 #[.slice A l.length c,.slice B m.length d] w fun e w'=>e=.returned (.bool (decide (l=m)))∧Below w.heap.size w w':=by
 by_cases hn:l.length=m.length
 ·by_cases h0:l.length=0
  ·have e1:=List.eq_nil_of_length_eq_zero h0
   have e2:=List.eq_nil_of_length_eq_zero (hn ▸ h0)
   subst e1 e2
   exact equal_none A B c d w
  ·obtain ⟨b,off,rfl,hb,hc⟩:=h1 (by omega)
   obtain ⟨b2,off2,rfl,hb2,hc2⟩:=h2 (by omega)
   have hcon:=AnyQ.slices_Equal Tryz.eqRg 2 Tryz.isAgg65 Tryz.sizeOf65 enc (fun _=>rfl) (fun x y:R=>x.1==y.1&&x.2==y.2) neq_at b off l.length c b2 off2 m.length d l m w (Nat.le_refl _) (Nat.le_refl _) (by omega) (by omega) (cells_get hc) (cells_get hc2)
   change Calls Tryz.prog 40 _ _ _ at hcon
   rw [List.take_length,List.take_length,allEq_dec] at hcon
   refine hcon.mono ?_
   rintro e w' ⟨rfl,q,rfl⟩
   exact ⟨rfl,below_drewN (Below.refl _ _) q⟩
 ·have e:decide (l=m)=false:=by
   simp only [decide_eq_false_iff_not]
   rintro rfl
   exact hn rfl
  rw [e]
  exact equal_lens A B l.length m.length c d w (by omega)
theorem right_any (l:List R) (A:Option Addr) (cap:Nat) (w:World) (hlen:l.length≤8796093021952) (hcap:l.length≤cap) (h:Lst w w.heap.size A l) :
  Calls Tryz.prog 53 #[.slice A l.length cap] w fun e w'=>e=.returned (.bool (decide (Least l)))∧Below w.heap.size w w':=by
 have H:=hide h
 clear h
 have hml:=mk_len l
 go_enter Tryz.func53,Tryz.ntmps53
 go_wp2_with fail
 refine (make_any l A cap w hlen hcap H.1).mono ?_
 rintro e w1 ⟨v1,rfl,hcut⟩
 obtain ⟨A1,cap1,rfl,hlst,hc1,hcm⟩:=own_lst hcut.1
 have HL:=hide hlst
 have HB:=hide hcut.2
 clear hlst hcut
 go_wp2_with fail
 refine (equal_any l (mk l) A A1 cap cap1 w1 (by omega) (by omega) ((H.1.below HB.1).more HB.1.size) HL.1).mono ?_
 rintro e w2 ⟨rfl,hb2⟩
 have e:decide (l=mk l)=decide (Least l):=by rw [decide_eq_decide];exact (least_iff_mk l).symm
 rw [e]
 go_wp2
 go_ret
 exact ⟨rfl,HB.1.trans (hb2.mono HB.1.size)⟩
end Go.Proofs.YtmphmddmfcaldaaGreatDoor.Rs
