/-
  The reference's Alone (clewref06), walked at kinds 9 and 10.
-/
import Derived.Test.YtmlbklcmblofkaaGreatDoorMRtAlone
set_option linter.unusedSimpArgs false
set_option linter.unusedVariables false
set_option maxHeartbeats 8000000
set_option maxRecDepth 100000
namespace Go.Proofs.YtmlbklcmblofkaaGreatDoor.Rt
section
open Go.RowKit Mem Rs As
attribute [local go_sem] run_not_true run_not_false
theorem alone_kindC (kd:Int) (hkd:kd=7∨kd=8) (nd:Nd) (S:Option Addr) (cs:Nat) (K:Option Addr) (ck:Nat) (w:World) (hset:Lst w w.heap.size S nd.set) (hsl:nd.set.length≤8796093021952) (hin:∀ r∈nd.set,-9223372036854775808≤r.1∧r.1≤9223372036854775807) (hk:nd.kind=kd) :
  Calls Tryz.prog 15 #[.agg (ndq nd (.slice S nd.set.length cs) (.slice K nd.kids.length ck))] w (AlP nd w):=by
 have bn:=Blk.new w 54 (ndq nd (.slice S nd.set.length cs) (.slice K nd.kids.length ck))
 have HN:=hide bn
 have hbw:Below w.heap.size w (w.alloc (.cells (ndq nd (.slice S nd.set.length cs) (.slice K nd.kids.length ck)) 54)):=(Below.refl _ w).alloc (Nat.le_refl _) _
 have HB:=hide hbw
 have CL:=hide (refLeast_any nd.set S cs (w.alloc (.cells (ndq nd (.slice S nd.set.length cs) (.slice K nd.kids.length ck)) 54)) hsl hin ((hset.below hbw).more hbw.size))
 clear hbw hset hin hsl
 have c0:=bn.cell 0
 have c1:=bn.cell 1
 have c2:=bn.cell 2
 have c3:=bn.cell 3
 have c4:=bn.cell 4
 have c5:=bn.cell 5
 have c6:=bn.cell 6
 have c7:=bn.cell 7
 have c8:=bn.cell 8
 have c9:=bn.cell 9
 clear bn
 rcases hkd with rfl|rfl
 all_goals
  have HK:=hide hk
  go_enter Tryz.func15,Tryz.ntmps15
  go_wp2_with (first|(go_at_call 24;refine (within_any _ _ _ _).mono ?_;rintro e wx ⟨rfl,rfl⟩)|(go_at_call 25;refine CL.1.mono ?_;rintro e wy ⟨rfl,hby⟩;have hnb:=HN.1.below hby HN.1.lt;have HBY:=hide (HB.1.trans (hby.mono HB.1.size));clear hby c0 c1 c2 c3 c4 c5 c6 c7 c8 c9;have c0:=hnb.cell 0;have c1:=hnb.cell 1;have c2:=hnb.cell 2;have c3:=hnb.cell 3;have c4:=hnb.cell 4;have c5:=hnb.cell 5;have c6:=hnb.cell 6;have c7:=hnb.cell 7;have c8:=hnb.cell 8;have c9:=hnb.cell 9;clear hnb;cases hle:decide (Least nd.set)))
  all_goals
   go_ret
   (first|exact alp_no HB.1|exact alp_no HBY.1|skip)
  all_goals
   refine ret_al rfl (fun hb=>?_) HBY.1
   have hk:=HK.1
   have hL:=of_decide_eq_true hle
   clear HN HB CL HK HBY hle c0 c1 c2 c3 c4 c5 c6 c7 c8 c9
   simp only [withB,Bool.and_eq_true,decide_eq_true_eq,beq_iff_eq,Bool.or_eq_true,Bool.false_eq_true,bne_iff_ne,ne_eq,Bool.not_eq_true',decide_eq_false_iff_not,Bool.and_eq_false_iff,bne_eq_false_iff_eq] at *
   exact ⟨by omega,by omega,⟨by omega,by omega⟩,fun _=>(by first|omega|simp_all),fun _=>by omega,fun _=>by omega,fun _=>by omega,fun _=>by omega,fun _=>by omega,fun _=>by omega,fun _=>by omega,fun _=>by omega,hL⟩
end
section
open Go.RowKit Mem Rs As
attribute [local go_sem] run_not_true run_not_false
theorem alone_kindD (kd:Int) (hkd:kd=9∨kd=10) (nd:Nd) (S:Option Addr) (cs:Nat) (K:Option Addr) (ck:Nat) (w:World) (hset:Lst w w.heap.size S nd.set) (hsl:nd.set.length≤8796093021952) (hin:∀ r∈nd.set,-9223372036854775808≤r.1∧r.1≤9223372036854775807) (hk:nd.kind=kd) :
  Calls Tryz.prog 15 #[.agg (ndq nd (.slice S nd.set.length cs) (.slice K nd.kids.length ck))] w (AlP nd w):=by
 have bn:=Blk.new w 54 (ndq nd (.slice S nd.set.length cs) (.slice K nd.kids.length ck))
 have HN:=hide bn
 have hbw:Below w.heap.size w (w.alloc (.cells (ndq nd (.slice S nd.set.length cs) (.slice K nd.kids.length ck)) 54)):=(Below.refl _ w).alloc (Nat.le_refl _) _
 have HB:=hide hbw
 have CL:=hide (refLeast_any nd.set S cs (w.alloc (.cells (ndq nd (.slice S nd.set.length cs) (.slice K nd.kids.length ck)) 54)) hsl hin ((hset.below hbw).more hbw.size))
 clear hbw hset hin hsl
 have c0:=bn.cell 0
 have c1:=bn.cell 1
 have c2:=bn.cell 2
 have c3:=bn.cell 3
 have c4:=bn.cell 4
 have c5:=bn.cell 5
 have c6:=bn.cell 6
 have c7:=bn.cell 7
 have c8:=bn.cell 8
 have c9:=bn.cell 9
 clear bn
 rcases hkd with rfl|rfl
 all_goals
  have HK:=hide hk
  go_enter Tryz.func15,Tryz.ntmps15
  go_wp2_with (first|(go_at_call 24;refine (within_any _ _ _ _).mono ?_;rintro e wx ⟨rfl,rfl⟩)|(go_at_call 25;refine CL.1.mono ?_;rintro e wy ⟨rfl,hby⟩;have hnb:=HN.1.below hby HN.1.lt;have HBY:=hide (HB.1.trans (hby.mono HB.1.size));clear hby c0 c1 c2 c3 c4 c5 c6 c7 c8 c9;have c0:=hnb.cell 0;have c1:=hnb.cell 1;have c2:=hnb.cell 2;have c3:=hnb.cell 3;have c4:=hnb.cell 4;have c5:=hnb.cell 5;have c6:=hnb.cell 6;have c7:=hnb.cell 7;have c8:=hnb.cell 8;have c9:=hnb.cell 9;clear hnb;cases hle:decide (Least nd.set)))
  all_goals
   go_ret
   (first|exact alp_no HB.1|exact alp_no HBY.1|skip)
  all_goals
   refine ret_al rfl (fun hb=>?_) HBY.1
   have hk:=HK.1
   have hL:=of_decide_eq_true hle
   clear HN HB CL HK HBY hle c0 c1 c2 c3 c4 c5 c6 c7 c8 c9
   simp only [withB,Bool.and_eq_true,decide_eq_true_eq,beq_iff_eq,Bool.or_eq_true,Bool.false_eq_true,bne_iff_ne,ne_eq,Bool.not_eq_true',decide_eq_false_iff_not,Bool.and_eq_false_iff,bne_eq_false_iff_eq] at *
   exact ⟨by omega,by omega,⟨by omega,by omega⟩,fun _=>(by first|omega|simp_all),fun _=>by omega,fun _=>by omega,fun _=>by omega,fun _=>by omega,fun _=>by omega,fun _=>by omega,fun _=>by omega,fun _=>by omega,hL⟩
end
end Go.Proofs.YtmlbklcmblofkaaGreatDoor.Rt
