/-
  The reference's within and Alone (clewref06), walked: what a node that may be has.
-/
import Derived.Test.YtmlbklcmblofkaaGreatDoorMAsP
import Derived.Test.YtmlbklcmblofkaaGreatDoorMRsA
import Derived.WalkHide
set_option linter.unusedSimpArgs false
set_option linter.unusedVariables false
set_option maxHeartbeats 8000000
set_option maxRecDepth 100000
namespace Go.Proofs.YtmlbklcmblofkaaGreatDoor.Rt
open Go.RowKit Mem Rs As
attribute [local go_sem] run_not_true run_not_false
def withB (x a b:Int):Bool:=decide (a≤x)&&decide (x≤b)
theorem within_any (x a b:Int) (w:World):Calls Tryz.prog 24 #[.int .i64 x,.int .i64 a,.int .i64 b] w fun e w'=>e=.returned (.bool (withB x a b))∧w'=w:=by
 unfold withB
 by_cases h1:a≤x
 ·have d1:decide (a≤x)=true:=decide_eq_true h1
  rw [d1]
  go_enter Tryz.func24,Tryz.ntmps24
  go_wp2_with fail
  go_ret
  exact ⟨by simp,rfl⟩
 ·have d1:decide (a≤x)=false:=decide_eq_false h1
  rw [d1]
  go_enter Tryz.func24,Tryz.ntmps24
  go_wp2_with fail
  go_ret
  exact ⟨by simp,rfl⟩
abbrev ndq (nd:Nd) (vs vk:Value):Array Value:=#[.int .i64 nd.kind,.int .i64 nd.from_,.int .i64 nd.to_,.int .i64 nd.num,.int .i64 nd.mn,.int .i64 nd.mx,.int .i64 nd.mode,str nd.name,vs,vk]
structure AloneOk (nd:Nd):Prop where
 kind:1≤nd.kind∧nd.kind≤10
 from_:0≤nd.from_
 to_:nd.from_≤nd.to_∧nd.to_≤4096
 leaf:nd.kind≤4→nd.kids.length=0
 cat:nd.kind=5→2≤nd.kids.length∧nd.kids.length≤4096
 alt:nd.kind=6→2≤nd.kids.length∧nd.kids.length≤4097
 one:7≤nd.kind→nd.kids.length=1
 rep:nd.kind=8→(nd.mode=0∨nd.mode=1)∧0≤nd.mn∧nd.mn≤1000∧(nd.mx=-1∨(nd.mn≤nd.mx∧1≤nd.mx∧nd.mx≤1000))
 hold:nd.kind=3→1≤nd.num∧nd.num≤7
 back:nd.kind=4→(1≤nd.num∧nd.num≤99)∨nd.num=0
 grp:nd.kind=7→1≤nd.num∧nd.num≤99
 look:nd.kind=10→1≤nd.num∧nd.num≤4
 set:Least nd.set
def AlP (nd:Nd) (w:World) (e:Ending) (w':World):Prop:=(∃ b,e=.returned (.bool b)∧(b=true→AloneOk nd))∧Below w.heap.size w w'
theorem alp_no {nd:Nd} {w w':World} (h:Below w.heap.size w w'):AlP nd w (.returned (.bool false)) w':=⟨⟨false,rfl,fun h=>by cases h⟩,h⟩
theorem ret_al {nd:Nd} {w w':World} {v:Value} {b:Bool} (hv:v=.bool b) (hb:b=true→AloneOk nd) (h:Below w.heap.size w w'):AlP nd w (.returned v) w':=by subst hv;exact ⟨⟨b,rfl,hb⟩,h⟩
theorem alone_kindA (kd:Int) (hkd:kd=1∨kd=2∨kd=3) (nd:Nd) (S:Option Addr) (cs:Nat) (K:Option Addr) (ck:Nat) (w:World) (hset:Lst w w.heap.size S nd.set) (hsl:nd.set.length≤8796093021952) (hin:∀ r∈nd.set,-9223372036854775808≤r.1∧r.1≤9223372036854775807) (hk:nd.kind=kd) :
  Calls Tryz.prog 15 #[.agg (ndq nd (.slice S nd.set.length cs) (.slice K nd.kids.length ck))] w (AlP nd w):=by
 have bn:=Blk.new w 54 (ndq nd (.slice S nd.set.length cs) (.slice K nd.kids.length ck))
 have HN:=hide bn
 have hbw:Below w.heap.size w (w.alloc (.cells (ndq nd (.slice S nd.set.length cs) (.slice K nd.kids.length ck)) 54)):=(Below.refl _ w).alloc (Nat.le_refl _) _
 have HB:=hide hbw
 have CL:=hide (refLeast_any nd.set S cs (w.alloc (.cells (ndq nd (.slice S nd.set.length cs) (.slice K nd.kids.length ck)) 54)) hsl hin ((hset.below hbw).more hbw.size))
 clear hbw hset hin hsl
 have c0:=bn.cell 0
 have c1:=bn.cell 1
 have c2:=bn.cell 2
 have c3:=bn.cell 3
 have c4:=bn.cell 4
 have c5:=bn.cell 5
 have c6:=bn.cell 6
 have c7:=bn.cell 7
 have c8:=bn.cell 8
 have c9:=bn.cell 9
 clear bn
 rcases hkd with rfl|rfl|rfl
 all_goals
  have HK:=hide hk
  go_enter Tryz.func15,Tryz.ntmps15
  go_wp2_with (first|(go_at_call 24;refine (within_any _ _ _ _).mono ?_;rintro e wx ⟨rfl,rfl⟩)|(go_at_call 25;refine CL.1.mono ?_;rintro e wy ⟨rfl,hby⟩;have hnb:=HN.1.below hby HN.1.lt;have HBY:=hide (HB.1.trans (hby.mono HB.1.size));clear hby c0 c1 c2 c3 c4 c5 c6 c7 c8 c9;have c0:=hnb.cell 0;have c1:=hnb.cell 1;have c2:=hnb.cell 2;have c3:=hnb.cell 3;have c4:=hnb.cell 4;have c5:=hnb.cell 5;have c6:=hnb.cell 6;have c7:=hnb.cell 7;have c8:=hnb.cell 8;have c9:=hnb.cell 9;clear hnb;cases hle:decide (Least nd.set)))
  all_goals
   go_ret
   (first|exact alp_no HB.1|exact alp_no HBY.1|skip)
  all_goals
   refine ret_al rfl (fun hb=>?_) HBY.1
   have hk:=HK.1
   have hL:=of_decide_eq_true hle
   clear HN HB CL HK HBY hle c0 c1 c2 c3 c4 c5 c6 c7 c8 c9
   simp only [withB,Bool.and_eq_true,decide_eq_true_eq,beq_iff_eq,Bool.or_eq_true,Bool.false_eq_true,bne_iff_ne,ne_eq,Bool.not_eq_true',decide_eq_false_iff_not,Bool.and_eq_false_iff,bne_eq_false_iff_eq] at *
   exact ⟨by omega,by omega,⟨by omega,by omega⟩,fun _=>(by first|omega|simp_all),fun _=>by omega,fun _=>by omega,fun _=>by omega,fun _=>by omega,fun _=>by omega,fun _=>by omega,fun _=>by omega,fun _=>by omega,hL⟩
end Go.Proofs.YtmlbklcmblofkaaGreatDoor.Rt
