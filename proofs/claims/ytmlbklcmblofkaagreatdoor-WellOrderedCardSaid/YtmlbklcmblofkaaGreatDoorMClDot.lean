/-
  The program's class, walked: a dot's set.
-/
import Derived.Test.YtmlbklcmblofkaaGreatDoorMClC
set_option linter.unusedSimpArgs false
set_option linter.unusedVariables false
set_option maxHeartbeats 1000000
namespace Go.Proofs.YtmlbklcmblofkaaGreatDoor.Cl
open Go.RowKit Go.Shelf Mem Rs
attribute [local go_sem] Oper.semAt_some
theorem dot_any (b:Bool) (w:World) (hT:Tb w):Calls Tryz.prog 57 #[.bool b] w (Gives1 (anyL b) w):=by
 clear hT
 have C:=hide (fun W=>not_any [] none 0 W (by simp) (by simp) Lst.nil)
 cases b with
 | true=>
  have e:notL []=anyL true:=least_unique (p:=-2) (by omega) (notL_least _) (anyL_least _) fun x=>by rw [notL_has,anyL_has];rw [Bool.eq_iff_iff];simp
  rw [e] at C
  clear e
  go_enter Tryz.func57,Tryz.ntmps57
  go_wp2_with fail
  refine (C.1 w).mono ?_
  rintro e w1 ⟨v,rfl,hcut⟩
  have HC:=hide hcut
  clear hcut
  go_wp2_with fail
  go_ret
  exact ⟨_,rfl,cut_gives' HC.1⟩
 | false=>
  have e:notL [(10,10)]=anyL false:=least_unique (p:=-2) (by omega) (notL_least _) (anyL_least _) fun x=>by rw [notL_has,anyL_has];rw [Bool.eq_iff_iff];simp [inR];omega
  have e2:ofL 10=[(10,10)]:=by rw [ofL_eq];simp
  have D:=hide (Rs.of_any 10 w)
  rw [e2] at D
  have HE:=hide e
  clear e e2 C
  go_enter Tryz.func57,Tryz.ntmps57
  go_wp2_with fail
  refine D.1.mono ?_
  rintro e w1 ⟨v,rfl,hcut⟩
  obtain ⟨A,cap,rfl,hls,hc,hm⟩:=own_lst hcut.1
  have HL:=hide hls
  have HB:=hide hcut.2
  clear hls hcut D
  go_wp2_with fail
  refine (not_any [(10,10)] A cap w1 (by simp) hc HL.1).mono ?_
  rintro e w2 ⟨v,rfl,hcut⟩
  rw [HE.1] at hcut
  have HC:=hide hcut
  clear hcut
  go_wp2_with fail
  go_ret
  exact ⟨_,rfl,(cut_gives' HC.1).from HB.1⟩
end Go.Proofs.YtmlbklcmblofkaaGreatDoor.Cl
