/-
  scan.decimal, walked: the number of the digits from a place on, not above 1001, and the place behind them.
-/
import Derived.Test.YtmlbklcmblofkaaGreatDoorMPuB
import Derived.Test.YtmlbklcmblofkaaGreatDoorMMemA
import Derived.Laws.Tables
import Derived.IntWalk
import Derived.WalkHide
set_option linter.unusedSimpArgs false
set_option linter.unusedVariables false
set_option maxHeartbeats 2000000
set_option maxRecDepth 100000
namespace Go.Proofs.YtmlbklcmblofkaaGreatDoor.Sc
section
open Go.RowKit Mem
open Sy (g g_of)
structure PV (bs:List UInt8) (A:Option Addr) (cap:Nat) (w:World):Prop where
 room:bs.length≤cap
 top:cap≤9223372036854775807
 reads:Reads w w.heap.size 1 A bs.length (bs.map u8)
theorem PV.below {bs:List UInt8} {A:Option Addr} {cap:Nat} {w w':World} (h:PV bs A cap w) (hb:Below w.heap.size w w'):PV bs A cap w':=⟨h.room,h.top,(h.reads.below hb).more hb.size⟩
theorem PV.cell {bs:List UInt8} {A:Option Addr} {cap:Nat} {w:World} (h:PV bs A cap w) {k:Nat} (hk:k<bs.length) :
  ∃ b off,A=some ⟨b,off,none⟩∧b<w.heap.size∧∀ j,j<bs.length→w.cell? ⟨b,off+j,none⟩=some (.int .u8 (g bs j:Int)):=by
 obtain ⟨b,off,rfl,hb,hc⟩:=h.reads.flat (by omega)
 refine ⟨b,off,rfl,hb,fun j hj=>?_⟩
 have hx:=List.getElem?_eq_getElem hj
 rw [hc j (u8 bs[j]) (by simp [hj]),g_of hx]
theorem ret_b {a b:Bool} (h:a=b):Ending.returned (.bool a)=.returned (.bool b):=by rw [h]
theorem stands_any (bs:List UInt8) (A:Option Addr) (cap:Nat) (w:World) (hP:PV bs A cap w) (i:Int) (c:Nat) (h0:0<c) :
  Calls Tryz.prog 64 #[.slice A bs.length cap,.int .i64 i,.int .u8 (c:Int)] w fun e w'=>e=.returned (.bool (decide (gz bs i=c)))∧w'=w:=by
 by_cases h1:i<0
 ·have HE:=hide (show false=decide (gz bs i=c) by rw [gz_out (.inl h1)];simp;omega)
  go_enter Tryz.func64,Tryz.ntmps64
  go_wp2
  go_ret
  exact ⟨ret_b HE.1,rfl⟩
 ·by_cases h2:(bs.length:Int)≤i
  ·have HE:=hide (show false=decide (gz bs i=c) by rw [gz_out (.inr h2)];simp;omega)
   have h3:0≤i:=by omega
   clear h1
   go_enter Tryz.func64,Tryz.ntmps64
   go_wp2
   go_ret
   exact ⟨ret_b HE.1,rfl⟩
  ·obtain ⟨k,rfl⟩:∃ k:Nat,i=(k:Int):=⟨i.toNat,by omega⟩
   have hk:k<bs.length:=by omega
   obtain ⟨b,off,rfl,hb,hc⟩:=hP.cell hk
   have c1:=hc k hk
   have hr:=hP.room
   have ht:=hP.top
   have HE:=hide (show ((g bs k:Int)==(c:Int))=decide (gz bs (k:Int)=c) by rw [gz_nat,Bool.eq_iff_iff];simp;omega)
   generalize bs.length=n at *
   generalize g bs k=x at *
   clear hc hP h1
   go_enter Tryz.func64,Tryz.ntmps64
   go_wp2
   go_ret
   exact ⟨ret_b HE.1,rfl⟩
end
section
open Go.RowKit Mem
theorem isDigit_0 (c:Nat) (w:World) (h2:c≤47):Calls Tryz.prog 87 #[.int .i64 (c:Int)] w fun e w'=>e=.returned (.bool false)∧w'=w:=by
 go_enter Tryz.func87,Tryz.ntmps87
 go_wp2
 go_ret
 exact ⟨by first|rfl|(simp;done)|(simp;omega),by first|rfl|trivial⟩
theorem isDigit_1 (c:Nat) (w:World) (h1:48≤c) (h2:c≤57):Calls Tryz.prog 87 #[.int .i64 (c:Int)] w fun e w'=>e=.returned (.bool true)∧w'=w:=by
 go_enter Tryz.func87,Tryz.ntmps87
 go_wp2
 go_ret
 exact ⟨by first|rfl|(simp;done)|(simp;omega),by first|rfl|trivial⟩
theorem isDigit_2 (c:Nat) (w:World) (h1:58≤c):Calls Tryz.prog 87 #[.int .i64 (c:Int)] w fun e w'=>e=.returned (.bool false)∧w'=w:=by
 go_enter Tryz.func87,Tryz.ntmps87
 go_wp2
 go_ret
 exact ⟨by first|rfl|(simp;done)|(simp;omega),by first|rfl|trivial⟩
theorem isDigit_any (c:Nat) (w:World):Calls Tryz.prog 87 #[.int .i64 (c:Int)] w fun e w'=>e=.returned (.bool (isD c))∧w'=w:=by
 by_cases k0:c≤47
 ·exact ((isDigit_0 c w (by omega)).mono fun e w' ⟨h1,h2⟩=>⟨by rw [h1,show isD c=false by rw [Bool.eq_iff_iff];simp [isD];try omega],h2⟩)
 by_cases k1:c≤57
 ·exact ((isDigit_1 c w (by omega) (by omega)).mono fun e w' ⟨h1,h2⟩=>⟨by rw [h1,show isD c=true by rw [Bool.eq_iff_iff];simp [isD];try omega],h2⟩)
 exact ((isDigit_2 c w (by omega)).mono fun e w' ⟨h1,h2⟩=>⟨by rw [h1,show isD c=false by rw [Bool.eq_iff_iff];simp [isD];try omega],h2⟩)
theorem isLetter_0 (c:Nat) (w:World) (h2:c≤64):Calls Tryz.prog 101 #[.int .i64 (c:Int)] w fun e w'=>e=.returned (.bool false)∧w'=w:=by
 go_enter Tryz.func101,Tryz.ntmps101
 go_wp2
 go_ret
 exact ⟨by first|rfl|(simp;done)|(simp;omega),by first|rfl|trivial⟩
theorem isLetter_1 (c:Nat) (w:World) (h1:65≤c) (h2:c≤90):Calls Tryz.prog 101 #[.int .i64 (c:Int)] w fun e w'=>e=.returned (.bool true)∧w'=w:=by
 go_enter Tryz.func101,Tryz.ntmps101
 go_wp2
 go_ret
 exact ⟨by first|rfl|(simp;done)|(simp;omega),by first|rfl|trivial⟩
theorem isLetter_2 (c:Nat) (w:World) (h1:91≤c) (h2:c≤96):Calls Tryz.prog 101 #[.int .i64 (c:Int)] w fun e w'=>e=.returned (.bool false)∧w'=w:=by
 go_enter Tryz.func101,Tryz.ntmps101
 go_wp2
 go_ret
 exact ⟨by first|rfl|(simp;done)|(simp;omega),by first|rfl|trivial⟩
theorem isLetter_3 (c:Nat) (w:World) (h1:97≤c) (h2:c≤122):Calls Tryz.prog 101 #[.int .i64 (c:Int)] w fun e w'=>e=.returned (.bool true)∧w'=w:=by
 go_enter Tryz.func101,Tryz.ntmps101
 go_wp2
 go_ret
 exact ⟨by first|rfl|(simp;done)|(simp;omega),by first|rfl|trivial⟩
theorem isLetter_4 (c:Nat) (w:World) (h1:123≤c):Calls Tryz.prog 101 #[.int .i64 (c:Int)] w fun e w'=>e=.returned (.bool false)∧w'=w:=by
 go_enter Tryz.func101,Tryz.ntmps101
 go_wp2
 go_ret
 exact ⟨by first|rfl|(simp;done)|(simp;omega),by first|rfl|trivial⟩
theorem isLetter_any (c:Nat) (w:World):Calls Tryz.prog 101 #[.int .i64 (c:Int)] w fun e w'=>e=.returned (.bool (isA c))∧w'=w:=by
 by_cases k0:c≤64
 ·exact ((isLetter_0 c w (by omega)).mono fun e w' ⟨h1,h2⟩=>⟨by rw [h1,show isA c=false by rw [Bool.eq_iff_iff];simp [isA];try omega],h2⟩)
 by_cases k1:c≤90
 ·exact ((isLetter_1 c w (by omega) (by omega)).mono fun e w' ⟨h1,h2⟩=>⟨by rw [h1,show isA c=true by rw [Bool.eq_iff_iff];simp [isA];try omega],h2⟩)
 by_cases k2:c≤96
 ·exact ((isLetter_2 c w (by omega) (by omega)).mono fun e w' ⟨h1,h2⟩=>⟨by rw [h1,show isA c=false by rw [Bool.eq_iff_iff];simp [isA];try omega],h2⟩)
 by_cases k3:c≤122
 ·exact ((isLetter_3 c w (by omega) (by omega)).mono fun e w' ⟨h1,h2⟩=>⟨by rw [h1,show isA c=true by rw [Bool.eq_iff_iff];simp [isA];try omega],h2⟩)
 exact ((isLetter_4 c w (by omega)).mono fun e w' ⟨h1,h2⟩=>⟨by rw [h1,show isA c=false by rw [Bool.eq_iff_iff];simp [isA];try omega],h2⟩)
theorem isBlank_0 (c:Nat) (w:World) (h2:c≤8):Calls Tryz.prog 47 #[.int .u8 (c:Int)] w fun e w'=>e=.returned (.bool false)∧w'=w:=by
 go_enter Tryz.func47,Tryz.ntmps47
 go_wp2
 go_ret
 exact ⟨by first|rfl|(simp;done)|(simp;omega),by first|rfl|trivial⟩
theorem isBlank_1 (c:Nat) (w:World) (h1:9≤c) (h2:c≤13):Calls Tryz.prog 47 #[.int .u8 (c:Int)] w fun e w'=>e=.returned (.bool true)∧w'=w:=by
 go_enter Tryz.func47,Tryz.ntmps47
 go_wp2
 go_ret
 exact ⟨by first|rfl|(simp;done)|(simp;omega),by first|rfl|trivial⟩
theorem isBlank_2 (c:Nat) (w:World) (h1:14≤c) (h2:c≤31):Calls Tryz.prog 47 #[.int .u8 (c:Int)] w fun e w'=>e=.returned (.bool false)∧w'=w:=by
 go_enter Tryz.func47,Tryz.ntmps47
 go_wp2
 go_ret
 exact ⟨by first|rfl|(simp;done)|(simp;omega),by first|rfl|trivial⟩
theorem isBlank_3 (c:Nat) (w:World) (h1:c=32):Calls Tryz.prog 47 #[.int .u8 (c:Int)] w fun e w'=>e=.returned (.bool true)∧w'=w:=by
 subst h1
 go_enter Tryz.func47,Tryz.ntmps47
 go_wp2
 go_ret
 exact ⟨by first|rfl|(simp;done)|(simp;omega),by first|rfl|trivial⟩
theorem isBlank_4 (c:Nat) (w:World) (h1:33≤c):Calls Tryz.prog 47 #[.int .u8 (c:Int)] w fun e w'=>e=.returned (.bool false)∧w'=w:=by
 go_enter Tryz.func47,Tryz.ntmps47
 go_wp2
 go_ret
 exact ⟨by first|rfl|(simp;done)|(simp;omega),by first|rfl|trivial⟩
theorem isBlank_any (c:Nat) (w:World):Calls Tryz.prog 47 #[.int .u8 (c:Int)] w fun e w'=>e=.returned (.bool (isB c))∧w'=w:=by
 by_cases k0:c≤8
 ·exact ((isBlank_0 c w (by omega)).mono fun e w' ⟨h1,h2⟩=>⟨by rw [h1,show isB c=false by rw [Bool.eq_iff_iff];simp [isB];try omega],h2⟩)
 by_cases k1:c≤13
 ·exact ((isBlank_1 c w (by omega) (by omega)).mono fun e w' ⟨h1,h2⟩=>⟨by rw [h1,show isB c=true by rw [Bool.eq_iff_iff];simp [isB];try omega],h2⟩)
 by_cases k2:c≤31
 ·exact ((isBlank_2 c w (by omega) (by omega)).mono fun e w' ⟨h1,h2⟩=>⟨by rw [h1,show isB c=false by rw [Bool.eq_iff_iff];simp [isB];try omega],h2⟩)
 by_cases k3:c≤32
 ·exact ((isBlank_3 c w (by omega)).mono fun e w' ⟨h1,h2⟩=>⟨by rw [h1,show isB c=true by rw [Bool.eq_iff_iff];simp [isB];try omega],h2⟩)
 exact ((isBlank_4 c w (by omega)).mono fun e w' ⟨h1,h2⟩=>⟨by rw [h1,show isB c=false by rw [Bool.eq_iff_iff];simp [isB];try omega],h2⟩)
end
section
open Go.RowKit Mem
theorem hexDigit_0 (c:Nat) (w:World) (h2:c≤47):Calls Tryz.prog 142 #[.int .i64 (c:Int)] w fun e w'=>e=.returned (.tuple #[.int .i64 0,.bool false])∧w'=w:=by
 go_enter Tryz.func142,Tryz.ntmps142
 go_wp2
 go_ret2
 exact ⟨by first|rfl|(simp;done)|(simp;omega),by first|rfl|trivial⟩
theorem hexDigit_1 (c:Nat) (w:World) (h1:48≤c) (h2:c≤57):Calls Tryz.prog 142 #[.int .i64 (c:Int)] w fun e w'=>e=.returned (.tuple #[.int .i64 ((c:Int)-48),.bool true])∧w'=w:=by
 go_enter Tryz.func142,Tryz.ntmps142
 go_wp2
 go_ret2
 exact ⟨by first|rfl|(simp;done)|(simp;omega),by first|rfl|trivial⟩
theorem hexDigit_2 (c:Nat) (w:World) (h1:58≤c) (h2:c≤64):Calls Tryz.prog 142 #[.int .i64 (c:Int)] w fun e w'=>e=.returned (.tuple #[.int .i64 0,.bool false])∧w'=w:=by
 go_enter Tryz.func142,Tryz.ntmps142
 go_wp2
 go_ret2
 exact ⟨by first|rfl|(simp;done)|(simp;omega),by first|rfl|trivial⟩
theorem hexDigit_3 (c:Nat) (w:World) (h1:65≤c) (h2:c≤70):Calls Tryz.prog 142 #[.int .i64 (c:Int)] w fun e w'=>e=.returned (.tuple #[.int .i64 ((c:Int)-55),.bool true])∧w'=w:=by
 go_enter Tryz.func142,Tryz.ntmps142
 go_wp2
 go_ret2
 exact ⟨by first|rfl|(simp;done)|(simp;omega),by first|rfl|trivial⟩
theorem hexDigit_4 (c:Nat) (w:World) (h1:71≤c) (h2:c≤96):Calls Tryz.prog 142 #[.int .i64 (c:Int)] w fun e w'=>e=.returned (.tuple #[.int .i64 0,.bool false])∧w'=w:=by
 go_enter Tryz.func142,Tryz.ntmps142
 go_wp2
 go_ret2
 exact ⟨by first|rfl|(simp;done)|(simp;omega),by first|rfl|trivial⟩
theorem hexDigit_5 (c:Nat) (w:World) (h1:97≤c) (h2:c≤102):Calls Tryz.prog 142 #[.int .i64 (c:Int)] w fun e w'=>e=.returned (.tuple #[.int .i64 ((c:Int)-87),.bool true])∧w'=w:=by
 go_enter Tryz.func142,Tryz.ntmps142
 go_wp2
 go_ret2
 exact ⟨by first|rfl|(simp;done)|(simp;omega),by first|rfl|trivial⟩
theorem hexDigit_6 (c:Nat) (w:World) (h1:103≤c):Calls Tryz.prog 142 #[.int .i64 (c:Int)] w fun e w'=>e=.returned (.tuple #[.int .i64 0,.bool false])∧w'=w:=by
 go_enter Tryz.func142,Tryz.ntmps142
 go_wp2
 go_ret2
 exact ⟨by first|rfl|(simp;done)|(simp;omega),by first|rfl|trivial⟩
theorem hexDigit_any (c:Nat) (w:World):Calls Tryz.prog 142 #[.int .i64 (c:Int)] w fun e w'=>e=.returned (.tuple #[.int .i64 (((hexD c).getD 0:Nat):Int),.bool (hexD c).isSome])∧w'=w:=by
 by_cases k0:c≤47
 ·exact ((hexDigit_0 c w (by omega)).mono fun e w' ⟨h1,h2⟩=>⟨by rw [h1,show hexD c=none by unfold hexD;(repeat' split)<;>first|rfl|omega];simp<;>omega,h2⟩)
 by_cases k1:c≤57
 ·exact ((hexDigit_1 c w (by omega) (by omega)).mono fun e w' ⟨h1,h2⟩=>⟨by rw [h1,show hexD c=some (c-48) by unfold hexD;(repeat' split)<;>first|rfl|omega];simp<;>omega,h2⟩)
 by_cases k2:c≤64
 ·exact ((hexDigit_2 c w (by omega) (by omega)).mono fun e w' ⟨h1,h2⟩=>⟨by rw [h1,show hexD c=none by unfold hexD;(repeat' split)<;>first|rfl|omega];simp<;>omega,h2⟩)
 by_cases k3:c≤70
 ·exact ((hexDigit_3 c w (by omega) (by omega)).mono fun e w' ⟨h1,h2⟩=>⟨by rw [h1,show hexD c=some (c-55) by unfold hexD;(repeat' split)<;>first|rfl|omega];simp<;>omega,h2⟩)
 by_cases k4:c≤96
 ·exact ((hexDigit_4 c w (by omega) (by omega)).mono fun e w' ⟨h1,h2⟩=>⟨by rw [h1,show hexD c=none by unfold hexD;(repeat' split)<;>first|rfl|omega];simp<;>omega,h2⟩)
 by_cases k5:c≤102
 ·exact ((hexDigit_5 c w (by omega) (by omega)).mono fun e w' ⟨h1,h2⟩=>⟨by rw [h1,show hexD c=some (c-87) by unfold hexD;(repeat' split)<;>first|rfl|omega];simp<;>omega,h2⟩)
 exact ((hexDigit_6 c w (by omega)).mono fun e w' ⟨h1,h2⟩=>⟨by rw [h1,show hexD c=none by unfold hexD;(repeat' split)<;>first|rfl|omega];simp<;>omega,h2⟩)
theorem control_0 (c:Nat) (w:World) (h2:c≤96):Calls Tryz.prog 106 #[.int .i64 (c:Int)] w fun e w'=>e=.returned (.tuple #[.int .i64 0,.bool false])∧w'=w:=by
 have e110:((c:Int)==110)=false:=by rw [beq_eq_false_iff_ne];omega
 have e116:((c:Int)==116)=false:=by rw [beq_eq_false_iff_ne];omega
 have e114:((c:Int)==114)=false:=by rw [beq_eq_false_iff_ne];omega
 have e102:((c:Int)==102)=false:=by rw [beq_eq_false_iff_ne];omega
 have e118:((c:Int)==118)=false:=by rw [beq_eq_false_iff_ne];omega
 have e97:((c:Int)==97)=false:=by rw [beq_eq_false_iff_ne];omega
 have e101:((c:Int)==101)=false:=by rw [beq_eq_false_iff_ne];omega
 go_enter Tryz.func106,Tryz.ntmps106
 go_wp2
 go_ret2
 exact ⟨by first|rfl|(simp;done)|(simp;omega),by first|rfl|trivial⟩
theorem control_1 (c:Nat) (w:World) (h1:c=97):Calls Tryz.prog 106 #[.int .i64 (c:Int)] w fun e w'=>e=.returned (.tuple #[.int .i64 7,.bool true])∧w'=w:=by
 subst h1
 go_enter Tryz.func106,Tryz.ntmps106
 go_wp2
 go_ret2
 exact ⟨by first|rfl|(simp;done)|(simp;omega),by first|rfl|trivial⟩
theorem control_2 (c:Nat) (w:World) (h1:98≤c) (h2:c≤100):Calls Tryz.prog 106 #[.int .i64 (c:Int)] w fun e w'=>e=.returned (.tuple #[.int .i64 0,.bool false])∧w'=w:=by
 have e110:((c:Int)==110)=false:=by rw [beq_eq_false_iff_ne];omega
 have e116:((c:Int)==116)=false:=by rw [beq_eq_false_iff_ne];omega
 have e114:((c:Int)==114)=false:=by rw [beq_eq_false_iff_ne];omega
 have e102:((c:Int)==102)=false:=by rw [beq_eq_false_iff_ne];omega
 have e118:((c:Int)==118)=false:=by rw [beq_eq_false_iff_ne];omega
 have e97:((c:Int)==97)=false:=by rw [beq_eq_false_iff_ne];omega
 have e101:((c:Int)==101)=false:=by rw [beq_eq_false_iff_ne];omega
 go_enter Tryz.func106,Tryz.ntmps106
 go_wp2
 go_ret2
 exact ⟨by first|rfl|(simp;done)|(simp;omega),by first|rfl|trivial⟩
theorem control_3 (c:Nat) (w:World) (h1:c=101):Calls Tryz.prog 106 #[.int .i64 (c:Int)] w fun e w'=>e=.returned (.tuple #[.int .i64 27,.bool true])∧w'=w:=by
 subst h1
 go_enter Tryz.func106,Tryz.ntmps106
 go_wp2
 go_ret2
 exact ⟨by first|rfl|(simp;done)|(simp;omega),by first|rfl|trivial⟩
theorem control_4 (c:Nat) (w:World) (h1:c=102):Calls Tryz.prog 106 #[.int .i64 (c:Int)] w fun e w'=>e=.returned (.tuple #[.int .i64 12,.bool true])∧w'=w:=by
 subst h1
 go_enter Tryz.func106,Tryz.ntmps106
 go_wp2
 go_ret2
 exact ⟨by first|rfl|(simp;done)|(simp;omega),by first|rfl|trivial⟩
theorem control_5 (c:Nat) (w:World) (h1:103≤c) (h2:c≤109):Calls Tryz.prog 106 #[.int .i64 (c:Int)] w fun e w'=>e=.returned (.tuple #[.int .i64 0,.bool false])∧w'=w:=by
 have e110:((c:Int)==110)=false:=by rw [beq_eq_false_iff_ne];omega
 have e116:((c:Int)==116)=false:=by rw [beq_eq_false_iff_ne];omega
 have e114:((c:Int)==114)=false:=by rw [beq_eq_false_iff_ne];omega
 have e102:((c:Int)==102)=false:=by rw [beq_eq_false_iff_ne];omega
 have e118:((c:Int)==118)=false:=by rw [beq_eq_false_iff_ne];omega
 have e97:((c:Int)==97)=false:=by rw [beq_eq_false_iff_ne];omega
 have e101:((c:Int)==101)=false:=by rw [beq_eq_false_iff_ne];omega
 go_enter Tryz.func106,Tryz.ntmps106
 go_wp2
 go_ret2
 exact ⟨by first|rfl|(simp;done)|(simp;omega),by first|rfl|trivial⟩
theorem control_6 (c:Nat) (w:World) (h1:c=110):Calls Tryz.prog 106 #[.int .i64 (c:Int)] w fun e w'=>e=.returned (.tuple #[.int .i64 10,.bool true])∧w'=w:=by
 subst h1
 go_enter Tryz.func106,Tryz.ntmps106
 go_wp2
 go_ret2
 exact ⟨by first|rfl|(simp;done)|(simp;omega),by first|rfl|trivial⟩
theorem control_7 (c:Nat) (w:World) (h1:111≤c) (h2:c≤113):Calls Tryz.prog 106 #[.int .i64 (c:Int)] w fun e w'=>e=.returned (.tuple #[.int .i64 0,.bool false])∧w'=w:=by
 have e110:((c:Int)==110)=false:=by rw [beq_eq_false_iff_ne];omega
 have e116:((c:Int)==116)=false:=by rw [beq_eq_false_iff_ne];omega
 have e114:((c:Int)==114)=false:=by rw [beq_eq_false_iff_ne];omega
 have e102:((c:Int)==102)=false:=by rw [beq_eq_false_iff_ne];omega
 have e118:((c:Int)==118)=false:=by rw [beq_eq_false_iff_ne];omega
 have e97:((c:Int)==97)=false:=by rw [beq_eq_false_iff_ne];omega
 have e101:((c:Int)==101)=false:=by rw [beq_eq_false_iff_ne];omega
 go_enter Tryz.func106,Tryz.ntmps106
 go_wp2
 go_ret2
 exact ⟨by first|rfl|(simp;done)|(simp;omega),by first|rfl|trivial⟩
theorem control_8 (c:Nat) (w:World) (h1:c=114):Calls Tryz.prog 106 #[.int .i64 (c:Int)] w fun e w'=>e=.returned (.tuple #[.int .i64 13,.bool true])∧w'=w:=by
 subst h1
 go_enter Tryz.func106,Tryz.ntmps106
 go_wp2
 go_ret2
 exact ⟨by first|rfl|(simp;done)|(simp;omega),by first|rfl|trivial⟩
theorem control_9 (c:Nat) (w:World) (h1:c=115):Calls Tryz.prog 106 #[.int .i64 (c:Int)] w fun e w'=>e=.returned (.tuple #[.int .i64 0,.bool false])∧w'=w:=by
 subst h1
 go_enter Tryz.func106,Tryz.ntmps106
 go_wp2
 go_ret2
 exact ⟨by first|rfl|(simp;done)|(simp;omega),by first|rfl|trivial⟩
theorem control_10 (c:Nat) (w:World) (h1:c=116):Calls Tryz.prog 106 #[.int .i64 (c:Int)] w fun e w'=>e=.returned (.tuple #[.int .i64 9,.bool true])∧w'=w:=by
 subst h1
 go_enter Tryz.func106,Tryz.ntmps106
 go_wp2
 go_ret2
 exact ⟨by first|rfl|(simp;done)|(simp;omega),by first|rfl|trivial⟩
theorem control_11 (c:Nat) (w:World) (h1:c=117):Calls Tryz.prog 106 #[.int .i64 (c:Int)] w fun e w'=>e=.returned (.tuple #[.int .i64 0,.bool false])∧w'=w:=by
 subst h1
 go_enter Tryz.func106,Tryz.ntmps106
 go_wp2
 go_ret2
 exact ⟨by first|rfl|(simp;done)|(simp;omega),by first|rfl|trivial⟩
theorem control_12 (c:Nat) (w:World) (h1:c=118):Calls Tryz.prog 106 #[.int .i64 (c:Int)] w fun e w'=>e=.returned (.tuple #[.int .i64 11,.bool true])∧w'=w:=by
 subst h1
 go_enter Tryz.func106,Tryz.ntmps106
 go_wp2
 go_ret2
 exact ⟨by first|rfl|(simp;done)|(simp;omega),by first|rfl|trivial⟩
theorem control_13 (c:Nat) (w:World) (h1:119≤c):Calls Tryz.prog 106 #[.int .i64 (c:Int)] w fun e w'=>e=.returned (.tuple #[.int .i64 0,.bool false])∧w'=w:=by
 have e110:((c:Int)==110)=false:=by rw [beq_eq_false_iff_ne];omega
 have e116:((c:Int)==116)=false:=by rw [beq_eq_false_iff_ne];omega
 have e114:((c:Int)==114)=false:=by rw [beq_eq_false_iff_ne];omega
 have e102:((c:Int)==102)=false:=by rw [beq_eq_false_iff_ne];omega
 have e118:((c:Int)==118)=false:=by rw [beq_eq_false_iff_ne];omega
 have e97:((c:Int)==97)=false:=by rw [beq_eq_false_iff_ne];omega
 have e101:((c:Int)==101)=false:=by rw [beq_eq_false_iff_ne];omega
 go_enter Tryz.func106,Tryz.ntmps106
 go_wp2
 go_ret2
 exact ⟨by first|rfl|(simp;done)|(simp;omega),by first|rfl|trivial⟩
theorem control_any (c:Nat) (w:World):Calls Tryz.prog 106 #[.int .i64 (c:Int)] w fun e w'=>e=.returned (.tuple #[.int .i64 (((ctl c).getD 0:Nat):Int),.bool (ctl c).isSome])∧w'=w:=by
 by_cases k0:c≤96
 ·exact ((control_0 c w (by omega)).mono fun e w' ⟨h1,h2⟩=>⟨by rw [h1,show ctl c=none by unfold ctl;rw [if_neg (by omega),if_neg (by omega),if_neg (by omega),if_neg (by omega),if_neg (by omega),if_neg (by omega),if_neg (by omega)]];rfl,h2⟩)
 by_cases k1:c≤97
 ·exact ((control_1 c w (by omega)).mono fun e w' ⟨h1,h2⟩=>⟨by rw [h1,show c=97 from by omega];rfl,h2⟩)
 by_cases k2:c≤100
 ·exact ((control_2 c w (by omega) (by omega)).mono fun e w' ⟨h1,h2⟩=>⟨by rw [h1,show ctl c=none by unfold ctl;rw [if_neg (by omega),if_neg (by omega),if_neg (by omega),if_neg (by omega),if_neg (by omega),if_neg (by omega),if_neg (by omega)]];rfl,h2⟩)
 by_cases k3:c≤101
 ·exact ((control_3 c w (by omega)).mono fun e w' ⟨h1,h2⟩=>⟨by rw [h1,show c=101 from by omega];rfl,h2⟩)
 by_cases k4:c≤102
 ·exact ((control_4 c w (by omega)).mono fun e w' ⟨h1,h2⟩=>⟨by rw [h1,show c=102 from by omega];rfl,h2⟩)
 by_cases k5:c≤109
 ·exact ((control_5 c w (by omega) (by omega)).mono fun e w' ⟨h1,h2⟩=>⟨by rw [h1,show ctl c=none by unfold ctl;rw [if_neg (by omega),if_neg (by omega),if_neg (by omega),if_neg (by omega),if_neg (by omega),if_neg (by omega),if_neg (by omega)]];rfl,h2⟩)
 by_cases k6:c≤110
 ·exact ((control_6 c w (by omega)).mono fun e w' ⟨h1,h2⟩=>⟨by rw [h1,show c=110 from by omega];rfl,h2⟩)
 by_cases k7:c≤113
 ·exact ((control_7 c w (by omega) (by omega)).mono fun e w' ⟨h1,h2⟩=>⟨by rw [h1,show ctl c=none by unfold ctl;rw [if_neg (by omega),if_neg (by omega),if_neg (by omega),if_neg (by omega),if_neg (by omega),if_neg (by omega),if_neg (by omega)]];rfl,h2⟩)
 by_cases k8:c≤114
 ·exact ((control_8 c w (by omega)).mono fun e w' ⟨h1,h2⟩=>⟨by rw [h1,show c=114 from by omega];rfl,h2⟩)
 by_cases k9:c≤115
 ·exact ((control_9 c w (by omega)).mono fun e w' ⟨h1,h2⟩=>⟨by rw [h1,show ctl c=none by unfold ctl;rw [if_neg (by omega),if_neg (by omega),if_neg (by omega),if_neg (by omega),if_neg (by omega),if_neg (by omega),if_neg (by omega)]];rfl,h2⟩)
 by_cases k10:c≤116
 ·exact ((control_10 c w (by omega)).mono fun e w' ⟨h1,h2⟩=>⟨by rw [h1,show c=116 from by omega];rfl,h2⟩)
 by_cases k11:c≤117
 ·exact ((control_11 c w (by omega)).mono fun e w' ⟨h1,h2⟩=>⟨by rw [h1,show ctl c=none by unfold ctl;rw [if_neg (by omega),if_neg (by omega),if_neg (by omega),if_neg (by omega),if_neg (by omega),if_neg (by omega),if_neg (by omega)]];rfl,h2⟩)
 by_cases k12:c≤118
 ·exact ((control_12 c w (by omega)).mono fun e w' ⟨h1,h2⟩=>⟨by rw [h1,show c=118 from by omega];rfl,h2⟩)
 exact ((control_13 c w (by omega)).mono fun e w' ⟨h1,h2⟩=>⟨by rw [h1,show ctl c=none by unfold ctl;rw [if_neg (by omega),if_neg (by omega),if_neg (by omega),if_neg (by omega),if_neg (by omega),if_neg (by omega),if_neg (by omega)]];rfl,h2⟩)
theorem held_0 (c:Nat) (w:World) (h2:c≤64):Calls Tryz.prog 89 #[.int .i64 (c:Int)] w fun e w'=>e=.returned (.tuple #[.int .i64 0,.bool false])∧w'=w:=by
 have e65:((c:Int)==65)=false:=by rw [beq_eq_false_iff_ne];omega
 have e90:((c:Int)==90)=false:=by rw [beq_eq_false_iff_ne];omega
 have e122:((c:Int)==122)=false:=by rw [beq_eq_false_iff_ne];omega
 have e98:((c:Int)==98)=false:=by rw [beq_eq_false_iff_ne];omega
 have e66:((c:Int)==66)=false:=by rw [beq_eq_false_iff_ne];omega
 go_enter Tryz.func89,Tryz.ntmps89
 go_wp2
 go_ret2
 exact ⟨by first|rfl|(simp;done)|(simp;omega),by first|rfl|trivial⟩
theorem held_1 (c:Nat) (w:World) (h1:c=65):Calls Tryz.prog 89 #[.int .i64 (c:Int)] w fun e w'=>e=.returned (.tuple #[.int .i64 1,.bool true])∧w'=w:=by
 subst h1
 go_enter Tryz.func89,Tryz.ntmps89
 go_wp2
 go_ret2
 exact ⟨by first|rfl|(simp;done)|(simp;omega),by first|rfl|trivial⟩
theorem held_2 (c:Nat) (w:World) (h1:c=66):Calls Tryz.prog 89 #[.int .i64 (c:Int)] w fun e w'=>e=.returned (.tuple #[.int .i64 7,.bool true])∧w'=w:=by
 subst h1
 go_enter Tryz.func89,Tryz.ntmps89
 go_wp2
 go_ret2
 exact ⟨by first|rfl|(simp;done)|(simp;omega),by first|rfl|trivial⟩
theorem held_3 (c:Nat) (w:World) (h1:67≤c) (h2:c≤89):Calls Tryz.prog 89 #[.int .i64 (c:Int)] w fun e w'=>e=.returned (.tuple #[.int .i64 0,.bool false])∧w'=w:=by
 have e65:((c:Int)==65)=false:=by rw [beq_eq_false_iff_ne];omega
 have e90:((c:Int)==90)=false:=by rw [beq_eq_false_iff_ne];omega
 have e122:((c:Int)==122)=false:=by rw [beq_eq_false_iff_ne];omega
 have e98:((c:Int)==98)=false:=by rw [beq_eq_false_iff_ne];omega
 have e66:((c:Int)==66)=false:=by rw [beq_eq_false_iff_ne];omega
 go_enter Tryz.func89,Tryz.ntmps89
 go_wp2
 go_ret2
 exact ⟨by first|rfl|(simp;done)|(simp;omega),by first|rfl|trivial⟩
theorem held_4 (c:Nat) (w:World) (h1:c=90):Calls Tryz.prog 89 #[.int .i64 (c:Int)] w fun e w'=>e=.returned (.tuple #[.int .i64 2,.bool true])∧w'=w:=by
 subst h1
 go_enter Tryz.func89,Tryz.ntmps89
 go_wp2
 go_ret2
 exact ⟨by first|rfl|(simp;done)|(simp;omega),by first|rfl|trivial⟩
theorem held_5 (c:Nat) (w:World) (h1:91≤c) (h2:c≤97):Calls Tryz.prog 89 #[.int .i64 (c:Int)] w fun e w'=>e=.returned (.tuple #[.int .i64 0,.bool false])∧w'=w:=by
 have e65:((c:Int)==65)=false:=by rw [beq_eq_false_iff_ne];omega
 have e90:((c:Int)==90)=false:=by rw [beq_eq_false_iff_ne];omega
 have e122:((c:Int)==122)=false:=by rw [beq_eq_false_iff_ne];omega
 have e98:((c:Int)==98)=false:=by rw [beq_eq_false_iff_ne];omega
 have e66:((c:Int)==66)=false:=by rw [beq_eq_false_iff_ne];omega
 go_enter Tryz.func89,Tryz.ntmps89
 go_wp2
 go_ret2
 exact ⟨by first|rfl|(simp;done)|(simp;omega),by first|rfl|trivial⟩
theorem held_6 (c:Nat) (w:World) (h1:c=98):Calls Tryz.prog 89 #[.int .i64 (c:Int)] w fun e w'=>e=.returned (.tuple #[.int .i64 6,.bool true])∧w'=w:=by
 subst h1
 go_enter Tryz.func89,Tryz.ntmps89
 go_wp2
 go_ret2
 exact ⟨by first|rfl|(simp;done)|(simp;omega),by first|rfl|trivial⟩
theorem held_7 (c:Nat) (w:World) (h1:99≤c) (h2:c≤121):Calls Tryz.prog 89 #[.int .i64 (c:Int)] w fun e w'=>e=.returned (.tuple #[.int .i64 0,.bool false])∧w'=w:=by
 have e65:((c:Int)==65)=false:=by rw [beq_eq_false_iff_ne];omega
 have e90:((c:Int)==90)=false:=by rw [beq_eq_false_iff_ne];omega
 have e122:((c:Int)==122)=false:=by rw [beq_eq_false_iff_ne];omega
 have e98:((c:Int)==98)=false:=by rw [beq_eq_false_iff_ne];omega
 have e66:((c:Int)==66)=false:=by rw [beq_eq_false_iff_ne];omega
 go_enter Tryz.func89,Tryz.ntmps89
 go_wp2
 go_ret2
 exact ⟨by first|rfl|(simp;done)|(simp;omega),by first|rfl|trivial⟩
theorem held_8 (c:Nat) (w:World) (h1:c=122):Calls Tryz.prog 89 #[.int .i64 (c:Int)] w fun e w'=>e=.returned (.tuple #[.int .i64 3,.bool true])∧w'=w:=by
 subst h1
 go_enter Tryz.func89,Tryz.ntmps89
 go_wp2
 go_ret2
 exact ⟨by first|rfl|(simp;done)|(simp;omega),by first|rfl|trivial⟩
theorem held_9 (c:Nat) (w:World) (h1:123≤c):Calls Tryz.prog 89 #[.int .i64 (c:Int)] w fun e w'=>e=.returned (.tuple #[.int .i64 0,.bool false])∧w'=w:=by
 have e65:((c:Int)==65)=false:=by rw [beq_eq_false_iff_ne];omega
 have e90:((c:Int)==90)=false:=by rw [beq_eq_false_iff_ne];omega
 have e122:((c:Int)==122)=false:=by rw [beq_eq_false_iff_ne];omega
 have e98:((c:Int)==98)=false:=by rw [beq_eq_false_iff_ne];omega
 have e66:((c:Int)==66)=false:=by rw [beq_eq_false_iff_ne];omega
 go_enter Tryz.func89,Tryz.ntmps89
 go_wp2
 go_ret2
 exact ⟨by first|rfl|(simp;done)|(simp;omega),by first|rfl|trivial⟩
theorem held_any (c:Nat) (w:World):Calls Tryz.prog 89 #[.int .i64 (c:Int)] w fun e w'=>e=.returned (.tuple #[.int .i64 (((hldO c).getD 0:Nat):Int),.bool (hldO c).isSome])∧w'=w:=by
 by_cases k0:c≤64
 ·exact ((held_0 c w (by omega)).mono fun e w' ⟨h1,h2⟩=>⟨by rw [h1,show hldO c=none by unfold hldO;rw [if_neg (by omega),if_neg (by omega),if_neg (by omega),if_neg (by omega),if_neg (by omega)]];rfl,h2⟩)
 by_cases k1:c≤65
 ·exact ((held_1 c w (by omega)).mono fun e w' ⟨h1,h2⟩=>⟨by rw [h1,show c=65 from by omega];rfl,h2⟩)
 by_cases k2:c≤66
 ·exact ((held_2 c w (by omega)).mono fun e w' ⟨h1,h2⟩=>⟨by rw [h1,show c=66 from by omega];rfl,h2⟩)
 by_cases k3:c≤89
 ·exact ((held_3 c w (by omega) (by omega)).mono fun e w' ⟨h1,h2⟩=>⟨by rw [h1,show hldO c=none by unfold hldO;rw [if_neg (by omega),if_neg (by omega),if_neg (by omega),if_neg (by omega),if_neg (by omega)]];rfl,h2⟩)
 by_cases k4:c≤90
 ·exact ((held_4 c w (by omega)).mono fun e w' ⟨h1,h2⟩=>⟨by rw [h1,show c=90 from by omega];rfl,h2⟩)
 by_cases k5:c≤97
 ·exact ((held_5 c w (by omega) (by omega)).mono fun e w' ⟨h1,h2⟩=>⟨by rw [h1,show hldO c=none by unfold hldO;rw [if_neg (by omega),if_neg (by omega),if_neg (by omega),if_neg (by omega),if_neg (by omega)]];rfl,h2⟩)
 by_cases k6:c≤98
 ·exact ((held_6 c w (by omega)).mono fun e w' ⟨h1,h2⟩=>⟨by rw [h1,show c=98 from by omega];rfl,h2⟩)
 by_cases k7:c≤121
 ·exact ((held_7 c w (by omega) (by omega)).mono fun e w' ⟨h1,h2⟩=>⟨by rw [h1,show hldO c=none by unfold hldO;rw [if_neg (by omega),if_neg (by omega),if_neg (by omega),if_neg (by omega),if_neg (by omega)]];rfl,h2⟩)
 by_cases k8:c≤122
 ·exact ((held_8 c w (by omega)).mono fun e w' ⟨h1,h2⟩=>⟨by rw [h1,show c=122 from by omega];rfl,h2⟩)
 exact ((held_9 c w (by omega)).mono fun e w' ⟨h1,h2⟩=>⟨by rw [h1,show hldO c=none by unfold hldO;rw [if_neg (by omega),if_neg (by omega),if_neg (by omega),if_neg (by omega),if_neg (by omega)]];rfl,h2⟩)
end
section
open Go.RowKit Mem
open Sy (g g_lt)
attribute [local go_sem] Rs.run_not_true Rs.run_not_false
def HRel (bs:List UInt8) (k M:Nat) (w:World) (v i:Value) (wr:World):Prop:=
 ∃ n num:Nat,v=.int .i64 num∧i=.int .i64 n∧n≤M∧k+n≤bs.length∧num<16 ^ n∧hexF bs k M 0=((hexF bs (k+n) (M-n) num).1,(hexF bs (k+n) (M-n) num).2+n)∧wr=w
theorem hexa_any (bs:List UInt8) (A:Option Addr) (cap k M:Nat) (w:World) (hP:PV bs A cap w) (hk:k≤bs.length) (hM:M≤6) :
  Calls Tryz.prog 123 #[.slice A bs.length cap,.int .i64 (k:Int),.int .i64 (M:Int)] w fun e w'=>e=.returned (.tuple #[.int .i64 ((hexF bs k M 0).1:Int),.int .i64 ((hexF bs k M 0).2:Int)])∧w'=w:=by
 have HP:=hide hP
 have hroom:=hP.room
 have htop:=hP.top
 clear hP
 go_enter Tryz.func123,Tryz.ntmps123
 go_wp2
 go_loopw [8,9] (fun v i wr=>HRel bs k M w v i wr) (fun _ i _=>M-(intOf i).toNat)
 case atStart=>exact ⟨0,0,rfl,rfl,Nat.zero_le _,by omega,by simp,by simp,rfl⟩
 case round=>
  obtain ⟨n,num,rfl,rfl,hn,hkn,hnum,hF,rfl⟩:=hrel
  go_hideQ
  have HF:=hide hF
  have HN:=hide hnum
  clear hF hnum
  obtain ⟨m,hm⟩:∃ m,k+n=m:=⟨_,rfl⟩
  have hmi:(k:Int)+(n:Int)=(m:Int):=by omega
  have HFin:n=M∨hexD (g bs m)=none→Hd (hexF bs k M 0=(num,n)):=fun h=>hide (by
   rw [HF.1,hm]
   rcases h with rfl|h
   ·rw [Nat.sub_self,hexF_zero];simp
   ·rw [hexF_none _ _ h];simp)
  by_cases hlt:n<M
  ·have hlt':(n:Int)<(M:Int):=by omega
   by_cases hin:m<bs.length
   ·have hin':(m:Int)<(bs.length:Int):=by omega
    obtain ⟨b,off,rfl,hb,hc⟩:=HP.1.cell hin
    have c1:=hc m hin
    have HX:=hide (hexDigit_any (g bs m) wr)
    have HO:=hide (show ∀ d,hexD (g bs m)=some d→hexF bs k M 0=((hexF bs (k+(n+1)) (M-(n+1)) (16*num+d)).1,(hexF bs (k+(n+1)) (M-(n+1)) (16*num+d)).2+(n+1))∧16*num+d<16 ^ (n+1)∧16*num+d<16777216 from fun d hd=>by
     have hd16:=hexD_lt hd
     have hN:=HN.1
     have h1:16*num+d<16 ^ (n+1):=by rw [Nat.pow_succ];omega
     have h2:16 ^ (n+1)≤16 ^ 6:=Nat.pow_le_pow_right (by omega) (by omega)
     refine ⟨?_,h1,by omega⟩
     rw [HF.1,show M-n=(M-(n+1))+1 by omega,hm,hexF_some _ _ hd]
     simp only [← hm,Nat.add_assoc,Nat.add_comm 1 n,Prod.mk.injEq,true_and])
    have h256:(g bs m:Int)<256:=by have:=g_lt bs m;omega
    generalize hx:g bs m=x at *
    clear hc HF
    cases hd:hexD x with
    | none=>
     have HR:=HFin (.inr hd)
     rw [hd] at HX
     clear HFin HO hd hx
     simp only [Option.getD_none,Option.isSome_none] at HX
     go_wp2_with fail
     refine HX.1.mono ?_
     rintro e w1 ⟨rfl,rfl⟩
     go_wp2
     go_ret2
     exact ⟨by rw [HR.1];rfl,rfl⟩
    | some d=>
     obtain ⟨hF2,hb1,hb2⟩:=HO.1 d hd
     rw [hd] at HX
     clear HFin HO hd hx
     simp only [Option.getD_some,Option.isSome_some] at HX
     have hR:HRel bs k M wr (.int .i64 (16*(num:Int)+(d:Int))) (.int .i64 ((n:Int)+1)) wr:=⟨n+1,16*num+d,by push_cast;rfl,by push_cast;rfl,by omega,by omega,hb1,hF2,rfl⟩
     have HR:=hide hR
     clear hF2 hb1 hR
     obtain ⟨q,hq⟩:∃ q:Int,16*(num:Int)=q:=⟨_,rfl⟩
     rw [hq] at HR
     obtain ⟨z,hz⟩:∃ z:Int,q+(d:Int)=z:=⟨_,rfl⟩
     rw [hz] at HR
     have hq0:0≤q:=by omega
     have hq1:q≤9223372036854775807:=by omega
     have hz0:0≤z:=by omega
     have hz1:z≤9223372036854775807:=by omega
     clear hb2
     go_wp2_with fail
     refine HX.1.mono ?_
     rintro e w1 ⟨rfl,rfl⟩
     go_wp2
     go_roundw
     case rel=>exact HR.1
     case measure=>simp [intOf];omega
   ·have hin':(bs.length:Int)≤(m:Int):=by omega
    have HR:=HFin (.inr (by rw [g_out (by omega)];rfl))
    clear HFin HF
    go_wp2
    go_ret2
    exact ⟨by rw [HR.1];rfl,rfl⟩
  ·have hlt':(M:Int)≤(n:Int):=by omega
   have HR:=HFin (.inl (by omega))
   clear HFin HF
   go_wp2
   go_ret2
   exact ⟨by rw [HR.1];rfl,rfl⟩
end
section
open Go.RowKit Mem
open Sy (g g_lt)
def DRel (bs:List UInt8) (k:Nat) (w:World) (i v:Value) (wr:World):Prop:=
 ∃ m num:Nat,i=.int .i64 m∧v=.int .i64 num∧m≤bs.length∧num≤1001∧decF bs k 0=decF bs m num∧wr=w
theorem step_min {num c:Nat} (h1:48≤c):((min (10*num+(c-48)) 1001:Nat):Int)=min (10*(num:Int)+((c:Int)-48)) 1001:=by omega
theorem decimal_any (bs:List UInt8) (A:Option Addr) (cap k:Nat) (w:World) (hP:PV bs A cap w) (hk:k≤bs.length) :
  Calls Tryz.prog 80 #[.slice A bs.length cap,.int .i64 (k:Int)] w fun e w'=>e=.returned (.tuple #[.int .i64 ((decF bs k 0).1:Int),.int .i64 ((decF bs k 0).2:Int)])∧w'=w:=by
 have HP:=hide hP
 have hroom:=hP.room
 have htop:=hP.top
 clear hP
 go_enter Tryz.func80,Tryz.ntmps80
 go_wp2
 go_loopw [1,6] (fun i v wr=>DRel bs k w i v wr) (fun i _ _=>bs.length-(intOf i).toNat)
 case atStart=>exact ⟨k,0,rfl,rfl,hk,by omega,rfl,rfl⟩
 case round=>
  obtain ⟨m,num,rfl,rfl,hm,hnum,hF,rfl⟩:=hrel
  go_hideQ
  have HF:=hide hF
  have HM:=hide hnum
  clear hF hnum
  by_cases hin:m<bs.length
  ·have hin':(m:Int)<(bs.length:Int):=by omega
   obtain ⟨b,off,rfl,hb,hc⟩:=HP.1.cell hin
   have c1:=hc m hin
   have h256:(g bs m:Int)<256:=by have:=g_lt bs m;omega
   have HX:=hide (isDigit_any (g bs m) wr)
   have HO:=hide (show isD (g bs m)=true→decF bs k 0=decF bs (m+1) (min (10*num+(g bs m-48)) 1001) from fun h=>by rw [HF.1,decF_step num h])
   have HN:=hide (show isD (g bs m)=false→decF bs k 0=(num,m) from fun h=>by rw [HF.1,decF_stop num h])
   generalize hx:g bs m=x at *
   clear hc HF hx
   obtain ⟨p,hp⟩:∃ p,isD x=p:=⟨_,rfl⟩
   rw [hp] at HX HO HN
   cases p with
   | true=>
    have hD:=isD_iff.1 hp
    have hx0:48≤(x:Int):=by omega
    have hx1:(x:Int)≤57:=by omega
    have hR:DRel bs k wr (.int .i64 ((m:Int)+1)) (.int .i64 (min (10*(num:Int)+((x:Int)-48)) 1001)) wr:=
     ⟨m+1,min (10*num+(x-48)) 1001,by push_cast;rfl,by rw [step_min hD.1],by omega,Nat.min_le_right _ _,HO.1 rfl,rfl⟩
    have hnum:=HM.1
    have hq0:0≤(num:Int):=by omega
    have hq1:(num:Int)≤1001:=by omega
    have HR:=hide hR
    clear hR hD hp HO HN HM hnum
    by_cases hle:10*(num:Int)+((x:Int)-48)≤1001
    ·rw [Int.min_eq_left hle] at HR
     go_wp2_with fail
     refine HX.1.mono ?_
     rintro e w1 ⟨rfl,rfl⟩
     go_wp2
     have hR:=HR.1
     first|exact ⟨hR,by simp [intOf];omega⟩|skip
     all_goals go_roundw
     all_goals first|exact hR|(simp [intOf];omega)
    ·have hgt:1001<10*(num:Int)+((x:Int)-48):=by omega
     rw [Int.min_eq_right (by omega)] at HR
     clear hle
     go_wp2_with fail
     refine HX.1.mono ?_
     rintro e w1 ⟨rfl,rfl⟩
     go_wp2
     have hR:=HR.1
     first|exact ⟨hR,by simp [intOf];omega⟩|skip
     all_goals go_roundw
     all_goals first|exact hR|(simp [intOf];omega)
   | false=>
    have HR:=hide (HN.1 rfl)
    clear hp HO HN HM
    go_wp2_with fail
    refine HX.1.mono ?_
    rintro e w1 ⟨rfl,rfl⟩
    go_wp2
    go_ret2
    exact ⟨by rw [HR.1];rfl,rfl⟩
  ·have hin':(bs.length:Int)≤(m:Int):=by omega
   have HR:=hide (show decF bs k 0=(num,m) by rw [HF.1,decF_stop num (by rw [g_out (by omega)];rfl)])
   clear HF HM
   go_wp2
   go_ret2
   exact ⟨by rw [HR.1];rfl,rfl⟩
end
end Go.Proofs.YtmlbklcmblofkaaGreatDoor.Sc
