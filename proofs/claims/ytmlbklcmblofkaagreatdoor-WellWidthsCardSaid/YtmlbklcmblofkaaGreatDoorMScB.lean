/-
  scan.decimal, walked: the number of the digits from a place on, not above 1001, and the place behind them.
-/
import Derived.Test.YtmlbklcmblofkaaGreatDoorMPuB
import Derived.Test.YtmlbklcmblofkaaGreatDoorMMemA
import Derived.Laws.Tables
import Derived.IntWalk
import Derived.WalkHide
set_option linter.unusedSimpArgs false
set_option linter.unusedVariables false
set_option maxHeartbeats 2000000
set_option maxRecDepth 100000
namespace Go.Proofs.YtmlbklcmblofkaaGreatDoor.Sc
section
open Go.RowKit Mem
open Sy (g g_of)
structure PV (bs:List UInt8) (A:Option Addr) (cap:Nat) (w:World):Prop where
 room:bs.length≤cap
 top:cap≤9223372036854775807
 reads:Reads w w.heap.size 1 A bs.length (bs.map u8)
theorem PV.below {bs:List UInt8} {A:Option Addr} {cap:Nat} {w w':World} (h:PV bs A cap w) (hb:Below w.heap.size w w'):PV bs A cap w':=⟨h.room,h.top,(h.reads.below hb).more hb.size⟩
theorem PV.cell {bs:List UInt8} {A:Option Addr} {cap:Nat} {w:World} (h:PV bs A cap w) {k:Nat} (hk:k<bs.length) :
  ∃ b off,A=some ⟨b,off,none⟩∧b<w.heap.size∧∀ j,j<bs.length→w.cell? ⟨b,off+j,none⟩=some (.int .u8 (g bs j:Int)):=by
 obtain ⟨b,off,rfl,hb,hc⟩:=h.reads.flat (by omega)
 refine ⟨b,off,rfl,hb,fun j hj=>?_⟩
 have hx:=List.getElem?_eq_getElem hj
 rw [hc j (u8 bs[j]) (by simp [hj]),g_of hx]
theorem ret_b {a b:Bool} (h:a=b):Ending.returned (.bool a)=.returned (.bool b):=by rw [h]
theorem stands_any (bs:List UInt8) (A:Option Addr) (cap:Nat) (w:World) (hP:PV bs A cap w) (i:Int) (c:Nat) (h0:0<c) :
  Calls Tryz.prog 64 #[.slice A bs.length cap,.int .i64 i,.int .u8 (c:Int)] w fun e w'=>e=.returned (.bool (decide (gz bs i=c)))∧w'=w:=by
 by_cases h1:i<0
 ·have HE:=hide (show false=decide (gz bs i=c) by rw [gz_out (.inl h1)];simp;omega)
  go_enter Tryz.func64,Tryz.ntmps64
  go_wp2
  go_ret
  exact ⟨ret_b HE.1,rfl⟩
 ·by_cases h2:(bs.length:Int)≤i
  ·have HE:=hide (show false=decide (gz bs i=c) by rw [gz_out (.inr h2)];simp;omega)
   have h3:0≤i:=by omega
   clear h1
   go_enter Tryz.func64,Tryz.ntmps64
   go_wp2
   go_ret
   exact ⟨ret_b HE.1,rfl⟩
  ·obtain ⟨k,rfl⟩:∃ k:Nat,i=(k:Int):=⟨i.toNat,by omega⟩
   have hk:k<bs.length:=by omega
   obtain ⟨b,off,rfl,hb,hc⟩:=hP.cell hk
   have c1:=hc k hk
   have hr:=hP.room
   have ht:=hP.top
   have HE:=hide (show ((g bs k:Int)==(c:Int))=decide (gz bs (k:Int)=c) by rw [gz_nat,Bool.eq_iff_iff];simp;omega)
   generalize bs.length=n at *
   generalize g bs k=x at *
   clear hc hP h1
   go_enter Tryz.func64,Tryz.ntmps64
   go_wp2
   go_ret
   exact ⟨ret_b HE.1,rfl⟩
end
section
open Go.RowKit Mem
theorem isDigit_0 (c:Nat) (w:World) (h2:c≤47):Calls Tryz.prog 87 #[.int .i64 (c:Int)] w fun e w'=>e=.returned (.bool false)∧w'=w:=by
 go_enter Tryz.func87,Tryz.ntmps87
 go_wp2
 go_ret
 exact ⟨by first|rfl|(simp;done)|(simp;omega),by first|rfl|trivial⟩
theorem isDigit_1 (c:Nat) (w:World) (h1:48≤c) (h2:c≤57):Calls Tryz.prog 87 #[.int .i64 (c:Int)] w fun e w'=>e=.returned (.bool true)∧w'=w:=by
 go_enter Tryz.func87,Tryz.ntmps87
 go_wp2
 go_ret
 exact ⟨by first|rfl|(simp;done)|(simp;omega),by first|rfl|trivial⟩
theorem isDigit_2 (c:Nat) (w:World) (h1:58≤c):Calls Tryz.prog 87 #[.int .i64 (c:Int)] w fun e w'=>e=.returned (.bool false)∧w'=w:=by
 go_enter Tryz.func87,Tryz.ntmps87
 go_wp2
 go_ret
 exact ⟨by first|rfl|(simp;done)|(simp;omega),by first|rfl|trivial⟩
theorem isDigit_any (c:Nat) (w:World):Calls Tryz.prog 87 #[.int .i64 (c:Int)] w fun e w'=>e=.returned (.bool (isD c))∧w'=w:=by
 by_cases k0:c≤47
 ·exact ((isDigit_0 c w (by omega)).mono fun e w' ⟨h1,h2⟩=>⟨by rw [h1,show isD c=false by rw [Bool.eq_iff_iff];simp [isD];try omega],h2⟩)
 by_cases k1:c≤57
 ·exact ((isDigit_1 c w (by omega) (by omega)).mono fun e w' ⟨h1,h2⟩=>⟨by rw [h1,show isD c=true by rw [Bool.eq_iff_iff];simp [isD];try omega],h2⟩)
 exact ((isDigit_2 c w (by omega)).mono fun e w' ⟨h1,h2⟩=>⟨by rw [h1,show isD c=false by rw [Bool.eq_iff_iff];simp [isD];try omega],h2⟩)
theorem isBlank_0 (c:Nat) (w:World) (h2:c≤8):Calls Tryz.prog 47 #[.int .u8 (c:Int)] w fun e w'=>e=.returned (.bool false)∧w'=w:=by
 go_enter Tryz.func47,Tryz.ntmps47
 go_wp2
 go_ret
 exact ⟨by first|rfl|(simp;done)|(simp;omega),by first|rfl|trivial⟩
theorem isBlank_1 (c:Nat) (w:World) (h1:9≤c) (h2:c≤13):Calls Tryz.prog 47 #[.int .u8 (c:Int)] w fun e w'=>e=.returned (.bool true)∧w'=w:=by
 go_enter Tryz.func47,Tryz.ntmps47
 go_wp2
 go_ret
 exact ⟨by first|rfl|(simp;done)|(simp;omega),by first|rfl|trivial⟩
theorem isBlank_2 (c:Nat) (w:World) (h1:14≤c) (h2:c≤31):Calls Tryz.prog 47 #[.int .u8 (c:Int)] w fun e w'=>e=.returned (.bool false)∧w'=w:=by
 go_enter Tryz.func47,Tryz.ntmps47
 go_wp2
 go_ret
 exact ⟨by first|rfl|(simp;done)|(simp;omega),by first|rfl|trivial⟩
theorem isBlank_3 (c:Nat) (w:World) (h1:c=32):Calls Tryz.prog 47 #[.int .u8 (c:Int)] w fun e w'=>e=.returned (.bool true)∧w'=w:=by
 subst h1
 go_enter Tryz.func47,Tryz.ntmps47
 go_wp2
 go_ret
 exact ⟨by first|rfl|(simp;done)|(simp;omega),by first|rfl|trivial⟩
theorem isBlank_4 (c:Nat) (w:World) (h1:33≤c):Calls Tryz.prog 47 #[.int .u8 (c:Int)] w fun e w'=>e=.returned (.bool false)∧w'=w:=by
 go_enter Tryz.func47,Tryz.ntmps47
 go_wp2
 go_ret
 exact ⟨by first|rfl|(simp;done)|(simp;omega),by first|rfl|trivial⟩
theorem isBlank_any (c:Nat) (w:World):Calls Tryz.prog 47 #[.int .u8 (c:Int)] w fun e w'=>e=.returned (.bool (isB c))∧w'=w:=by
 by_cases k0:c≤8
 ·exact ((isBlank_0 c w (by omega)).mono fun e w' ⟨h1,h2⟩=>⟨by rw [h1,show isB c=false by rw [Bool.eq_iff_iff];simp [isB];try omega],h2⟩)
 by_cases k1:c≤13
 ·exact ((isBlank_1 c w (by omega) (by omega)).mono fun e w' ⟨h1,h2⟩=>⟨by rw [h1,show isB c=true by rw [Bool.eq_iff_iff];simp [isB];try omega],h2⟩)
 by_cases k2:c≤31
 ·exact ((isBlank_2 c w (by omega) (by omega)).mono fun e w' ⟨h1,h2⟩=>⟨by rw [h1,show isB c=false by rw [Bool.eq_iff_iff];simp [isB];try omega],h2⟩)
 by_cases k3:c≤32
 ·exact ((isBlank_3 c w (by omega)).mono fun e w' ⟨h1,h2⟩=>⟨by rw [h1,show isB c=true by rw [Bool.eq_iff_iff];simp [isB];try omega],h2⟩)
 exact ((isBlank_4 c w (by omega)).mono fun e w' ⟨h1,h2⟩=>⟨by rw [h1,show isB c=false by rw [Bool.eq_iff_iff];simp [isB];try omega],h2⟩)
end
section
open Go.RowKit Mem
open Sy (g g_lt)
def DRel (bs:List UInt8) (k:Nat) (w:World) (i v:Value) (wr:World):Prop:=
 ∃ m num:Nat,i=.int .i64 m∧v=.int .i64 num∧m≤bs.length∧num≤1001∧decF bs k 0=decF bs m num∧wr=w
theorem step_min {num c:Nat} (h1:48≤c):((min (10*num+(c-48)) 1001:Nat):Int)=min (10*(num:Int)+((c:Int)-48)) 1001:=by omega
theorem decimal_any (bs:List UInt8) (A:Option Addr) (cap k:Nat) (w:World) (hP:PV bs A cap w) (hk:k≤bs.length) :
  Calls Tryz.prog 80 #[.slice A bs.length cap,.int .i64 (k:Int)] w fun e w'=>e=.returned (.tuple #[.int .i64 ((decF bs k 0).1:Int),.int .i64 ((decF bs k 0).2:Int)])∧w'=w:=by
 have HP:=hide hP
 have hroom:=hP.room
 have htop:=hP.top
 clear hP
 go_enter Tryz.func80,Tryz.ntmps80
 go_wp2
 go_loopw [1,6] (fun i v wr=>DRel bs k w i v wr) (fun i _ _=>bs.length-(intOf i).toNat)
 case atStart=>exact ⟨k,0,rfl,rfl,hk,by omega,rfl,rfl⟩
 case round=>
  obtain ⟨m,num,rfl,rfl,hm,hnum,hF,rfl⟩:=hrel
  go_hideQ
  have HF:=hide hF
  have HM:=hide hnum
  clear hF hnum
  by_cases hin:m<bs.length
  ·have hin':(m:Int)<(bs.length:Int):=by omega
   obtain ⟨b,off,rfl,hb,hc⟩:=HP.1.cell hin
   have c1:=hc m hin
   have h256:(g bs m:Int)<256:=by have:=g_lt bs m;omega
   have HX:=hide (isDigit_any (g bs m) wr)
   have HO:=hide (show isD (g bs m)=true→decF bs k 0=decF bs (m+1) (min (10*num+(g bs m-48)) 1001) from fun h=>by rw [HF.1,decF_step num h])
   have HN:=hide (show isD (g bs m)=false→decF bs k 0=(num,m) from fun h=>by rw [HF.1,decF_stop num h])
   generalize hx:g bs m=x at *
   clear hc HF hx
   obtain ⟨p,hp⟩:∃ p,isD x=p:=⟨_,rfl⟩
   rw [hp] at HX HO HN
   cases p with
   | true=>
    have hD:=isD_iff.1 hp
    have hx0:48≤(x:Int):=by omega
    have hx1:(x:Int)≤57:=by omega
    have hR:DRel bs k wr (.int .i64 ((m:Int)+1)) (.int .i64 (min (10*(num:Int)+((x:Int)-48)) 1001)) wr:=
     ⟨m+1,min (10*num+(x-48)) 1001,by push_cast;rfl,by rw [step_min hD.1],by omega,Nat.min_le_right _ _,HO.1 rfl,rfl⟩
    have hnum:=HM.1
    have hq0:0≤(num:Int):=by omega
    have hq1:(num:Int)≤1001:=by omega
    have HR:=hide hR
    clear hR hD hp HO HN HM hnum
    by_cases hle:10*(num:Int)+((x:Int)-48)≤1001
    ·rw [Int.min_eq_left hle] at HR
     go_wp2_with fail
     refine HX.1.mono ?_
     rintro e w1 ⟨rfl,rfl⟩
     go_wp2
     have hR:=HR.1
     first|exact ⟨hR,by simp [intOf];omega⟩|skip
     all_goals go_roundw
     all_goals first|exact hR|(simp [intOf];omega)
    ·have hgt:1001<10*(num:Int)+((x:Int)-48):=by omega
     rw [Int.min_eq_right (by omega)] at HR
     clear hle
     go_wp2_with fail
     refine HX.1.mono ?_
     rintro e w1 ⟨rfl,rfl⟩
     go_wp2
     have hR:=HR.1
     first|exact ⟨hR,by simp [intOf];omega⟩|skip
     all_goals go_roundw
     all_goals first|exact hR|(simp [intOf];omega)
   | false=>
    have HR:=hide (HN.1 rfl)
    clear hp HO HN HM
    go_wp2_with fail
    refine HX.1.mono ?_
    rintro e w1 ⟨rfl,rfl⟩
    go_wp2
    go_ret2
    exact ⟨by rw [HR.1];rfl,rfl⟩
  ·have hin':(bs.length:Int)≤(m:Int):=by omega
   have HR:=hide (show decF bs k 0=(num,m) by rw [HF.1,decF_stop num (by rw [g_out (by omega)];rfl)])
   clear HF HM
   go_wp2
   go_ret2
   exact ⟨by rw [HR.1];rfl,rfl⟩
end
end Go.Proofs.YtmlbklcmblofkaaGreatDoor.Sc
