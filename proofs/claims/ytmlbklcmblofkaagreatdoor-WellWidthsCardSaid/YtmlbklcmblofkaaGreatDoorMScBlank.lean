/-
  scan.Blank and remarkEnd, walked; bytes.IndexByte by the library's contract, laid here.
-/
import Derived.Shelf.Bytes.SlIndexAt
import Derived.Lib.IndexLaws
import Derived.Ground.NamesProg
import Derived.Shelf.Lay
import Derived.Shelf.SlGeneric
import Derived.Test.YtmlbklcmblofkaaGreatDoorMScB
set_option linter.unusedSimpArgs false
set_option linter.unusedVariables false
set_option maxHeartbeats 2000000
set_option maxRecDepth 100000
namespace Go.Proofs
shelf_lay_g Lays.n187 Nm 187 at Tryz 62 as Tryz.idxByte
end Go.Proofs
namespace Go.Proofs.YtmlbklcmblofkaaGreatDoor.Sc
open Go.RowKit Go.Shelf Mem
open Sy (g g_of)
variable {bs:List UInt8} {k:Nat}
theorem bytesOf_nums (l:List UInt8):Lib.bytesOf (l.map fun c=>(c.toNat:Int))=l:=by
 unfold Lib.bytesOf
 rw [List.map_map]
 conv=>rhs;rw [← List.map_id l]
 apply List.map_congr_left
 intro c _
 simp
theorem drop_num {i:Nat} (h:i<bs.length-k):((bs.drop k).map fun c=>(c.toNat:Int)).getD i 0=(g bs (k+i):Int):=by
 have hx:k+i<bs.length:=by omega
 rw [List.getD_eq_getElem?_getD,List.getElem?_map,List.getElem?_drop,List.getElem?_eq_getElem hx]
 simp [g_of (List.getElem?_eq_getElem hx)]
def idxP (bs:List UInt8) (k:Nat) (c:UInt8):Int:=Lib.indexByte (bs.drop k) c
theorem idx_any (bs:List UInt8) (b off k c' n:Nat) (w:World) (hn:n=bs.length-k) (h:∀ i,i<n→w.cell? ⟨b,off+i,none⟩=some (.int .u8 (g bs (k+i):Int))) :
  Calls Tryz.prog 62 #[.slice (some ⟨b,off,none⟩) n c',.int .u8 10] w fun e w'=>e=.returned (.int .i64 (idxP bs k 10))∧w'=w:=by
 have hcon:=Any.bytes_IndexByte_at Tryz.idxByte ⟨b,off,none⟩ n c' ((bs.drop k).map fun c=>(c.toNat:Int)) 10 w (by rw [List.length_map,List.length_drop,hn]) (fun i hi=>by
  rw [Go.WideShapes.add_plain,drop_num (by omega)];exact h i hi)
 rw [bytesOf_nums] at hcon
 exact hcon
theorem idxP_none {c:UInt8} (h:idxP bs k c=-1):∀ j,k≤j→j<bs.length→g bs j≠c.toNat:=by
 intro j hj hl
 have h1:=Lib.indexByte_none h (j-k)
 rw [List.getElem?_drop,show k+(j-k)=j by omega,List.getElem?_eq_getElem hl] at h1
 rw [g_of (List.getElem?_eq_getElem hl)]
 intro e
 exact h1 (by rw [UInt8.toNat_inj.1 e])
theorem idxP_some {o:Nat} {c:UInt8} (h:idxP bs k c=o):k+o<bs.length∧g bs (k+o)=c.toNat∧∀ j,k≤j→j<k+o→g bs j≠c.toNat:=by
 obtain ⟨h1,h2⟩:=Lib.indexByte_some h
 rw [List.getElem?_drop] at h1
 obtain ⟨hl,he⟩:=List.getElem?_eq_some_iff.1 h1
 refine ⟨hl,by rw [g_of h1],fun j hj hjo e=>?_⟩
 have hl2:j<bs.length:=by omega
 refine h2 (j-k) (by omega) ?_
 rw [List.getElem?_drop,show k+(j-k)=j by omega,List.getElem?_eq_getElem hl2]
 rw [g_of (List.getElem?_eq_getElem hl2)] at e
 rw [UInt8.toNat_inj.1 e]
theorem idxP_cases (bs:List UInt8) (k:Nat) (c:UInt8):idxP bs k c=-1∨∃ o:Nat,idxP bs k c=o:=by
 have:=Lib.indexByte_ge (bs.drop k) c
 by_cases h:idxP bs k c=-1
 ·exact .inl h
 ·exact .inr ⟨(idxP bs k c).toNat,by unfold idxP at *;omega⟩
def remP (bs:List UInt8) (k:Nat):Nat:=if idxP bs k 10<0 then bs.length else k+(idxP bs k 10).toNat
theorem remP_spec (h:g bs k=35):k<remP bs k∧remP bs k≤bs.length∧blk bs k false=blk bs (remP bs k) false:=by
 have hk:=g_in (bs:=bs) (k:=k) (by omega)
 unfold remP
 rcases idxP_cases bs k 10 with h1|⟨o,h1⟩
 ·rw [h1,if_pos (by omega)]
  have hn:=idxP_none h1
  have:=blk_remark (bs:=bs) (k:=k) (n:=bs.length-k) h (by omega) (by omega) (fun j h1 h2=>hn j h1 (by omega)) (.inl (by omega))
  rw [show k+(bs.length-k)=bs.length by omega] at this
  exact ⟨hk,Nat.le_refl _,this⟩
 ·rw [h1,if_neg (by omega),Int.toNat_natCast]
  obtain ⟨h2,h3,h4⟩:=idxP_some h1
  have ho:o≠0:=by
   rintro rfl
   rw [Nat.add_zero] at h3
   rw [h] at h3
   cases h3
  exact ⟨by omega,by omega,blk_remark h (by omega) (by omega) h4 (.inr h3)⟩
theorem remark_any (bs:List UInt8) (A:Option Addr) (cap k:Nat) (w:World) (hP:PV bs A cap w) (hk:k<bs.length) :
  Calls Tryz.prog 48 #[.slice A bs.length cap,.int .i64 (k:Int)] w fun e w'=>e=.returned (.int .i64 (remP bs k:Int))∧w'=w:=by
 obtain ⟨b,off,rfl,hb,hc⟩:=hP.cell hk
 have hroom:=hP.room
 have htop:=hP.top
 have CI:=hide (fun c'=>idx_any bs b (off+k) k c' (bs.length-k) w rfl (fun i hi=>by rw [Nat.add_assoc];exact hc (k+i) (by omega)))
 have hki:(k:Int)≤(bs.length:Int):=by omega
 have hkc:(k:Int)≤(cap:Int):=by omega
 have hne:¬ cap=k:=by omega
 have HE:=hide (show remP bs k=if idxP bs k 10<0 then bs.length else k+(idxP bs k 10).toNat from rfl)
 have HI:=hide (idxP_cases bs k 10)
 have HS:=hide (fun o (h:idxP bs k 10=(o:Nat))=>(idxP_some h).1)
 generalize idxP bs k 10=z at *
 clear hc hP
 rcases HI.1 with rfl|⟨o,rfl⟩
 ·have HR:=hide (show bs.length=remP bs k by rw [HE.1,if_pos (by omega)])
  clear HE HI HS
  go_enter Tryz.func48,Tryz.ntmps48
  go_wp2_with fail
  refine (CI.1 _).mono ?_
  rintro e w1 ⟨rfl,rfl⟩
  go_wp2
  go_ret
  exact ⟨by rw [HR.1];rfl,rfl⟩
 ·have hl:=HS.1 o rfl
  have hli:(k:Int)+(o:Int)≤(bs.length:Int):=by omega
  have HR:=hide (show (k:Int)+(o:Int)=(remP bs k:Int) by rw [HE.1,if_neg (by omega)];simp)
  clear HE HI HS hl
  go_enter Tryz.func48,Tryz.ntmps48
  go_wp2_with fail
  refine (CI.1 _).mono ?_
  rintro e w1 ⟨rfl,rfl⟩
  go_wp2
  go_ret
  exact ⟨by rw [HR.1];rfl,rfl⟩
def BRel (bs:List UInt8) (k:Nat) (w:World) (i:Value) (wr:World):Prop:=∃ m:Nat,i=.int .i64 m∧(m:Int)≤9223372036854775807∧blk bs k false=blk bs m false∧wr=w
theorem blank_from (bs:List UInt8) (A:Option Addr) (cap k:Nat) (i:Int) (w:World) (hP:PV bs A cap w) (hi:(k:Int)=max i 0) (hk:(k:Int)≤9223372036854775807) :
  Calls Tryz.prog 42 #[.slice A bs.length cap,.int .i64 i] w fun e w'=>e=.returned (.int .i64 (blk bs k false:Int))∧w'=w:=by
 have HP:=hide hP
 have hroom:=hP.room
 have htop:=hP.top
 have hm:max i 0=(k:Int):=hi.symm
 clear hP hi
 go_enter Tryz.func42,Tryz.ntmps42
 go_wp2_with fail
 all_goals
  go_loopw [1] (fun i wr=>BRel bs k w i wr) (fun i _=>bs.length-(intOf i).toNat)
  case atStart=>exact ⟨k,by first|rfl|(congr 1;omega),hk,rfl,rfl⟩
  case round=>
   obtain ⟨m,rfl,hmb,hF,rfl⟩:=hrel
   go_hideQ
   have HF:=hide hF
   clear hF
   by_cases hin:m<bs.length
   ·have hin':(m:Int)<(bs.length:Int):=by omega
    obtain ⟨b,off,rfl,hb,hc⟩:=HP.1.cell hin
    have c1:=hc m hin
    have CB:=hide (isBlank_any (g bs m) wr)
    have CR:=hide (remark_any bs (some ⟨b,off,none⟩) cap m wr HP.1 hin)
    have HB:=hide (fun h=>HF.1.trans (blk_blank (bs:=bs) (k:=m) h))
    have HS:=hide (fun h1 h2=>HF.1.trans (blk_stop (bs:=bs) (k:=m) h1 h2))
    have HM:=hide (fun h=>remP_spec (bs:=bs) (k:=m) h)
    generalize hx:g bs m=x at *
    clear hc hx
    cases hb1:isB x with
    | true=>
     rw [hb1] at CB
     have HR:=hide (HB.1 hb1)
     clear hb1 HB HS HM CR
     go_wp2_with fail
     refine CB.1.mono ?_
     rintro e w1 ⟨rfl,rfl⟩
     go_wp2
     have hR:BRel bs k w1 (.int .i64 ((m:Int)+1)) w1:=⟨m+1,by push_cast;rfl,by omega,HR.1,rfl⟩
     first|exact ⟨hR,by simp [intOf];omega⟩|go_roundw
     all_goals first|exact hR|(simp [intOf];omega)
    | false=>
     rw [hb1] at CB
     by_cases h35:x=35
     ·obtain ⟨hm1,hm2,hm3⟩:=HM.1 h35
      subst h35
      have HR:=hide (HF.1.trans hm3)
      have hr2:(remP bs m:Int)≤(bs.length:Int):=by omega
      generalize remP bs m=r at *
      clear hb1 HB HS HM hm3
      go_wp2_with fail
      refine CB.1.mono ?_
      rintro e w1 ⟨rfl,rfl⟩
      go_wp2_with fail
      refine CR.1.mono ?_
      rintro e w1 ⟨rfl,rfl⟩
      go_wp2
      have hR:BRel bs k w1 (.int .i64 (r:Int)) w1:=⟨r,rfl,by omega,HR.1,rfl⟩
      first|exact ⟨hR,by simp [intOf];omega⟩|go_roundw
      all_goals first|exact hR|(simp [intOf];omega)
     ·have HR:=hide (HS.1 h35 hb1)
      have e35:((x:Int)==35)=false:=by rw [beq_eq_false_iff_ne];omega
      clear hb1 HB HS HM CR h35
      go_wp2_with fail
      refine CB.1.mono ?_
      rintro e w1 ⟨rfl,rfl⟩
      go_wp2
      go_ret
      exact ⟨by rw [HR.1];rfl,rfl⟩
   ·have hin':(bs.length:Int)≤(m:Int):=by omega
    have HR:=hide (HF.1.trans (blk_end (bs:=bs) (k:=m) false (by omega)))
    go_wp2
    go_ret
    exact ⟨by rw [HR.1];rfl,rfl⟩
theorem pblank_any (bs:List UInt8) (A:Option Addr) (cap:Nat) (i:Int) (w:World) (hP:PV bs A cap w) (hi:i≤9223372036854775807) :
  Calls Tryz.prog 42 #[.slice A bs.length cap,.int .i64 i] w fun e w'=>e=.returned (.int .i64 (blz bs i))∧w'=w:=by
 unfold blz
 by_cases h:0≤i
 ·rw [if_pos h]
  exact blank_from bs A cap i.toNat i w hP (by omega) (by omega)
 ·rw [if_neg h]
  exact blank_from bs A cap 0 i w hP (by omega) (by omega)
end Go.Proofs.YtmlbklcmblofkaaGreatDoor.Sc
