/-
  scan.Class, walked: the class that stands at a place, or its first error.
-/
import Derived.Shelf.Bytes.SlCut
import Derived.Lib.SlBytesConst
import Derived.Ground.SlbtProg
import Derived.Test.YtmlbklcmblofkaaGreatDoorMScD
import Derived.Test.YtmlbklcmblofkaaGreatDoorMScBlank
import Derived.Deep.RegionHeld3
import Derived.Test.YtmlbklcmblofkaaGreatDoorMFoC
set_option linter.unusedSimpArgs false
set_option linter.unusedVariables false
namespace Go.Proofs
shelf_lay SlLaysT.n4 Slbt 4 at Tryz as Tryz.cutBytes
end Go.Proofs
namespace Go.Proofs.YtmlbklcmblofkaaGreatDoor.Sc
section
open Go.RowKit Mem
attribute [local go_sem] build_i0 build_i3 build_in build_is Rs.run_not_true Rs.run_not_false
open Go.Shelf
def tailA (b off cap m:Nat):Option Addr:=if cap=m then some ⟨b,off,none⟩ else some ⟨b,off+m,none⟩
theorem tail_str {bs:List UInt8} {b off cap m o:Nat} {w:World} (hP:PV bs (some ⟨b,off,none⟩) cap w) (hm:m+o≤bs.length) (c:Nat) :
  (convert 43 9 (.slice (tailA b off cap m) o c)).run Tryz.prog w=.ok (.string ⟨((bs.drop m).take o).toArray⟩) w:=by
 have hroom:=hP.room
 by_cases h0:o=0
 ·subst h0
  refine Str.conv_str _ w.heap.size 0 c _ w (by simp) ⟨by simp,fun h=>absurd h (by omega)⟩
 ·unfold tailA
  rw [if_neg (by omega)]
  have:=sub_str (k:=m) (m:=m+o) (j:=o) hP rfl hm (by omega) c
  rwa [show m+o-m=o by omega] at this
end
section
open Sy (g isS)
open Rs (R notL mk)
open Cl (nameL isName listOf isOf)
variable {bs:List UInt8} {k:Nat}
def InC (bs:List UInt8) (k:Nat):It→Prop
 | .err e=>e≠0∧e≠10
 | .lit n q=>k<q∧q≤bs.length∧n≤1114367
 | .cls c q=>k<q∧q≤bs.length∧isOf c=true∧c<128
 | .nam s t q=>k<q∧q≤bs.length∧isName s=true
 | _=>False
theorem InC.mono {j:Nat} {x:It} (h:InC bs k x) (hj:j≤k):InC bs j x:=by
 cases x<;>simp only [InC] at h ⊢ <;> first|exact h|exact ⟨by omega,h.2⟩
theorem notL_len (l:List R):(notL l).length≤l.length+1:=by
 have h1:=Cl.notF_short (mk l) 0
 have h2:=Rs.mk_len l
 unfold notL
 omega
theorem set_len (x:It):x.set.length≤6:=by
 cases x with
 | cls c q=>have:=(Cl.listOf_len c).1;show (listOf c).length≤6;omega
 | nam s t q=>
  have h1:=(Cl.nameL_len s).1
  have h2:=notL_len (nameL s)
  show (if t then notL (nameL s) else nameL s).length≤6
  cases t
  ·simp only [Bool.false_eq_true,if_false];omega
  ·simp only [if_true];omega
 | _=>exact Nat.zero_le _
theorem ctl_top {c n:Nat} (h:ctl c=some n):n≤27:=by
 unfold ctl at h
 repeat' split at h
 all_goals first|(injection h with h;omega)|cases h
theorem code_in (hk:k≤bs.length):InC bs k (codeP bs k)∨∃ e,codeP bs k=.err e∧e≠0∧e≠10:=by
 unfold codeP
 split
 ·rename_i h
  have hl:=g_in (bs:=bs) (k:=k) (by omega)
  have hi:=hexF_in bs 6 (k+1) 0
  generalize (hexF bs (k+1) 6 0).1=n at *
  generalize (hexF bs (k+1) 6 0).2=m at *
  split
  ·exact .inr ⟨32,rfl,by omega,by omega⟩
  ·rename_i h2
   have h3:¬ m=0∧g bs (k+1+m)=125∧isS (n:Int)=true:=by
    refine ⟨fun e=>h2 (.inl e),?_,?_⟩
    ·rcases Nat.decEq (g bs (k+1+m)) 125 with e|e
     ·exact absurd (.inr (.inl e)) h2
     ·exact e
    ·cases e:isS (n:Int) with
     | true=>rfl
     | false=>exact absurd (.inr (.inr e)) h2
   have h4:=g_in (bs:=bs) (k:=k+1+m) (by omega)
   have h5:=h3.2.2
   unfold isS at h5
   rw [decide_eq_true_eq] at h5
   exact .inl ⟨by omega,by omega,by omega⟩
 ·have hi:=hexF_in bs 2 k 0
  have ht:=hexF_top bs 2 k 0
  generalize (hexF bs k 2 0).1=n at *
  generalize (hexF bs k 2 0).2=m at *
  split
  ·exact .inr ⟨32,rfl,by omega,by omega⟩
  ·exact .inl ⟨by omega,by omega,by omega⟩
theorem com_in (hk:k≤bs.length):InC bs k (comP bs k):=by
 unfold comP
 split
 ·exact ⟨by omega,by omega⟩
 ·rename_i h0
  have hl:=sym_like (bs:=bs) (k:=k) (by omega)
  split
  ·rcases code_in (bs:=bs) (k:=k+1) (by omega) with h|⟨e,h,h2⟩
   ·exact h.mono (by omega)
   ·rw [h];exact h2
  ·split
   ·rename_i n hn
    have:=ctl_low hn
    have h1:=hl.2.2.2.2.1 this
    have h2:=hl.2.2.2.2.2
    have:=ctl_top hn
    exact ⟨by omega,by omega,by omega⟩
   ·split
    ·rename_i h
     refine ⟨by omega,by omega,h,?_⟩
     rcases Nat.lt_or_ge (g bs k) 128 with h1|h1
     ·exact h1
     ·rw [isOf_high h1] at h;cases h
    ·split
     ·exact ⟨by omega,by omega⟩
     ·have:=sym_top bs k
      exact ⟨by omega,by omega,this⟩
theorem named_in:InC bs k (namedP bs k):=by
 unfold namedP
 have hnk:k≤nkP bs k:=by unfold nkP;split<;>omega
 split
 ·exact ⟨by omega,by omega⟩
 ·rename_i j hj
  have:=fnd2_in _ hj
  split
  ·rename_i h
   exact ⟨by omega,by omega,h⟩
  ·exact ⟨by omega,by omega⟩
theorem piece_in (hk:k<bs.length):InC bs k (pieceP bs k):=by
 unfold pieceP
 split
 ·unfold escP
  rw [if_pos rfl]
  split
  ·rename_i h
   have:=g_in (bs:=bs) (k:=k+1) (by omega)
   exact ⟨by omega,by omega,by omega⟩
  ·exact (com_in (bs:=bs) (k:=k+1) (by omega)).mono (by omega)
 ·split
  ·exact named_in.mono (by omega)
  ·have:=sym_snd hk
   have:=sym_top bs k
   exact ⟨by omega,by omega,this⟩
theorem rg_in {q:Nat} (h:rgP bs q=true):g bs q=45∧q+1<bs.length∧g bs (q+1)≠93:=by
 unfold rgP at h
 simpa using h
theorem part_in {bs:List UInt8} {k:Nat} (hk:k<bs.length):match partP bs k with
  | .error (e,pl)=>e≠0∧e≠10∧pl≤bs.length
  | .ok (p,q)=>k<q∧q≤bs.length∧(partL p).length≤6:=by
 unfold partP
 have h:=piece_in hk
 cases hx:pieceP bs k with
 | err e=>rw [hx] at h;exact ⟨h.1,h.2,by omega⟩
 | lit n q=>
  rw [hx] at h
  obtain ⟨h1,h2,h3⟩:=h
  simp only []
  cases hr:rgP bs q with
  | false=>exact ⟨h1,h2,by simp [partL]⟩
  | true=>
   obtain ⟨-,h4,-⟩:=rg_in hr
   simp only [if_true]
   have h5:=piece_in h4
   cases hy:pieceP bs (q+1) with
   | err e=>rw [hy] at h5;exact ⟨h5.1,h5.2,by omega⟩
   | lit m q2=>
    rw [hy] at h5
    obtain ⟨h6,h7,h8⟩:=h5
    simp only []
    rcases Nat.lt_or_ge m n with hmn|hmn
    ·rw [if_pos hmn];exact ⟨by omega,by omega,by omega⟩
    ·rw [if_neg (by omega)];exact ⟨by omega,h7,by simp [partL]⟩
   | _=>exact ⟨by omega,by omega,by omega⟩
 | cls c q=>rw [hx] at h;exact ⟨h.1,h.2.1,set_len (.cls c q)⟩
 | nam s t q=>rw [hx] at h;exact ⟨h.1,h.2.1,set_len (.nam s t q)⟩
 | hld n q=>rw [hx] at h;exact h.elim
 | ref n q=>rw [hx] at h;exact h.elim
 | key s q=>rw [hx] at h;exact h.elim
end
section
open Go.RowKit Mem
open Sy (g)
attribute [local go_sem] build_i0 build_i3 build_in build_is Rs.run_not_true Rs.run_not_false
variable {bs:List UInt8} {k f m:Nat} {acc:List Part}
theorem clsF_end (h:bs.length≤m):clsF bs k f m acc=.error (33,k):=by rw [clsF,dif_neg (by omega)]
theorem clsF_stop (h:m<bs.length) (h1:m≠f) (h2:g bs m=93):clsF bs k f m acc=.ok (acc,m+1):=by rw [clsF,dif_pos h,if_pos ⟨h1,h2⟩]
theorem clsF_err {e:Nat×Nat} (h:m<bs.length) (h1:¬ (m≠f∧g bs m=93)) (h2:partP bs m=.error e):clsF bs k f m acc=.error e:=by rw [clsF,dif_pos h,if_neg h1,h2]
theorem clsF_on {q:Nat} {p:Part} (h:m<bs.length) (h1:¬ (m≠f∧g bs m=93)) (h2:partP bs m=.ok (p,q)) (hq:m<q):clsF bs k f m acc=clsF bs k f q (acc++[p]):=by
 rw [clsF,dif_pos h,if_neg h1,h2]
 simp only []
 rw [dif_pos hq]
end
end Go.Proofs.YtmlbklcmblofkaaGreatDoor.Sc
