/-
  Plain bytes and lists, no program: what a backslash makes, and classes.
-/
import Derived.Lib.DecodeNEq
import Derived.Laws.BytesArg
import Derived.Test.YtmlbklcmblofkaaGreatDoorMPuA
set_option linter.unusedSimpArgs false
set_option linter.unusedVariables false
namespace Go.Proofs.YtmlbklcmblofkaaGreatDoor.Sy
open Go.Lib
def g (bs:List UInt8) (k:Nat):Nat:=(bs[k]?.getD 0).toNat
theorem g_lt (bs:List UInt8) (k:Nat):g bs k<256:=UInt8.toNat_lt _
theorem g_of {bs:List UInt8} {k:Nat} {x:UInt8} (h:bs[k]?=some x):g bs k=x.toNat:=by simp [g,h]
theorem g_drop (bs:List UInt8) (j k:Nat):g (bs.drop j) k=g bs (j+k):=by simp [g,List.getElem?_drop]
abbrev dec:=Lib.decodeN
def sy (n a b c d:Nat):Nat×Nat:=if (dec n a b c d).1=65533∧(dec n a b c d).2=1 then (1114112+a,1) else dec n a b c d
theorem dec_size (n a b c d:Nat) (hn:1≤n):1≤(dec n a b c d).2∧(dec n a b c d).2≤4∧(dec n a b c d).2≤n:=by
 unfold dec decodeN
 repeat' split
 all_goals (simp only [];omega)
theorem dec_top (n a b c d:Nat):(dec n a b c d).1≤1114111:=by
 unfold dec decodeN
 repeat' split
 all_goals (simp only [];omega)
theorem sy_size (n a b c d:Nat) (hn:1≤n):1≤(sy n a b c d).2∧(sy n a b c d).2≤4∧(sy n a b c d).2≤n:=by
 unfold sy
 split
 ·exact ⟨Nat.le_refl _,by omega,hn⟩
 ·exact dec_size n a b c d hn
theorem sy_top (n a b c d:Nat) (ha:a<256):(sy n a b c d).1≤1114367:=by
 unfold sy
 split
 ·simp only [];omega
 ·have:=dec_top n a b c d;omega
def at_ (bs:List UInt8) (k:Nat):Nat×Nat:=sy (bs.length-k) (g bs k) (g bs (k+1)) (g bs (k+2)) (g bs (k+3))
theorem at_size (bs:List UInt8) {k:Nat} (hk:k<bs.length):1≤(at_ bs k).2∧(at_ bs k).2≤4∧k+(at_ bs k).2≤bs.length:=by
 have:=sy_size (bs.length-k) (g bs k) (g bs (k+1)) (g bs (k+2)) (g bs (k+3)) (by omega)
 unfold at_
 omega
theorem at_top (bs:List UInt8) (k:Nat):(at_ bs k).1≤1114367:=sy_top _ _ _ _ _ (g_lt _ _)
def isS (x:Int):Bool:=decide ((0≤x∧x≤55295)∨(57344≤x∧x≤1114111)∨(1114240≤x∧x≤1114367))
end Go.Proofs.YtmlbklcmblofkaaGreatDoor.Sy
namespace Go.Proofs.YtmlbklcmblofkaaGreatDoor.Sc
section
open Sy (g at_ at_size)
variable {bs:List UInt8} {k c:Nat}
theorem g_in (h:g bs k≠0):k<bs.length:=by
 rcases Nat.lt_or_ge k bs.length with h1|h1
 ·exact h1
 ·exact absurd (by simp [g,List.getElem?_eq_none h1]) h
theorem g_out (h:bs.length≤k):g bs k=0:=by simp [g,List.getElem?_eq_none h]
def gz (bs:List UInt8) (i:Int):Nat:=if 0≤i then g bs i.toNat else 0
theorem gz_nat (bs:List UInt8) (k:Nat):gz bs (k:Int)=g bs k:=by simp [gz]
theorem gz_out {i:Int} (h:i<0∨(bs.length:Int)≤i):gz bs i=0:=by
 unfold gz
 by_cases h0:0≤i
 ·rw [if_pos h0];exact g_out (by omega)
 ·rw [if_neg h0]
def sym (bs:List UInt8) (k:Nat):Nat×Nat:=if k<bs.length then at_ bs k else (0,0)
def symz (bs:List UInt8) (i:Int):Nat×Nat:=if 0≤i then sym bs i.toNat else (0,0)
theorem symz_nat (bs:List UInt8) (k:Nat):symz bs (k:Int)=sym bs k:=by simp [symz]
theorem sy_low (m a b c d:Nat) (hm:1≤m) (h:a<128):Sy.sy m a b c d=(a,1):=by
 have:Sy.dec m a b c d=(a,1):=by
  unfold Sy.dec Go.Lib.decodeN
  repeat' split
  all_goals first|omega|rfl|(simp only [Prod.mk.injEq];omega)
 unfold Sy.sy
 rw [this]
 simp only []
 rw [if_neg (by omega)]
theorem dec_high (m a b c d:Nat) (hm:1≤m) (h:128≤a):128≤(Sy.dec m a b c d).1:=by
 unfold Sy.dec Go.Lib.decodeN
 repeat' split
 all_goals (simp only [];omega)
theorem sy_high (m a b c d:Nat) (hm:1≤m) (h:128≤a):128≤(Sy.sy m a b c d).1:=by
 unfold Sy.sy
 split
 ·simp only [];omega
 ·exact dec_high m a b c d hm h
theorem sym_low (h:k<bs.length) (hl:g bs k<128):sym bs k=(g bs k,1):=by
 unfold sym;rw [if_pos h];exact sy_low _ _ _ _ _ (by omega) hl
theorem sym_high (hl:128≤g bs k):128≤(sym bs k).1:=by
 have h:=g_in (bs:=bs) (k:=k) (by omega)
 unfold sym;rw [if_pos h];exact sy_high _ _ _ _ _ (by omega) hl
theorem sym_out (h:bs.length≤k):sym bs k=(0,0):=by unfold sym;rw [if_neg (by omega)]
theorem sym_fst (hc:c<128) (h0:0<c):(sym bs k).1=c↔g bs k=c:=by
 rcases Nat.lt_or_ge k bs.length with h|h
 ·rcases Nat.lt_or_ge (g bs k) 128 with hl|hl
  ·rw [sym_low h hl]
  ·have:=sym_high (bs:=bs) (k:=k) hl
   constructor<;>intro<;>omega
 ·rw [sym_out h,g_out h]
theorem sym_snd (h:k<bs.length):1≤(sym bs k).2∧(sym bs k).2≤4∧k+(sym bs k).2≤bs.length:=by
 unfold sym;rw [if_pos h];exact at_size bs h
theorem sym_snd_one (h:g bs k≠0) (hl:g bs k<128):(sym bs k).2=1:=by rw [sym_low (g_in h) hl]
theorem sym_top (bs:List UInt8) (k:Nat):(sym bs k).1≤1114367:=by
 unfold sym;split
 ·exact Sy.at_top bs k
 ·simp
def isD (c:Nat):Bool:=decide (48≤c)&&decide (c≤57)
def isA (c:Nat):Bool:=decide (65≤c)&&decide (c≤90)||decide (97≤c)&&decide (c≤122)
def isW (c:Nat):Bool:=isA c||isD c||decide (c=95)
theorem isD_iff:isD c=true↔48≤c∧c≤57:=by simp [isD]
theorem isA_iff:isA c=true↔(65≤c∧c≤90)∨(97≤c∧c≤122):=by simp [isA]
def ctl (c:Nat):Option Nat:=if c=110 then some 10 else if c=116 then some 9 else if c=114 then some 13 else if c=102 then some 12 else if c=118 then some 11 else if c=97 then some 7 else if c=101 then some 27 else none
def hldO (c:Nat):Option Nat:=if c=65 then some 1 else if c=90 then some 2 else if c=122 then some 3 else if c=98 then some 6 else if c=66 then some 7 else none
def hexD (c:Nat):Option Nat:=if 48≤c∧c≤57 then some (c-48) else if 65≤c∧c≤70 then some (c-55) else if 97≤c∧c≤102 then some (c-87) else none
theorem hexD_lt {d:Nat} (h:hexD c=some d):d<16:=by
 unfold hexD at h
 repeat' split at h
 all_goals first|(injection h with h;omega)|cases h
theorem hexD_zero:hexD 0=none:=rfl
def hexF (bs:List UInt8):Nat→Nat→Nat→Nat×Nat
 | _,0,num=>(num,0)
 | k,m+1,num=>match hexD (g bs k) with
  | none=>(num,0)
  | some d=>((hexF bs (k+1) m (16*num+d)).1,(hexF bs (k+1) m (16*num+d)).2+1)
theorem hexF_zero (bs:List UInt8) (k num:Nat):hexF bs k 0 num=(num,0):=by unfold hexF;rfl
theorem hexF_none (m num:Nat) (h:hexD (g bs k)=none):hexF bs k m num=(num,0):=by
 cases m with
 | zero=>exact hexF_zero bs k num
 | succ m=>rw [hexF,h]
theorem hexF_some {d:Nat} (m num:Nat) (h:hexD (g bs k)=some d):hexF bs k (m+1) num=((hexF bs (k+1) m (16*num+d)).1,(hexF bs (k+1) m (16*num+d)).2+1):=by rw [hexF,h]
theorem hexF_in (bs:List UInt8):∀ (m k num:Nat),(hexF bs k m num).2=0∨k+(hexF bs k m num).2≤bs.length
 | 0,k,num=>by rw [hexF_zero];exact .inl rfl
 | m+1,k,num=>by
  cases h:hexD (g bs k) with
  | none=>rw [hexF_none _ _ h];exact .inl rfl
  | some d=>
   rw [hexF_some _ _ h]
   have h1:k<bs.length:=g_in fun e=>by rw [e,hexD_zero] at h;cases h
   have:=hexF_in bs m (k+1) (16*num+d)
   simp only [];omega
theorem hexF_top (bs:List UInt8):∀ (m k num:Nat),(hexF bs k m num).1<(num+1)*16 ^ m
 | 0,k,num=>by rw [hexF_zero];simp
 | m+1,k,num=>by
  cases h:hexD (g bs k) with
  | none=>
   rw [hexF_none _ _ h]
   show num<(num+1)*16 ^ (m+1)
   have:=Nat.le_mul_of_pos_right (num+1) (Nat.pow_pos (n:=m+1) (show 0<16 by omega))
   omega
  | some d=>
   rw [hexF_some _ _ h]
   have hd:=hexD_lt h
   have:=hexF_top bs m (k+1) (16*num+d)
   show (hexF bs (k+1) m (16*num+d)).1<_
   refine Nat.lt_of_lt_of_le this ?_
   rw [Nat.pow_succ,Nat.mul_comm (16 ^ m) 16,← Nat.mul_assoc]
   exact Nat.mul_le_mul_right _ (by omega)
def wl (bs:List UInt8) (k:Nat):Nat:=((bs.drop k).takeWhile fun c=>isW c.toNat).length
def nameP (bs:List UInt8) (k:Nat):Option (List UInt8×Nat):=
 if (isA (g bs k)||decide (g bs k=95))=true∧wl bs k≤32∧g bs (k+wl bs k)=62 then some ((bs.drop k).take (wl bs k),k+wl bs k+1) else none
def decF (bs:List UInt8) (k num:Nat):Nat×Nat:=if h:isD (g bs k)=true then decF bs (k+1) (min (10*num+(g bs k-48)) 1001) else (num,k)
termination_by bs.length-k
decreasing_by
 have:=g_in (bs:=bs) (k:=k) (fun e=>by rw [e] at h;cases h)
 omega
theorem decF_step (num:Nat) (h:isD (g bs k)=true):decF bs k num=decF bs (k+1) (min (10*num+(g bs k-48)) 1001):=by rw [decF,dif_pos h]
theorem decF_stop (num:Nat) (h:isD (g bs k)=false):decF bs k num=(num,k):=by rw [decF,dif_neg (by rw [h];simp)]
theorem decF_ge (bs:List UInt8) (k num:Nat):k≤(decF bs k num).2∧(num≤1001→(decF bs k num).1≤1001)∧((decF bs k num).2=k∨(decF bs k num).2≤bs.length):=by
 by_cases h:isD (g bs k)=true
 ·have h1:=g_in (bs:=bs) (k:=k) (fun e=>by rw [e] at h;cases h)
  rw [decF_step num h]
  have:=decF_ge bs (k+1) (min (10*num+(g bs k-48)) 1001)
  omega
 ·rw [decF_stop num (by simpa using h)]
  exact ⟨Nat.le_refl _,fun h=>h,.inl rfl⟩
termination_by bs.length-k
def mostP (bs:List UInt8) (num k:Nat):Int×Nat:=
 if g bs k=44 then ((if (decF bs (k+1) 0).2=k+1 then -1 else ((decF bs (k+1) 0).1:Int)),(decF bs (k+1) 0).2) else ((num:Int),k)
def bracesP (bs:List UInt8) (k:Nat):Option (Nat×Int×Nat):=
 if (decF bs k 0).2=k then none
 else if g bs (mostP bs (decF bs k 0).1 (decF bs k 0).2).2=125 then some ((decF bs k 0).1,(mostP bs (decF bs k 0).1 (decF bs k 0).2).1,(mostP bs (decF bs k 0).1 (decF bs k 0).2).2+1) else none
def countsP (bs:List UInt8) (k:Nat):Option (Nat×Int×Nat):=
 if g bs k=42 then some (0,-1,k+1) else if g bs k=43 then some (1,-1,k+1) else if g bs k=63 then some (0,1,k+1) else if g bs k=123 then bracesP bs (k+1) else none
def okC (lo:Nat) (hi:Int):Bool:=decide (lo≤1000)&&(decide (hi=-1)||(decide (max 1 (lo:Int)≤hi)&&decide (hi≤1000)))
def modeP (bs:List UInt8) (k:Nat):Nat:=if g bs k=63 then 1 else if g bs k=43 then 2 else 0
structure Ct where
 lo:Nat
 hi:Int
 mode:Nat
 to:Nat
 is:Bool
 e:Nat
def cntP (bs:List UInt8) (k:Nat):Ct:=match countsP bs k with
 | none=>⟨0,0,0,0,false,0⟩
 | some (lo,hi,to)=>if okC lo hi then ⟨lo,hi,modeP bs to,to+(if modeP bs to=0 then 0 else 1),true,0⟩ else ⟨0,0,0,0,false,34⟩
def cntz (bs:List UInt8) (i:Int):Ct:=if 0≤i then cntP bs i.toNat else ⟨0,0,0,0,false,0⟩
def isB (c:Nat):Bool:=decide (9≤c)&&decide (c≤13)||decide (c=32)
def blk (bs:List UInt8) (k:Nat) (r:Bool):Nat:=
 if h:k<bs.length then
  if g bs k=10 then blk bs (k+1) false else if g bs k=35 then blk bs (k+1) true
  else if r=false∧isB (g bs k)=false then k else blk bs (k+1) r
 else k
termination_by bs.length-k
theorem blk_end (r:Bool) (h:bs.length≤k):blk bs k r=k:=by rw [blk,dif_neg (by omega)]
theorem blk_line (r:Bool) (h:k<bs.length) (hg:g bs k=10):blk bs k r=blk bs (k+1) false:=by rw [blk,dif_pos h,if_pos hg]
theorem blk_sharp (r:Bool) (h:k<bs.length) (hg:g bs k=35):blk bs k r=blk bs (k+1) true:=by rw [blk,dif_pos h,if_neg (by omega),if_pos hg]
theorem blk_stop (hg:g bs k≠35) (hb:isB (g bs k)=false):blk bs k false=k:=by
 rcases Nat.lt_or_ge k bs.length with h|h
 ·rw [blk,dif_pos h,if_neg (by rintro e;rw [e] at hb;cases hb),if_neg hg,if_pos ⟨rfl,hb⟩]
 ·exact blk_end _ h
theorem blk_blank (hb:isB (g bs k)=true):blk bs k false=blk bs (k+1) false:=by
 have h:k<bs.length:=g_in fun e=>by rw [e] at hb;cases hb
 by_cases h10:g bs k=10
 ·exact blk_line _ h h10
 ·rw [blk,dif_pos h,if_neg h10,if_neg (by rintro e;rw [e] at hb;cases hb),if_neg (by rw [hb];simp)]
theorem blk_on (h:k<bs.length) (hg:g bs k≠10):blk bs k true=blk bs (k+1) true:=by
 by_cases h35:g bs k=35
 ·exact blk_sharp _ h h35
 ·rw [blk,dif_pos h,if_neg hg,if_neg h35,if_neg (by simp)]
theorem blk_rem {bs:List UInt8}:∀ (n k:Nat),k+n≤bs.length→(∀ j,k≤j→j<k+n→g bs j≠10)→blk bs k true=blk bs (k+n) true
 | 0,k,_,_=>rfl
 | n+1,k,h,hn=>by
  rw [blk_on (by omega) (hn k (Nat.le_refl _) (by omega)),blk_rem n (k+1) (by omega) (fun j h1 h2=>hn j (by omega) (by omega))]
  congr 1;omega
theorem blk_leave (h:bs.length≤k∨g bs k=10):blk bs k true=blk bs k false:=by
 rcases Nat.lt_or_ge k bs.length with h1|h1
 ·rcases h with h|h
  ·omega
  ·rw [blk_line _ h1 h,blk_line _ h1 h]
 ·rw [blk_end _ h1,blk_end _ h1]
theorem blk_remark {n:Nat} (hg:g bs k=35) (hn:1≤n) (hl:k+n≤bs.length) (hj:∀ j,k≤j→j<k+n→g bs j≠10) (he:bs.length≤k+n∨g bs (k+n)=10):blk bs k false=blk bs (k+n) false:=by
 have h1:k<bs.length:=by omega
 rw [blk_sharp _ h1 hg,← blk_leave he,← blk_sharp true h1 hg]
 exact blk_rem n k hl hj
theorem blk_ge (bs:List UInt8) (k:Nat) (r:Bool):k≤blk bs k r:=by
 rw [blk]
 split
 ·rename_i h
  have h1:=blk_ge bs (k+1) false
  have h2:=blk_ge bs (k+1) true
  have h3:=blk_ge bs (k+1) r
  split
  ·omega
  ·split
   ·omega
   ·split<;>omega
 ·exact Nat.le_refl _
termination_by bs.length-k
theorem blk_le (bs:List UInt8) (k:Nat) (r:Bool):blk bs k r≤max k bs.length:=by
 by_cases h:k<bs.length
 ·have h1:=blk_le bs (k+1) false
  have h2:=blk_le bs (k+1) true
  rw [blk,dif_pos h]
  split
  ·omega
  ·split
   ·omega
   ·split
    ·omega
    ·cases r<;>omega
 ·rw [blk_end r (by omega)];omega
termination_by bs.length-k
def blz (bs:List UInt8) (i:Int):Int:=if 0≤i then (blk bs i.toNat false:Int) else (blk bs 0 false:Int)
def fnd2 (bs:List UInt8) (k:Nat):Option Nat:=if h:k<bs.length then (if g bs k=58∧g bs (k+1)=93 then some k else fnd2 bs (k+1)) else none
termination_by bs.length-k
theorem fnd2_hit (h1:g bs k=58) (h2:g bs (k+1)=93):fnd2 bs k=some k:=by
 have h:=g_in (bs:=bs) (k:=k) (by omega)
 rw [fnd2,dif_pos h,if_pos ⟨h1,h2⟩]
theorem fnd2_miss (h:k<bs.length) (hn:¬ (g bs k=58∧g bs (k+1)=93)):fnd2 bs k=fnd2 bs (k+1):=by rw [fnd2,dif_pos h,if_neg hn]
theorem fnd2_end (h:bs.length≤k+1):fnd2 bs k=none:=by
 rw [fnd2]
 split
 ·rw [if_neg (by rw [g_out h];omega),fnd2,dif_neg (by omega)]
 ·rfl
theorem fnd2_in {bs:List UInt8} (k:Nat) {j:Nat} (h:fnd2 bs k=some j):k≤j∧j+1<bs.length∧g bs j=58∧g bs (j+1)=93:=by
 by_cases hk:k<bs.length
 ·by_cases hh:g bs k=58∧g bs (k+1)=93
  ·rw [fnd2_hit hh.1 hh.2] at h
   obtain rfl:=Option.some.inj h
   exact ⟨Nat.le_refl _,g_in (by omega),hh⟩
  ·rw [fnd2_miss hk hh] at h
   have:=fnd2_in (k+1) h
   omega
 ·rw [fnd2_end (by omega)] at h;cases h
termination_by bs.length-k
end
section
open Sy (g isS)
open Rs (R notL mk)
open Cl (nameL isName listOf isOf)
open Fo (closeL)
inductive It where
 | err (e:Nat)
 | lit (n to:Nat)
 | cls (c to:Nat)
 | nam (s:List UInt8) (t:Bool) (to:Nat)
 | hld (n to:Nat)
 | ref (n to:Nat)
 | key (s:List UInt8) (to:Nat)
def It.kind:It→Nat | err _=>0 | lit _ _=>1 | cls _ _=>2 | nam _ _ _=>2 | hld _ _=>3 | ref _ _=>4 | key _ _=>5
def It.to:It→Nat | err _=>0 | lit _ t=>t | cls _ t=>t | nam _ _ t=>t | hld _ t=>t | ref _ t=>t | key _ t=>t
def It.num:It→Nat | lit n _=>n | hld n _=>n | ref n _=>n | _=>0
def It.name:It→List UInt8 | key s _=>s | _=>[]
def It.set:It→List R | cls c _=>listOf c | nam s t _=>if t then notL (nameL s) else nameL s | _=>[]
def codeP (bs:List UInt8) (k:Nat):It:=
 if g bs k=123 then
  (if (hexF bs (k+1) 6 0).2=0∨g bs (k+1+(hexF bs (k+1) 6 0).2)≠125∨isS ((hexF bs (k+1) 6 0).1:Int)=false then .err 32 else .lit (hexF bs (k+1) 6 0).1 (k+1+(hexF bs (k+1) 6 0).2+1))
 else (if (hexF bs k 2 0).2<2 then .err 32 else .lit (hexF bs k 2 0).1 (k+(hexF bs k 2 0).2))
def keyP (bs:List UInt8) (k:Nat):It:=
 if g bs k=60 then (match nameP bs (k+1) with | some (s,to)=>.key s to | none=>.err 36) else .err 36
def refP (bs:List UInt8) (k:Nat):It:=
 if isD (g bs (k+1)) then .ref (10*(g bs k-48)+(g bs (k+1)-48)) (k+2) else .ref (g bs k-48) (k+1)
def comP (bs:List UInt8) (k:Nat):It:=
 if bs.length≤k then .err 32 else if g bs k=120 then codeP bs (k+1) else
 match ctl (g bs k) with
 | some n=>.lit n (k+1)
 | none=>if isOf (g bs k) then .cls (g bs k) (k+1) else if isA (g bs k)||isD (g bs k) then .err 32 else .lit (sym bs k).1 (k+(sym bs k).2)
def escP (bs:List UInt8) (inner:Bool) (k:Nat):It:=
 if inner then (if g bs k=98 then .lit 8 (k+1) else comP bs k)
 else if g bs k=107 then keyP bs (k+1)
 else if 49≤g bs k∧g bs k≤57 then refP bs k
 else match hldO (g bs k) with
 | some n=>.hld n (k+1)
 | none=>comP bs k
def escz (bs:List UInt8) (inner:Bool) (i:Int):It:=if gz bs i=92 then escP bs inner (i.toNat+1) else .err 10
def nkP (bs:List UInt8) (k:Nat):Nat:=if g bs k=94 then k+1 else k
def namedP (bs:List UInt8) (k:Nat):It:=match fnd2 bs (nkP bs k) with
 | none=>.err 33
 | some j=>if isName ((bs.drop (nkP bs k)).take (j-nkP bs k)) then .nam ((bs.drop (nkP bs k)).take (j-nkP bs k)) (decide (g bs k=94)) (j+2) else .err 33
def pieceP (bs:List UInt8) (k:Nat):It:=
 if g bs k=92 then escP bs true (k+1) else if g bs k=91∧g bs (k+1)=58 then namedP bs (k+2) else .lit (sym bs k).1 (k+(sym bs k).2)
inductive Part where
 | rng (a b:Nat)
 | it (x:It)
def rgP (bs:List UInt8) (to:Nat):Bool:=decide (g bs to=45)&&(decide (to+1<bs.length)&&decide (g bs (to+1)≠93))
def partP (bs:List UInt8) (k:Nat):Except (Nat×Nat) (Part×Nat):=match pieceP bs k with
 | .err e=>.error (e,k)
 | .lit n to=>if rgP bs to then (match pieceP bs (to+1) with
   | .err e=>.error (e,to+1)
   | .lit m to2=>if m<n then .error (33,k) else .ok (.rng n m,to2)
   | _=>.error (33,k)) else .ok (.rng n n,to)
 | x=>.ok (.it x,x.to)
def clsF (bs:List UInt8) (i first k:Nat) (acc:List Part):Except (Nat×Nat) (List Part×Nat):=
 if h:k<bs.length then
  if k≠first∧g bs k=93 then .ok (acc,k+1)
  else match partP bs k with
  | .error e=>.error e
  | .ok (p,to)=>if h2:k<to then clsF bs i first to (acc++[p]) else .error (0,0)
 else .error (33,i)
termination_by bs.length-k
def fsP (bs:List UInt8) (i:Nat):Nat:=if g bs (i+1)=94 then i+2 else i+1
def clsP (bs:List UInt8) (i:Nat):Except (Nat×Nat) (List Part×Nat):=clsF bs i (fsP bs i) (fsP bs i) []
def clsz (bs:List UInt8) (i:Int):Except (Nat×Nat) (List Part×Nat):=if gz bs i=91 then clsP bs i.toNat else .error (10,0)
def notz (bs:List UInt8) (i:Int):Bool:=decide (g bs (i.toNat+1)=94)
def partL:Part→List R
 | .rng a b=>[((a:Int),(b:Int))]
 | .it x=>x.set
def allL (l:List Part):List R:=l.flatMap partL
def wholeL (l:List R) (folded neg:Bool):List R:=if neg then notL (if folded then closeL (mk l) else mk l) else (if folded then closeL (mk l) else mk l)
end
end Go.Proofs.YtmlbklcmblofkaaGreatDoor.Sc
