/-
  class.find, walked over the table of sets as it lies (a name and the ends of its ranges, as texts), with eithe
-/
import Derived.Test.YtmlbklcmblofkaaGreatDoorMMemA
import Derived.WalkHide
import Derived.Test.YtmlbklcmblofkaaGreatDoorProg
import Derived.LoopTactic
import Derived.Lib.Walk
import Derived.IntWalk
import Derived.KernelRfl
import Derived.Outline
import Derived.Deep.CutRange
import Derived.Deep.WholeRow
set_option linter.unusedSimpArgs false
set_option linter.unusedVariables false
set_option maxHeartbeats 4000000
set_option maxRecDepth 100000
namespace Go.Proofs.YtmlbklcmblofkaaGreatDoor.Cl
section
open Go.RowKit Mem Rs
abbrev str (l:List UInt8):Value:=.string ⟨l.toArray⟩
def endsOf:List R→List UInt8
 | []=>[]
 | r :: l=>UInt8.ofNat r.1.toNat :: UInt8.ofNat r.2.toNat :: endsOf l
theorem endsOf_len:∀ l:List R,(endsOf l).length=2*l.length
 | []=>rfl
 | r :: l=>by simp only [endsOf,List.length_cons,endsOf_len l];omega
def Byt (l:List R):Prop:=∀ r∈l,0≤r.1∧r.1<256∧0≤r.2∧r.2<256
instance (l:List R):Decidable (Byt l):=by unfold Byt;infer_instance
theorem sets_byt:∀ l∈sets,Byt l:=by decide
theorem byte_at {x:Int} (h0:0≤x) (h1:x<256):((UInt8.ofNat x.toNat).toNat:Int)=x:=by
 have:(UInt8.ofNat x.toNat).toNat=x.toNat:=by simp [UInt8.toNat_ofNat'];omega
 omega
theorem endsOf_at:∀ (l:List R) (k:Nat) (r:R),Byt l→l[k]?=some r→(∃ b,(endsOf l)[2*k]?=some b∧(b.toNat:Int)=r.1)∧∃ b,(endsOf l)[2*k+1]?=some b∧(b.toNat:Int)=r.2
 | [],k,r,_,h=>by simp at h
 | x :: l,0,r,hb,h=>by
  obtain rfl:x=r:=by simpa using h
  obtain ⟨h0,h1,h2,h3⟩:=hb x (by simp)
  exact ⟨⟨_,rfl,byte_at h0 h1⟩,_,rfl,byte_at h2 h3⟩
 | x :: l,k+1,r,hb,h=>by
  have:=endsOf_at l k r (fun r hr=>hb r (List.mem_cons_of_mem _ hr)) (by simpa using h)
  rw [show 2*(k+1)=2*k+1+1 by omega]
  simpa [endsOf] using this
structure EndsOf (e:ByteArray) (l:List R):Prop where
 size:(e.size:Int)=2*(l.length:Int)
 lo:∀ (k:Nat) (r:R),l[k]?=some r→∀ W:World,(Instr.index 9 (.string e) (.int .i64 (2*(k:Int)))).run Tryz.prog W=.ok (.int .u8 r.1) W
 hi:∀ (k:Nat) (r:R),l[k]?=some r→∀ W:World,(Instr.index 9 (.string e) (.int .i64 (2*(k:Int)+1))).run Tryz.prog W=.ok (.int .u8 r.2) W
 byt:Byt l
theorem endsOf_ends (l:List R) (hb:Byt l):EndsOf ⟨(endsOf l).toArray⟩ l:=by
 have hs:(⟨(endsOf l).toArray⟩:ByteArray).size=2*l.length:=by
  show (endsOf l).toArray.size=_
  rw [List.size_toArray,endsOf_len]
 have key:∀ (j:Nat) (b:UInt8) (W:World),(endsOf l)[j]?=some b→(Instr.index 9 (.string ⟨(endsOf l).toArray⟩) (.int .i64 (j:Int))).run Tryz.prog W=.ok (.int .u8 b.toNat) W:=by
  intro j b W hj
  obtain ⟨hlt,e⟩:=List.getElem?_eq_some_iff.1 hj
  have hsz:(⟨(endsOf l).toArray⟩:ByteArray).size=(endsOf l).length:=by show (endsOf l).toArray.size=_;simp
  rw [run_index_string (P:=Tryz.prog) W 9 _ _ _ Tryz.underlying9,dif_pos ⟨by omega,by rw [hsz];omega⟩]
  have:(⟨(endsOf l).toArray⟩:ByteArray)[(j:Int).toNat]'(by rw [hsz];exact hlt)=b:=by
   rw [← e];rfl
  rw [this]
 refine ⟨by rw [hs];omega,fun k r hr W=>?_,fun k r hr W=>?_,hb⟩
 ·obtain ⟨⟨b,h1,h2⟩,-⟩:=endsOf_at l k r hb hr
  have:=key (2*k) b W h1
  rw [h2] at this
  rw [show 2*(k:Int)=((2*k:Nat):Int) by omega]
  exact this
 ·obtain ⟨-,b,h1,h2⟩:=endsOf_at l k r hb hr
  have:=key (2*k+1) b W h1
  rw [h2] at this
  rw [show 2*(k:Int)+1=((2*k+1:Nat):Int) by omega]
  exact this
theorem nameL_byt (s:List UInt8):Byt (nameL s):=by
 unfold nameL
 cases h:place s with
 | none=>intro r hr;cases hr
 | some j=>
  obtain ⟨l,hs,hm⟩:=sets_at (place_lt h)
  show Byt (sets.getD j [])
  rw [List.getD,hs]
  exact sets_byt _ hm
end
section
open Go.RowKit Mem Rs
variable {s:List UInt8}
structure TabAt (b off cap:Nat) (w:World):Prop where
 head:w.cell? ⟨4,0,none⟩=some (.slice (some ⟨b,off,none⟩) 14 cap)
 rows:∀ (k:Nat) (n:List UInt8) (l:List R),nmB[k]?=some n→sets[k]?=some l→w.cell? ⟨b,off+k*2,none⟩=some (str n)∧w.cell? ⟨b,off+k*2+1,none⟩=some (str (endsOf l))
 room:14≤cap
 top:cap≤9223372036854775807
def Tb (w:World):Prop:=∃ b off cap,TabAt b off cap w
theorem TabAt.lt {b off cap:Nat} {w:World} (h:TabAt b off cap w):4<w.heap.size∧b<w.heap.size:=⟨cell_lt h.head,cell_lt (h.rows 0 _ _ rfl rfl).1⟩
theorem TabAt.below {b off cap B:Nat} {w w':World} (h:TabAt b off cap w) (hb:Below B w w') (hB:w.heap.size≤B):TabAt b off cap w':=
 ⟨(hb.cell (p:=⟨4,0,none⟩) (by have:=h.lt;show 4<B;omega)).trans h.head,fun k n l hn hl=>by
  obtain ⟨c0,c1⟩:=h.rows k n l hn hl
  exact ⟨(hb.cell (p:=⟨b,off+k*2,none⟩) (by have:=h.lt;show b<B;omega)).trans c0,(hb.cell (p:=⟨b,off+k*2+1,none⟩) (by have:=h.lt;show b<B;omega)).trans c1⟩,h.room,h.top⟩
theorem Tb.below {w w':World} (h:Tb w) (hb:Below w.heap.size w w'):Tb w':=by
 obtain ⟨b,off,cap,h⟩:=h
 exact ⟨b,off,cap,h.below hb (Nat.le_refl _)⟩
def GivesF (s:List UInt8) (w:World) (e:Ending) (w':World):Prop:=e=.returned (.tuple #[str (endsOf (nameL s)),.bool (isName s)])∧Below w.heap.size w w'
def PRel (s:List UInt8) (W:World) (i:Value) (wr:World):Prop:=∃ k:Nat,i=.int .i64 k∧k≤14∧(∀ j n,j<k→nmB[j]?=some n→n≠s)∧Below W.heap.size W wr
theorem place_hit {n:List UInt8} {k:Nat} (hn:nmB[k]?=some n) (he:n=s) (hb:∀ j m,j<k→nmB[j]?=some m→m≠s):place s=some k:=by
 unfold place
 obtain ⟨hk,rfl⟩:=List.getElem?_eq_some_iff.1 hn
 rw [List.findIdx?_eq_some_iff_getElem]
 exact ⟨hk,by simpa using he,fun j hj=>by simpa using hb j _ hj (List.getElem?_eq_getElem (by omega))⟩
theorem place_none (hb:∀ j m,j<14→nmB[j]?=some m→m≠s):place s=none:=by
 unfold place
 rw [List.findIdx?_eq_none_iff]
 intro x hx
 obtain ⟨j,hj,rfl⟩:=List.mem_iff_getElem.1 hx
 simpa using hb j _ (by rw [nmB_len] at hj;exact hj) (List.getElem?_eq_getElem hj)
theorem name_hit {k:Nat} {l:List R} (h:place s=some k) (hl:sets[k]?=some l):nameL s=l∧isName s=true:=by
 unfold nameL isName
 rw [h]
 exact ⟨by simp [List.getD,hl],rfl⟩
theorem name_none (h:place s=none):nameL s=[]∧isName s=false:=by
 unfold nameL isName
 rw [h]
 exact ⟨rfl,rfl⟩
theorem named1 (n s:List UInt8) (p:Nat) (w:World) (hp:w.cell? ⟨p,0,none⟩=some (str s)) :
  Calls Tryz.prog 145 #[str n,.pointer (some ⟨p,0,none⟩)] w fun e w'=>e=.returned (.bool (n==s))∧w=w':=by
 go_enter Tryz.func145,Tryz.ntmps145
 go_wp2
 go_ret
 exact ⟨rfl,rfl⟩
theorem word1 (n:List UInt8) (w:World) :
  Calls Tryz.prog 119 #[str n] w fun e w'=>e=.returned (.bool (n==[119,111,114,100]))∧w=w':=by
 go_enter Tryz.func119,Tryz.ntmps119
 go_wp2
 go_ret
 exact ⟨rfl,rfl⟩
theorem find_named (s:List UInt8) (p:Nat) (w:World) (hT:Tb w) (hp:w.cell? ⟨p,0,none⟩=some (str s)):Calls Tryz.prog 118 #[.func (.func 145) #[] #[.pointer (some ⟨p,0,none⟩)]] w (GivesF s w):=by
 obtain ⟨tb,toff,tcap,hT⟩:=hT
 have HT:=hide hT
 have c0:=hT.head
 have hr1:=hT.room
 have hr2:=hT.top
 have hlt:=hT.lt
 have HP:=hide hp
 have HPL:=hide (cell_lt hp)
 clear hp
 clear hT
 go_enter Tryz.func118,Tryz.ntmps118
 go_wp2_with fail
 go_loopw [8] (fun i wr=>PRel s w i wr) (fun i _=>14-(intOf i).toNat)
 case atStart=>exact ⟨0,rfl,by omega,fun j m hj=>absurd hj (by omega),Below.refl _ _⟩
 case round=>
  obtain ⟨k,rfl,hk,hno,hb⟩:=hrel
  go_hideQ
  have HNO:=hide hno
  have HB0:=hide hb
  clear hno hb
  by_cases hlt:k<14
  ·obtain ⟨n,hn⟩:∃ n,nmB[k]?=some n:=⟨_,List.getElem?_eq_getElem (by rw [nmB_len];exact hlt)⟩
   obtain ⟨l,hl,hlm⟩:=sets_at hlt
   obtain ⟨c1,c2⟩:=HT.1.rows k n l hn hl
   have hlb:=HT.1.lt
   have c1:wr.cell? ⟨tb,toff+k*2,none⟩=some (str n):=(HB0.1.cell (p:=⟨tb,toff+k*2,none⟩) hlb.2).trans c1
   have c2:wr.cell? ⟨tb,toff+k*2+1,none⟩=some (str (endsOf l)):=(HB0.1.cell (p:=⟨tb,toff+k*2+1,none⟩) hlb.2).trans c2
   have hki:(k:Int)<14:=by omega
   have HN:=hide hn
   have HL:=hide hl
   have HE0:=hide (show GivesF s w (.returned (.tuple #[str (endsOf l),.bool true])) (wr.alloc (.cells #[str n,str (endsOf l)] 185))∨n≠s from by
    by_cases he:n=s
    ·obtain ⟨k1,k2⟩:=name_hit (place_hit hn he HNO.1) hl
     exact .inl ⟨by rw [k1,k2],HB0.1.alloc HB0.1.size _⟩
    ·exact .inr he)
   generalize endsOf l=es at *
   clear hn hl hlm
   have hp:(wr.alloc (.cells #[str n,str es] 185)).cell? ⟨p,0,none⟩=some (str s):=((HB0.1.trans ((Below.refl w.heap.size wr).alloc HB0.1.size _)).cell (p:=⟨p,0,none⟩) HPL.1).trans HP.1
   go_wp2_with fail
   refine (named1 n s p _ hp).mono ?_
   rintro e w2 ⟨rfl,hw⟩
   subst hw
   have bk1:=Blk.new wr 185 #[str n,str es]
   have d0:=bk1.cell 0
   have d1:=bk1.cell 1
   by_cases he:n=s
   ·have hq1:(n==s)=true:=by rw [beq_iff_eq];exact he
    have HE:=hide he
    clear he bk1
    go_wp2_with fail
    refine bodyPost_ret (v:=.tuple #[str es,.bool true]) (by simp [results,Tryz.results118,go_sem]) rfl ?_
    exact HE0.1.resolve_right (fun h=>h HE.1)
   ·have hq1:(n==s)=false:=by rw [beq_eq_false_iff_ne];exact he
    have HE:=hide he
    clear he d0 d1 bk1
    go_wp2_with fail
    have hR:PRel s w (.int .i64 ((k:Int)+1)) (wr.alloc (.cells #[str n,str es] 185)):=by
     refine ⟨k+1,by go_num,by omega,fun j m hj hm=>?_,HB0.1.alloc HB0.1.size _⟩
     rcases Nat.lt_or_ge j k with h|h
     ·exact HNO.1 j m h hm
     ·obtain rfl:j=k:=by omega
      obtain rfl:=Option.some.inj (HN.1.symm.trans hm)
      exact HE.1
    exact ⟨⟨_,_,_,_,_,_,_,_,_,_,_,_,_,_,hR,rfl⟩,by simp [intOf];omega⟩
  ·have hki:(14:Int)≤(k:Int):=by omega
   obtain rfl:k=14:=by omega
   obtain ⟨k1,k2⟩:=name_none (place_none HNO.1)
   have K:=hide (show GivesF s w (.returned (.tuple #[.string { data:=#[] },.bool false])) wr from ⟨by rw [k1,k2];rfl,HB0.1⟩)
   clear k1 k2
   go_wp2_with fail
   refine bodyPost_ret (v:=.tuple #[.string { data:=#[] },.bool false]) (by simp [results,Tryz.results118,go_sem]) rfl ?_
   exact K.1
theorem find_word (w:World) (hT:Tb w):Calls Tryz.prog 118 #[.func (.func 119) #[] #[]] w (GivesF [119,111,114,100] w):=by
 obtain ⟨tb,toff,tcap,hT⟩:=hT
 have HT:=hide hT
 have c0:=hT.head
 have hr1:=hT.room
 have hr2:=hT.top
 have hlt:=hT.lt
 clear hT
 go_enter Tryz.func118,Tryz.ntmps118
 go_wp2_with fail
 go_loopw [8] (fun i wr=>PRel [119,111,114,100] w i wr) (fun i _=>14-(intOf i).toNat)
 case atStart=>exact ⟨0,rfl,by omega,fun j m hj=>absurd hj (by omega),Below.refl _ _⟩
 case round=>
  obtain ⟨k,rfl,hk,hno,hb⟩:=hrel
  go_hideQ
  have HNO:=hide hno
  have HB0:=hide hb
  clear hno hb
  by_cases hlt:k<14
  ·obtain ⟨n,hn⟩:∃ n,nmB[k]?=some n:=⟨_,List.getElem?_eq_getElem (by rw [nmB_len];exact hlt)⟩
   obtain ⟨l,hl,hlm⟩:=sets_at hlt
   obtain ⟨c1,c2⟩:=HT.1.rows k n l hn hl
   have hlb:=HT.1.lt
   have c1:wr.cell? ⟨tb,toff+k*2,none⟩=some (str n):=(HB0.1.cell (p:=⟨tb,toff+k*2,none⟩) hlb.2).trans c1
   have c2:wr.cell? ⟨tb,toff+k*2+1,none⟩=some (str (endsOf l)):=(HB0.1.cell (p:=⟨tb,toff+k*2+1,none⟩) hlb.2).trans c2
   have hki:(k:Int)<14:=by omega
   have HN:=hide hn
   have HL:=hide hl
   have HE0:=hide (show GivesF [119,111,114,100] w (.returned (.tuple #[str (endsOf l),.bool true])) (wr.alloc (.cells #[str n,str (endsOf l)] 185))∨n≠[119,111,114,100] from by
    by_cases he:n=[119,111,114,100]
    ·obtain ⟨k1,k2⟩:=name_hit (place_hit hn he HNO.1) hl
     exact .inl ⟨by rw [k1,k2],HB0.1.alloc HB0.1.size _⟩
    ·exact .inr he)
   generalize endsOf l=es at *
   clear hn hl hlm
   go_wp2_with fail
   refine (word1 n _).mono ?_
   rintro e w2 ⟨rfl,hw⟩
   subst hw
   have bk1:=Blk.new wr 185 #[str n,str es]
   have d0:=bk1.cell 0
   have d1:=bk1.cell 1
   by_cases he:n=[119,111,114,100]
   ·have hq1:(n==[119,111,114,100])=true:=by rw [beq_iff_eq];exact he
    have HE:=hide he
    clear he bk1
    go_wp2_with fail
    refine bodyPost_ret (v:=.tuple #[str es,.bool true]) (by simp [results,Tryz.results118,go_sem]) rfl ?_
    exact HE0.1.resolve_right (fun h=>h HE.1)
   ·have hq1:(n==[119,111,114,100])=false:=by rw [beq_eq_false_iff_ne];exact he
    have HE:=hide he
    clear he d0 d1 bk1
    go_wp2_with fail
    have hR:PRel [119,111,114,100] w (.int .i64 ((k:Int)+1)) (wr.alloc (.cells #[str n,str es] 185)):=by
     refine ⟨k+1,by go_num,by omega,fun j m hj hm=>?_,HB0.1.alloc HB0.1.size _⟩
     rcases Nat.lt_or_ge j k with h|h
     ·exact HNO.1 j m h hm
     ·obtain rfl:j=k:=by omega
      obtain rfl:=Option.some.inj (HN.1.symm.trans hm)
      exact HE.1
    exact ⟨⟨_,_,_,_,_,_,_,_,_,_,_,_,_,_,hR,rfl⟩,by simp [intOf];omega⟩
  ·have hki:(14:Int)≤(k:Int):=by omega
   obtain rfl:k=14:=by omega
   obtain ⟨k1,k2⟩:=name_none (place_none HNO.1)
   have K:=hide (show GivesF [119,111,114,100] w (.returned (.tuple #[.string { data:=#[] },.bool false])) wr from ⟨by rw [k1,k2];rfl,HB0.1⟩)
   clear k1 k2
   go_wp2_with fail
   refine bodyPost_ret (v:=.tuple #[.string { data:=#[] },.bool false]) (by simp [results,Tryz.results118,go_sem]) rfl ?_
   exact K.1
end
end Go.Proofs.YtmlbklcmblofkaaGreatDoor.Cl
