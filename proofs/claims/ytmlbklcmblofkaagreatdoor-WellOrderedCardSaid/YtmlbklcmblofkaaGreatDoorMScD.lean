/-
  scan.Escape, scan.Inner, walked: what a backslash makes.
-/
import Derived.Test.YtmlbklcmblofkaaGreatDoorMScC
import Derived.Test.YtmlbklcmblofkaaGreatDoorMClC
import Derived.Test.YtmlbklcmblofkaaGreatDoorMFoE
import Derived.Test.YtmlbklcmblofkaaGreatDoorMSymC
import Derived.WideShapes
set_option linter.unusedSimpArgs false
set_option linter.unusedVariables false
set_option maxHeartbeats 4000000
set_option maxRecDepth 100000
namespace Go.Proofs.YtmlbklcmblofkaaGreatDoor.Sc
section
open Go.RowKit Mem
open Sy (g)
open Rs (R Lst)
open Cl (GivesL)
variable {w:World} {v:Value} {B:Nat}
def Mx (w:World):Prop:=0<w.heap.size∧∃ m,w.cell? ⟨0,0,none⟩=some (.int .i64 m)
structure Gl (w:World):Prop where
 tabs:Utf.Tabs w
 sets:Cl.Tb w
 mx:Mx w
 rows:∃ b off cap,Fo.Tab b off cap w
theorem Gl.below {w w':World} (h:Gl w) (hb:Below w.heap.size w w'):Gl w' where
 tabs:=h.tabs.below hb (Nat.le_refl _)
 sets:=h.sets.below hb
 mx:=by
  obtain ⟨h1,m,h2⟩:=h.mx
  exact ⟨Nat.lt_of_lt_of_le h1 hb.size,m,(hb.cell (p:=⟨0,0,none⟩) h1).trans h2⟩
 rows:=by
  obtain ⟨b,off,cap,h⟩:=h.rows
  exact ⟨b,off,cap,h.below hb (Nat.le_refl _)⟩
def Lies (B:Nat) (l:List R) (v:Value) (w:World):Prop:=∃ A cap,v=.slice A l.length cap∧l.length≤cap∧cap≤9223372036854775807∧Lst w w.heap.size A l∧∀ ad,A=some ad→0<l.length→B≤ad.block
theorem Lies.of {l:List R} {w':World} (h:GivesL l w v w'):Lies w.heap.size l v w'∧Below w.heap.size w w':=by
 obtain ⟨A,cap,h1,h2,h3,h4,h5,h6⟩:=h
 exact ⟨⟨A,cap,h1,h2,h3,h4,h6⟩,h5⟩
theorem Lies.mono {B':Nat} {l:List R} (h:Lies B l v w) (hB:B'≤B):Lies B' l v w:=by
 obtain ⟨A,cap,h1,h2,h3,h4,h6⟩:=h
 exact ⟨A,cap,h1,h2,h3,h4,fun ad e hn=>Nat.le_trans hB (h6 ad e hn)⟩
theorem Lies.below {B:Nat} {l:List R} {v:Value} {w w':World} (h:Lies B l v w) (hb:Below w.heap.size w w'):Lies B l v w':=by
 obtain ⟨A,cap,h1,h2,h3,h4,h6⟩:=h
 exact ⟨A,cap,h1,h2,h3,(h4.below hb).more hb.size,h6⟩
theorem Lies.set {l:List R} (h:Lies B l v w) {p:Addr} (hp:p.block<B) (u:Value):Lies B l v (w.setCell p u):=by
 obtain ⟨A,cap,h1,h2,h3,h4,h6⟩:=h
 have hz:(w.setCell p u).heap.size=w.heap.size:=by simp [World.setCell]
 refine ⟨A,cap,h1,h2,h3,fun hn=>?_,h6⟩
 obtain ⟨b,off,e,hb,hc⟩:=h4 hn
 have hB:=h6 _ e hn
 have hne:∀ q:Addr,q.block=b→(w.setCell p u).cell? q=w.cell? q:=fun q hq=>World.cell?_setCell_other w p q u (fun e=>by subst e;simp only [] at hB;omega)
 refine ⟨b,off,e,by rw [hz];exact hb,fun k r hr=>⟨(hne _ rfl).trans (hc k r hr).1,(hne _ rfl).trans (hc k r hr).2⟩⟩
theorem Lies.set5 {g:Nat} {l:List R} (h:Lies B l v w) (hg:g<B) (a b c d e:Value) :
  Lies B l v (((((w.setCell ⟨g,0,none⟩ a).setCell ⟨g,1,none⟩ b).setCell ⟨g,2,none⟩ c).setCell ⟨g,3,none⟩ d).setCell ⟨g,4,none⟩ e):=
 ((((h.set (p:=⟨g,0,none⟩) hg a).set (p:=⟨g,1,none⟩) hg b).set (p:=⟨g,2,none⟩) hg c).set (p:=⟨g,3,none⟩) hg d).set (p:=⟨g,4,none⟩) hg e
theorem Lies.nil (B:Nat) (w:World):Lies B [] (.slice none 0 0) w:=⟨none,0,rfl,Nat.le_refl _,by omega,Rs.Lst.nil,fun ad e _=>by cases e⟩
def itV (x:It) (v:Value):Value:=.tuple #[.agg #[.int .i64 (x.kind:Int),.int .i64 (x.to:Int),.int .i64 (x.num:Int),.string ⟨x.name.toArray⟩,v],.int .i64 (x.eno:Int)]
def GivesI (x:It) (w:World) (e:Ending) (w':World):Prop:=∃ v,e=.returned (itV x v)∧Lies w.heap.size x.set v w'∧Below w.heap.size w w'
theorem build_i0 (w:World):Sem.run Tryz.prog (Instr.build 116 #[]) w=.ok (.agg #[.int .i64 0,.int .i64 0,.int .i64 0,.string ⟨#[]⟩,.slice none 0 0]) w:=run_build w 116 _ _ (by kernel_rfl)
theorem build_i3 (a b c:Int) (w:World):Sem.run Tryz.prog (Instr.build 116 #[(0,.int .i64 a),(1,.int .i64 b),(2,.int .i64 c)]) w=.ok (.agg #[.int .i64 a,.int .i64 b,.int .i64 c,.string ⟨#[]⟩,.slice none 0 0]) w:=run_build w 116 _ _ (by kernel_rfl)
theorem build_in (a b:Int) (s:ByteArray) (w:World):Sem.run Tryz.prog (Instr.build 116 #[(0,.int .i64 a),(1,.int .i64 b),(3,.string s)]) w=.ok (.agg #[.int .i64 a,.int .i64 b,.int .i64 0,.string s,.slice none 0 0]) w:=run_build w 116 _ _ (by kernel_rfl)
theorem build_is (a b:Int) (A:Option Addr) (n c:Nat) (w:World):Sem.run Tryz.prog (Instr.build 116 #[(0,.int .i64 a),(1,.int .i64 b),(4,.slice A n c)]) w=.ok (.agg #[.int .i64 a,.int .i64 b,.int .i64 0,.string ⟨#[]⟩,.slice A n c]) w:=run_build w 116 _ _ (by kernel_rfl)
theorem stands_e {bs:List UInt8} {A:Option Addr} {cap:Nat} (hP:PV bs A cap w) {i:Int} {k c:Nat} {b:Bool} (h0:0<c) (e:i=(k:Int)) (h:decide (g bs k=c)=b) :
  Calls Tryz.prog 64 #[.slice A bs.length cap,.int .i64 i,.int .u8 (c:Int)] w fun e w'=>e=.returned (.bool b)∧w'=w:=by
 subst e;exact stands_b hP h0 h
end
section
open Go.RowKit Mem
open Sy (g isS)
attribute [local go_sem] build_i0 build_i3 build_in build_is Rs.run_not_true Rs.run_not_false
theorem code_any (bs:List UInt8) (A:Option Addr) (cap k:Nat) (w:World) (hP:PV bs A cap w) (hk:k≤bs.length) :
  Calls Tryz.prog 105 #[.slice A bs.length cap,.int .i64 (k:Int)] w (GivesI (codeP bs k) w):=by
 have hb0:Below w.heap.size w (w.alloc (.cells iz 116)):=(Below.refl w.heap.size w).alloc (Nat.le_refl _) _
 have HP:=hide (hP.below hb0)
 have hroom:=hP.room
 have htop:=hP.top
 have hki:(k:Int)≤(bs.length:Int):=by omega
 clear hP hb0
 by_cases h1:g bs k=123
 ·have hk1:=g_in (bs:=bs) (k:=k) (by omega)
  have C1:=hide (stands_b HP.1 (k:=k) (c:=123) (b:=true) (by omega) (by simp [h1]))
  have CH:=hide (hexa_any bs A cap (k+1) 6 _ HP.1 hk1 (by omega))
  have HX:=hexF_in bs 6 (k+1) 0
  obtain ⟨num,hn⟩:∃ n,(hexF bs (k+1) 6 0).1=n:=⟨_,rfl⟩
  obtain ⟨n,hm⟩:∃ n,(hexF bs (k+1) 6 0).2=n:=⟨_,rfl⟩
  have HL:=hexF_len bs 6 (k+1) 0
  have HT:=hexF_top bs 6 (k+1) 0
  rw [hn] at HT
  rw [hm] at HX HL
  rw [hn,hm,Int.natCast_add] at CH
  have HQ:=hide (show codeP bs k=if n=0∨g bs (k+1+n)≠125∨isS (num:Int)=false then .err 32 else .lit num (k+1+n+1) by unfold codeP;rw [if_pos h1,hn,hm])
  have hki2:(k:Int)+1≤(bs.length:Int):=by omega
  have hni:(n:Int)≤6:=by omega
  have hni2:(k:Int)+1+(n:Int)≤(bs.length:Int):=by omega
  clear hn hm h1 HL HT
  by_cases h2:n=0
  ·have HQ1:=HQ.1.trans (if_pos (.inl h2))
   rw [HQ1]
   have e2:((n:Int)==0)=true:=by rw [beq_iff_eq];omega
   clear HQ HQ1 h2 HX
   go_enter Tryz.func105,Tryz.ntmps105
   go_wp2_with fail
   refine C1.1.mono ?_
   rintro e w1 ⟨rfl,rfl⟩
   go_wp2_with fail
   refine CH.1.mono ?_
   rintro e w1 ⟨rfl,rfl⟩
   go_wp2_with fail
   (try simp only [Exit.inBlock,Exit.then])
   exact bodyPost_ret (results_cell2 rfl _ _ w.heap.size _ _ _ rfl rfl (Blk.new _ _ _) Tryz.underlying116 rfl (by kernel_rfl)) rfl ⟨_,rfl,Lies.nil _ _,(Below.refl _ _).alloc (Nat.le_refl _) _⟩
  ·have e2:((n:Int)==0)=false:=by rw [beq_eq_false_iff_ne];omega
   by_cases h3:g bs (k+1+n)=125
   ·have h3l:=g_in (bs:=bs) (k:=k+1+n) (by omega)
    have hni3:(k:Int)+1+(n:Int)+1≤(bs.length:Int):=by omega
    have C3:=hide (stands_e HP.1 (i:=(k:Int)+1+(n:Int)) (k:=k+1+n) (c:=125) (b:=true) (by omega) (by push_cast;rfl) (by simp [h3]))
    have CS:=hide (Is.is_any (num:Int) (w.alloc (.cells iz 116)))
    cases h4:isS (num:Int) with
    | false=>
     have HQ1:=HQ.1.trans (if_pos (.inr (.inr h4)))
     rw [HQ1]
     rw [h4] at CS
     clear HQ HQ1 h2 h3 h4 h3l HX
     go_enter Tryz.func105,Tryz.ntmps105
     go_wp2_with fail
     refine C1.1.mono ?_
     rintro e w1 ⟨rfl,rfl⟩
     go_wp2_with fail
     refine CH.1.mono ?_
     rintro e w1 ⟨rfl,rfl⟩
     go_wp2_with fail
     refine C3.1.mono ?_
     rintro e w1 ⟨rfl,rfl⟩
     go_wp2_with fail
     refine CS.1.mono ?_
     rintro e w1 ⟨rfl,rfl⟩
     go_wp2_with fail
     (try simp only [Exit.inBlock,Exit.then])
     exact bodyPost_ret (results_cell2 rfl _ _ w.heap.size _ _ _ rfl rfl (Blk.new _ _ _) Tryz.underlying116 rfl (by kernel_rfl)) rfl ⟨_,rfl,Lies.nil _ _,(Below.refl _ _).alloc (Nat.le_refl _) _⟩
    | true=>
     have HQ1:=HQ.1.trans (if_neg (by rw [h4];simp [h2,h3]))
     rw [HQ1]
     rw [h4] at CS
     clear HQ HQ1 h2 h3 h4 h3l HX
     go_enter Tryz.func105,Tryz.ntmps105
     go_wp2_with fail
     refine C1.1.mono ?_
     rintro e w1 ⟨rfl,rfl⟩
     go_wp2_with fail
     refine CH.1.mono ?_
     rintro e w1 ⟨rfl,rfl⟩
     go_wp2_with fail
     refine C3.1.mono ?_
     rintro e w1 ⟨rfl,rfl⟩
     go_wp2_with fail
     refine CS.1.mono ?_
     rintro e w1 ⟨rfl,rfl⟩
     go_wp2_with fail
     (try simp only [Exit.inBlock,Exit.then])
     exact bodyPost_ret (results_cell2 rfl _ _ w.heap.size _ _ _ rfl rfl (Blk.new _ _ _) Tryz.underlying116 rfl (by kernel_rfl)) rfl ⟨_,rfl,Lies.nil _ _,(Below.refl _ _).alloc (Nat.le_refl _) _⟩
   ·have C3:=hide (stands_e HP.1 (i:=(k:Int)+1+(n:Int)) (k:=k+1+n) (c:=125) (b:=false) (by omega) (by push_cast;rfl) (by simp [h3]))
    have HQ1:=HQ.1.trans (if_pos (.inr (.inl h3)))
    rw [HQ1]
    clear HQ HQ1 h2 h3 HX
    go_enter Tryz.func105,Tryz.ntmps105
    go_wp2_with fail
    refine C1.1.mono ?_
    rintro e w1 ⟨rfl,rfl⟩
    go_wp2_with fail
    refine CH.1.mono ?_
    rintro e w1 ⟨rfl,rfl⟩
    go_wp2_with fail
    refine C3.1.mono ?_
    rintro e w1 ⟨rfl,rfl⟩
    go_wp2_with fail
    (try simp only [Exit.inBlock,Exit.then])
    exact bodyPost_ret (results_cell2 rfl _ _ w.heap.size _ _ _ rfl rfl (Blk.new _ _ _) Tryz.underlying116 rfl (by kernel_rfl)) rfl ⟨_,rfl,Lies.nil _ _,(Below.refl _ _).alloc (Nat.le_refl _) _⟩
 ·have C1:=hide (stands_b HP.1 (k:=k) (c:=123) (b:=false) (by omega) (by simp [h1]))
  have CH:=hide (hexa_any bs A cap k 2 _ HP.1 hk (by omega))
  have HX:=hexF_in bs 2 k 0
  obtain ⟨num,hn⟩:∃ n,(hexF bs k 2 0).1=n:=⟨_,rfl⟩
  obtain ⟨n,hm⟩:∃ n,(hexF bs k 2 0).2=n:=⟨_,rfl⟩
  have HL:=hexF_len bs 2 k 0
  rw [hm] at HX HL
  rw [hn,hm] at CH
  have HQ:=hide (show codeP bs k=if n<2 then .err 32 else .lit num (k+n) by unfold codeP;rw [if_neg h1,hn,hm])
  have hni2:(k:Int)+(n:Int)≤(bs.length:Int):=by omega
  clear hn hm h1 HL
  by_cases h2:n<2
  ·rw [HQ.1.trans (if_pos h2)]
   have e2:(n:Int)<2:=by omega
   clear HQ h2 HX
   go_enter Tryz.func105,Tryz.ntmps105
   go_wp2_with fail
   refine C1.1.mono ?_
   rintro e w1 ⟨rfl,rfl⟩
   go_wp2_with fail
   refine CH.1.mono ?_
   rintro e w1 ⟨rfl,rfl⟩
   go_wp2_with fail
   (try simp only [Exit.inBlock,Exit.then])
   exact bodyPost_ret (results_cell2 rfl _ _ w.heap.size _ _ _ rfl rfl (Blk.new _ _ _) Tryz.underlying116 rfl (by kernel_rfl)) rfl ⟨_,rfl,Lies.nil _ _,(Below.refl _ _).alloc (Nat.le_refl _) _⟩
  ·rw [HQ.1.trans (if_neg h2)]
   have e2:2≤(n:Int):=by omega
   clear HQ h2 HX
   go_enter Tryz.func105,Tryz.ntmps105
   go_wp2_with fail
   refine C1.1.mono ?_
   rintro e w1 ⟨rfl,rfl⟩
   go_wp2_with fail
   refine CH.1.mono ?_
   rintro e w1 ⟨rfl,rfl⟩
   go_wp2_with fail
   (try simp only [Exit.inBlock,Exit.then])
   exact bodyPost_ret (results_cell2 rfl _ _ w.heap.size _ _ _ rfl rfl (Blk.new _ _ _) Tryz.underlying116 rfl (by kernel_rfl)) rfl ⟨_,rfl,Lies.nil _ _,(Below.refl _ _).alloc (Nat.le_refl _) _⟩
end
section
open Go.RowKit Mem
open Sy (g g_of g_lt)
attribute [local go_sem] Rs.run_not_true Rs.run_not_false
variable {bs:List UInt8}
theorem word_is (c:Nat):Rs.hasL (Cl.nameL [119,111,114,100]) (c:Int)=isW c:=by
 have h:Cl.nameL [119,111,114,100]=[(48,57),(65,90),(95,95),(97,122)]:=by decide
 rw [h,Bool.eq_iff_iff,isW_iff]
 simp [Rs.hasL,Rs.inR]
 omega
def namV (o:Option (List UInt8×Nat)):Value:=match o with
 | some (s,q)=>.tuple #[.string ⟨s.toArray⟩,.int .i64 (q:Int),.int .i64 0]
 | none=>.tuple #[.string ⟨#[]⟩,.int .i64 0,.int .i64 36]
def GivesN (o:Option (List UInt8×Nat)) (w:World) (e:Ending) (w':World):Prop:=e=.returned (namV o)∧Below w.heap.size w w'
theorem namez_none {i:Int} (h1:isA (symz bs i).1=false) (h2:(symz bs i).1≠95):namez bs i=none:=by
 unfold namez
 by_cases h0:0≤i
 ·obtain ⟨k,rfl⟩:∃ k:Nat,i=(k:Int):=⟨i.toNat,by omega⟩
  rw [if_pos h0,Int.toNat_natCast]
  rw [symz_nat] at h1 h2
  unfold nameP
  rw [if_neg]
  rintro ⟨h3,-,-⟩
  simp only [Bool.or_eq_true,decide_eq_true_eq] at h3
  have hlt:g bs k<128∧0<g bs k:=by rw [isA_iff] at h3;omega
  have:=(sym_fst (bs:=bs) (k:=k) hlt.1 hlt.2).2 rfl
  rw [this] at h1 h2
  rw [h1] at h3
  simp at h3
  exact h2 h3
 ·rw [if_neg h0]
theorem head_is {i:Int} (h:isA (symz bs i).1=true∨(symz bs i).1=95):∃ k:Nat,i=(k:Int)∧k<bs.length∧g bs k=(symz bs i).1∧(isA (g bs k)||decide (g bs k=95))=true∧1≤wl bs k:=by
 obtain ⟨k,h1,h2,h3,-⟩:=symz_sign (bs:=bs) (i:=i) (c:=(symz bs i).1) (by rw [isA_iff] at h;omega) (by rw [isA_iff] at h;omega) rfl
 refine ⟨k,h1,h2,h3,by rw [h3];simpa using h,?_⟩
 refine (wl_at (bs:=bs) (k:=k) (Nat.zero_le _)).2 ?_
 rw [Nat.add_zero,h3,isW_iff]
 rw [isA_iff] at h
 omega
theorem sub_reads {b off cap k m j:Nat} {w:World} (hP:PV bs (some ⟨b,off,none⟩) cap w) (hm:k+j=m) (hl:m≤bs.length) (h0:k<bs.length) :
  Reads w w.heap.size 1 (some ⟨b,off+k,none⟩) (m-k) (((bs.drop k).take j).map u8):=by
 obtain ⟨b',off',e,hb,hc⟩:=hP.cell h0
 cases e
 have hlen:((bs.drop k).take j).length=m-k:=by rw [List.length_take,List.length_drop];omega
 refine ⟨by rw [List.length_map,hlen,Nat.mul_one],fun _=>⟨_,rfl,hb,fun i u hu=>?_⟩⟩
 have hi:i<m-k:=by
  have:=(List.getElem?_eq_some_iff.1 hu).1
  rwa [List.length_map,hlen] at this
 rw [Go.WideShapes.add_plain,Nat.add_assoc,hc (k+i) (by omega)]
 rw [List.getElem?_map,List.getElem?_take,if_pos (by omega),List.getElem?_drop,List.getElem?_eq_getElem (by omega)] at hu
 rw [g_of (List.getElem?_eq_getElem (show k+i<bs.length by omega))]
 simpa [u8] using hu
theorem sub_str {b off cap k m j:Nat} {w:World} (hP:PV bs (some ⟨b,off,none⟩) cap w) (hm:k+j=m) (hl:m≤bs.length) (h0:k<bs.length) (c:Nat) :
  (convert 43 9 (.slice (some ⟨b,off+k,none⟩) (m-k) c)).run Tryz.prog w=.ok (.string ⟨((bs.drop k).take j).toArray⟩) w:=
 Str.conv_str ((bs.drop k).take j) w.heap.size (m-k) c _ w (by rw [List.length_take,List.length_drop];omega) (sub_reads hP hm hl h0)
def NRel (bs:List UInt8) (k:Nat) (w:World) (v:Value) (wr:World):Prop:=∃ j:Nat,v=.int .i64 ((k:Int)+(j:Int))∧1≤j∧j≤wl bs k∧Below w.heap.size w wr
theorem pname_any (bs:List UInt8) (A:Option Addr) (cap:Nat) (i:Int) (w:World) (hP:PV bs A cap w) (hG:Gl w) :
  Calls Tryz.prog 81 #[.slice A bs.length cap,.int .i64 i] w (GivesN (namez bs i) w):=by
 have CA:=hide (at_any bs A cap i w hP hG.tabs)
 have HP:=hide hP
 have HG:=hide hG
 have hroom:=hP.room
 have htop:=hP.top
 clear hP hG
 have HN:=hide (fun h1 h2=>namez_none (bs:=bs) (i:=i) h1 h2)
 have HY:=hide (fun h=>head_is (bs:=bs) (i:=i) h)
 have CL:=hide (fun W=>isLetter_any (symz bs i).1 W)
 obtain ⟨x,hx⟩:∃ x,(symz bs i).1=x:=⟨_,rfl⟩
 obtain ⟨s,hs⟩:∃ s,(symz bs i).2=s:=⟨_,rfl⟩
 rw [hx,hs] at CA
 rw [hx] at HN HY CL
 clear hx hs
 by_cases hh:isA x=true∨x=95
 ·obtain ⟨k,rfl,hk,hg,hw,hone⟩:=HY.1 hh
  have hki:(k:Int)<(bs.length:Int):=by omega
  have HW:=hide hw
  have HQ:=hide (show ∀ b,decide (wl bs k≤32∧g bs (k+wl bs k)=62)=b→namez bs (k:Int)=if b then some ((bs.drop k).take (wl bs k),k+wl bs k+1) else none from fun b hb=>by
   unfold namez nameP
   rw [if_pos (by omega),Int.toNat_natCast]
   cases b with
   | true=>
    rw [decide_eq_true_eq] at hb
    rw [if_pos ⟨hw,hb.1,hb.2⟩,if_pos rfl]
   | false=>
    rw [decide_eq_false_iff_not] at hb
    rw [if_neg (fun h=>hb h.2),if_neg (by simp)])
  have hl1:k+wl bs k≤bs.length:=by rcases wl_len bs k with h|h<;>omega
  have HWL:=hide (fun j h=>wl_at (bs:=bs) (k:=k) (j:=j) h)
  clear HN HY hw
  cases ha:isA x with
  | true=>
   rw [ha] at CL
   clear hh ha hg
   go_enter Tryz.func81,Tryz.ntmps81
   go_wp2_with fail
   refine CA.1.mono ?_
   rintro e w1 ⟨rfl,hB⟩
   have HB1:=hide hB
   have HP1:=hide (HP.1.below hB)
   have HG1:=hide (HG.1.below hB)
   clear hB CA HP HG
   go_wp2_with fail
   refine (CL.1 _).mono ?_
   rintro e w2 ⟨rfl,hw2⟩
   obtain rfl:_=w2:=hw2.symm
   clear CL
   go_wp2_with fail
   go_loopw [9] (fun v wr=>NRel bs k w1 v wr) (fun v _=>bs.length-(intOf v).toNat)
   case atStart=>exact ⟨1,rfl,Nat.le_refl _,hone,Below.refl _ _⟩
   case round=>
    obtain ⟨j,rfl,hj1,hj,hB⟩:=hrel
    go_hideQ
    have HB2:=hide hB
    have HP2:=hide (HP1.1.below hB)
    have CW:=hide (fun c:Nat=>Cl.word_any (c:Int) wr (HG1.1.sets.below hB))
    have HI:=hide (HWL.1 j hj)
    obtain ⟨m,hm⟩:∃ m,k+j=m:=⟨_,rfl⟩
    have hmi:(k:Int)+(j:Int)=(m:Int):=by omega
    have hn0':(m:Int)≤(bs.length:Int):=by omega
    rw [hm] at HI
    clear hB
    rw [hmi]
    by_cases hin:m<bs.length
    ·have hin':(m:Int)<(bs.length:Int):=by omega
     have CX:=hide (CW.1 (g bs m))
     rw [word_is] at CX
     obtain ⟨b,off,hA,hb,hc⟩:=HP2.1.cell hin
     have c1:=hc m hin
     have h256:(g bs m:Int)<256:=by have:=g_lt bs m;omega
     clear hc CW
     cases hw1:isW (g bs m) with
     | true=>
      rw [hw1] at CX
      have hj2:=HI.1.2 hw1
      generalize g bs m=y at *
      subst hA
      clear HQ HWL HI
      go_wp2_with fail
      refine CX.1.mono ?_
      rintro e w3 ⟨rfl,hB⟩
      have hR:NRel bs k w1 (.int .i64 ((m:Int)+1)) w3:=⟨j+1,by rw [← hmi,Int.natCast_add,Int.add_assoc];rfl,by omega,by omega,HB2.1.trans (hB.mono HB2.1.size)⟩
      have HR:=hide hR
      clear hR hB
      go_wp2
      first|exact ⟨HR.1,by simp [intOf];omega⟩|go_roundw
      all_goals first|exact HR.1|(simp [intOf];omega)
     | false=>
      rw [hw1] at CX
      have HJW:Hd (j=wl bs k):=hide <| by
       have:=HI.1
       rw [hw1] at this
       have h3:¬ j<wl bs k:=fun h=>by cases this.1 h
       omega
      have hy:∃ y:Nat,y=g bs m:=⟨_,rfl⟩
      clear hw1
      subst hA
      obtain ⟨y,hy⟩:=hy
      rw [← hy] at c1 CX h256
      have HY:=hide hy
      clear hy HI
      go_wp2_with fail
      refine CX.1.mono ?_
      rintro e w3 ⟨rfl,hB⟩
      have HPX:=hide (HP2.1.below hB)
      have HBX:=hide (HB1.1.trans ((HB2.1.trans (hB.mono HB2.1.size)).mono HB1.1.size))
      clear hB c1 CX
      obtain rfl:j=wl bs k:=HJW.1
      obtain ⟨n,hn⟩:∃ n,wl bs k=n:=⟨_,rfl⟩
      rw [hn] at HQ hm hj1
      have hnn:(k:Int)+(n:Int)=(m:Int):=by omega
      have hsub:(m:Int)-(k:Int)=(n:Int):=by omega
      have hni:(n:Int)≤9223372036854775807:=by omega
      clear hj hn HWL
      by_cases h32:n≤32
      ·have e32:(n:Int)≤32:=by omega
       by_cases h62:g bs m=62
       ·have hml:=g_in (bs:=bs) (k:=m) (by omega)
        have C3:=hide (stands_b HPX.1 (k:=m) (c:=62) (b:=true) (by omega) (by simp [h62]))
        have HQ1:=hide (HQ.1 true (by rw [hm];simp [h32,h62]))
        obtain ⟨b2,off2,e,hb,hc⟩:=HPX.1.cell hk
        cases e
        have kc:=fun c=>sub_str HPX.1 hm (Nat.le_of_lt hml) hk c
        have hmi3:(m:Int)+1≤(bs.length:Int):=by omega
        have hkm:(k:Int)≤(m:Int):=by omega
        have hmc:(m:Int)≤(cap:Int):=by omega
        have hkc:¬ cap=k:=by omega
        rw [if_pos rfl,hm] at HQ1
        have hn0:=hn0'
        clear HQ hc h32 h62 hm hml
        go_wp2_with fail
        refine C3.1.mono ?_
        rintro e w9 ⟨rfl,hw9⟩
        obtain rfl:_=w9:=hw9.symm
        go_wp2
        all_goals go_ret3
        all_goals exact ⟨by rw [HQ1.1];rfl,HBX.1⟩
       ·have C3:=hide (stands_b HPX.1 (k:=m) (c:=62) (b:=false) (by omega) (by simp [h62]))
        have HQ1:=hide (HQ.1 false (by rw [hm];simp [h62]))
        clear HQ h32 h62 hm
        go_wp2_with fail
        refine C3.1.mono ?_
        rintro e w9 ⟨rfl,hw9⟩
        obtain rfl:_=w9:=hw9.symm
        go_wp2
        all_goals go_ret3
        all_goals exact ⟨by rw [HQ1.1];rfl,HBX.1⟩
      ·have e32:32<(n:Int):=by omega
       have HQ1:=hide (HQ.1 false (by simp [h32]))
       clear HQ h32 hm
       go_wp2_with fail
       go_ret3
       exact ⟨by rw [HQ1.1];rfl,HBX.1⟩
    ·have hin':(bs.length:Int)≤(m:Int):=by omega
     have HJW:Hd (j=wl bs k):=hide <| by
      have h3:¬ j<wl bs k:=fun h=>by have:=HI.1.1 h;rw [g_out (by omega)] at this;cases this
      omega
     have HPX:=HP2
     have HBX:=hide (HB1.1.trans (HB2.1.mono HB1.1.size))
     clear CW HI
     obtain rfl:j=wl bs k:=HJW.1
     obtain ⟨n,hn⟩:∃ n,wl bs k=n:=⟨_,rfl⟩
     rw [hn] at HQ hm hj1
     have hnn:(k:Int)+(n:Int)=(m:Int):=by omega
     have hsub:(m:Int)-(k:Int)=(n:Int):=by omega
     have hni:(n:Int)≤9223372036854775807:=by omega
     clear hj hn HWL
     by_cases h32:n≤32
     ·have e32:(n:Int)≤32:=by omega
      by_cases h62:g bs m=62
      ·have hml:=g_in (bs:=bs) (k:=m) (by omega)
       have C3:=hide (stands_b HPX.1 (k:=m) (c:=62) (b:=true) (by omega) (by simp [h62]))
       have HQ1:=hide (HQ.1 true (by rw [hm];simp [h32,h62]))
       obtain ⟨b,off,rfl,hb,hc⟩:=HPX.1.cell hk
       have kc:=fun c=>sub_str HPX.1 hm (Nat.le_of_lt hml) hk c
       have hmi3:(m:Int)+1≤(bs.length:Int):=by omega
       have hkm:(k:Int)≤(m:Int):=by omega
       have hmc:(m:Int)≤(cap:Int):=by omega
       have hkc:¬ cap=k:=by omega
       rw [if_pos rfl,hm] at HQ1
       have hn0:=hn0'
       clear HQ hc h32 h62 hm hml
       go_wp2_with fail
       refine C3.1.mono ?_
       rintro e w9 ⟨rfl,hw9⟩
       obtain rfl:_=w9:=hw9.symm
       go_wp2
       all_goals go_ret3
       all_goals exact ⟨by rw [HQ1.1];rfl,HBX.1⟩
      ·have C3:=hide (stands_b HPX.1 (k:=m) (c:=62) (b:=false) (by omega) (by simp [h62]))
       have HQ1:=hide (HQ.1 false (by rw [hm];simp [h62]))
       clear HQ h32 h62 hm
       go_wp2_with fail
       refine C3.1.mono ?_
       rintro e w9 ⟨rfl,hw9⟩
       obtain rfl:_=w9:=hw9.symm
       go_wp2
       all_goals go_ret3
       all_goals exact ⟨by rw [HQ1.1];rfl,HBX.1⟩
     ·have e32:32<(n:Int):=by omega
      have HQ1:=hide (HQ.1 false (by simp [h32]))
      clear HQ h32 hm
      go_wp2_with fail
      go_ret3
      exact ⟨by rw [HQ1.1];rfl,HBX.1⟩
  | false=>
   rw [ha] at CL
   have e95:((x:Int) != 95)=false:=by rw [ha] at hh;simp at hh;simp;omega
   clear hh ha hg
   go_enter Tryz.func81,Tryz.ntmps81
   go_wp2_with fail
   refine CA.1.mono ?_
   rintro e w1 ⟨rfl,hB⟩
   have HB1:=hide hB
   have HP1:=hide (HP.1.below hB)
   have HG1:=hide (HG.1.below hB)
   clear hB CA HP HG
   go_wp2_with fail
   refine (CL.1 _).mono ?_
   rintro e w2 ⟨rfl,hw2⟩
   obtain rfl:_=w2:=hw2.symm
   clear CL
   go_wp2_with fail
   go_loopw [9] (fun v wr=>NRel bs k w1 v wr) (fun v _=>bs.length-(intOf v).toNat)
   case atStart=>exact ⟨1,rfl,Nat.le_refl _,hone,Below.refl _ _⟩
   case round=>
    obtain ⟨j,rfl,hj1,hj,hB⟩:=hrel
    go_hideQ
    have HB2:=hide hB
    have HP2:=hide (HP1.1.below hB)
    have CW:=hide (fun c:Nat=>Cl.word_any (c:Int) wr (HG1.1.sets.below hB))
    have HI:=hide (HWL.1 j hj)
    obtain ⟨m,hm⟩:∃ m,k+j=m:=⟨_,rfl⟩
    have hmi:(k:Int)+(j:Int)=(m:Int):=by omega
    have hn0':(m:Int)≤(bs.length:Int):=by omega
    rw [hm] at HI
    clear hB
    rw [hmi]
    by_cases hin:m<bs.length
    ·have hin':(m:Int)<(bs.length:Int):=by omega
     have CX:=hide (CW.1 (g bs m))
     rw [word_is] at CX
     obtain ⟨b,off,hA,hb,hc⟩:=HP2.1.cell hin
     have c1:=hc m hin
     have h256:(g bs m:Int)<256:=by have:=g_lt bs m;omega
     clear hc CW
     cases hw1:isW (g bs m) with
     | true=>
      rw [hw1] at CX
      have hj2:=HI.1.2 hw1
      generalize g bs m=y at *
      subst hA
      clear HQ HWL HI
      go_wp2_with fail
      refine CX.1.mono ?_
      rintro e w3 ⟨rfl,hB⟩
      have hR:NRel bs k w1 (.int .i64 ((m:Int)+1)) w3:=⟨j+1,by rw [← hmi,Int.natCast_add,Int.add_assoc];rfl,by omega,by omega,HB2.1.trans (hB.mono HB2.1.size)⟩
      have HR:=hide hR
      clear hR hB
      go_wp2
      first|exact ⟨HR.1,by simp [intOf];omega⟩|go_roundw
      all_goals first|exact HR.1|(simp [intOf];omega)
     | false=>
      rw [hw1] at CX
      have HJW:Hd (j=wl bs k):=hide <| by
       have:=HI.1
       rw [hw1] at this
       have h3:¬ j<wl bs k:=fun h=>by cases this.1 h
       omega
      have hy:∃ y:Nat,y=g bs m:=⟨_,rfl⟩
      clear hw1
      subst hA
      obtain ⟨y,hy⟩:=hy
      rw [← hy] at c1 CX h256
      have HY:=hide hy
      clear hy HI
      go_wp2_with fail
      refine CX.1.mono ?_
      rintro e w3 ⟨rfl,hB⟩
      have HPX:=hide (HP2.1.below hB)
      have HBX:=hide (HB1.1.trans ((HB2.1.trans (hB.mono HB2.1.size)).mono HB1.1.size))
      clear hB c1 CX
      obtain rfl:j=wl bs k:=HJW.1
      obtain ⟨n,hn⟩:∃ n,wl bs k=n:=⟨_,rfl⟩
      rw [hn] at HQ hm hj1
      have hnn:(k:Int)+(n:Int)=(m:Int):=by omega
      have hsub:(m:Int)-(k:Int)=(n:Int):=by omega
      have hni:(n:Int)≤9223372036854775807:=by omega
      clear hj hn HWL
      by_cases h32:n≤32
      ·have e32:(n:Int)≤32:=by omega
       by_cases h62:g bs m=62
       ·have hml:=g_in (bs:=bs) (k:=m) (by omega)
        have C3:=hide (stands_b HPX.1 (k:=m) (c:=62) (b:=true) (by omega) (by simp [h62]))
        have HQ1:=hide (HQ.1 true (by rw [hm];simp [h32,h62]))
        obtain ⟨b2,off2,e,hb,hc⟩:=HPX.1.cell hk
        cases e
        have kc:=fun c=>sub_str HPX.1 hm (Nat.le_of_lt hml) hk c
        have hmi3:(m:Int)+1≤(bs.length:Int):=by omega
        have hkm:(k:Int)≤(m:Int):=by omega
        have hmc:(m:Int)≤(cap:Int):=by omega
        have hkc:¬ cap=k:=by omega
        rw [if_pos rfl,hm] at HQ1
        have hn0:=hn0'
        clear HQ hc h32 h62 hm hml
        go_wp2_with fail
        refine C3.1.mono ?_
        rintro e w9 ⟨rfl,hw9⟩
        obtain rfl:_=w9:=hw9.symm
        go_wp2
        all_goals go_ret3
        all_goals exact ⟨by rw [HQ1.1];rfl,HBX.1⟩
       ·have C3:=hide (stands_b HPX.1 (k:=m) (c:=62) (b:=false) (by omega) (by simp [h62]))
        have HQ1:=hide (HQ.1 false (by rw [hm];simp [h62]))
        clear HQ h32 h62 hm
        go_wp2_with fail
        refine C3.1.mono ?_
        rintro e w9 ⟨rfl,hw9⟩
        obtain rfl:_=w9:=hw9.symm
        go_wp2
        all_goals go_ret3
        all_goals exact ⟨by rw [HQ1.1];rfl,HBX.1⟩
      ·have e32:32<(n:Int):=by omega
       have HQ1:=hide (HQ.1 false (by simp [h32]))
       clear HQ h32 hm
       go_wp2_with fail
       go_ret3
       exact ⟨by rw [HQ1.1];rfl,HBX.1⟩
    ·have hin':(bs.length:Int)≤(m:Int):=by omega
     have HJW:Hd (j=wl bs k):=hide <| by
      have h3:¬ j<wl bs k:=fun h=>by have:=HI.1.1 h;rw [g_out (by omega)] at this;cases this
      omega
     have HPX:=HP2
     have HBX:=hide (HB1.1.trans (HB2.1.mono HB1.1.size))
     clear CW HI
     obtain rfl:j=wl bs k:=HJW.1
     obtain ⟨n,hn⟩:∃ n,wl bs k=n:=⟨_,rfl⟩
     rw [hn] at HQ hm hj1
     have hnn:(k:Int)+(n:Int)=(m:Int):=by omega
     have hsub:(m:Int)-(k:Int)=(n:Int):=by omega
     have hni:(n:Int)≤9223372036854775807:=by omega
     clear hj hn HWL
     by_cases h32:n≤32
     ·have e32:(n:Int)≤32:=by omega
      by_cases h62:g bs m=62
      ·have hml:=g_in (bs:=bs) (k:=m) (by omega)
       have C3:=hide (stands_b HPX.1 (k:=m) (c:=62) (b:=true) (by omega) (by simp [h62]))
       have HQ1:=hide (HQ.1 true (by rw [hm];simp [h32,h62]))
       obtain ⟨b,off,rfl,hb,hc⟩:=HPX.1.cell hk
       have kc:=fun c=>sub_str HPX.1 hm (Nat.le_of_lt hml) hk c
       have hmi3:(m:Int)+1≤(bs.length:Int):=by omega
       have hkm:(k:Int)≤(m:Int):=by omega
       have hmc:(m:Int)≤(cap:Int):=by omega
       have hkc:¬ cap=k:=by omega
       rw [if_pos rfl,hm] at HQ1
       have hn0:=hn0'
       clear HQ hc h32 h62 hm hml
       go_wp2_with fail
       refine C3.1.mono ?_
       rintro e w9 ⟨rfl,hw9⟩
       obtain rfl:_=w9:=hw9.symm
       go_wp2
       all_goals go_ret3
       all_goals exact ⟨by rw [HQ1.1];rfl,HBX.1⟩
      ·have C3:=hide (stands_b HPX.1 (k:=m) (c:=62) (b:=false) (by omega) (by simp [h62]))
       have HQ1:=hide (HQ.1 false (by rw [hm];simp [h62]))
       clear HQ h32 h62 hm
       go_wp2_with fail
       refine C3.1.mono ?_
       rintro e w9 ⟨rfl,hw9⟩
       obtain rfl:_=w9:=hw9.symm
       go_wp2
       all_goals go_ret3
       all_goals exact ⟨by rw [HQ1.1];rfl,HBX.1⟩
     ·have e32:32<(n:Int):=by omega
      have HQ1:=hide (HQ.1 false (by simp [h32]))
      clear HQ h32 hm
      go_wp2_with fail
      go_ret3
      exact ⟨by rw [HQ1.1];rfl,HBX.1⟩
 ·have h1:isA x=false:=by simpa using fun h=>hh (.inl h)
  have h2:x≠95:=fun h=>hh (.inr h)
  rw [HN.1 h1 h2]
  rw [h1] at CL
  have e95:((x:Int) != 95)=true:=by simp;omega
  clear HN HY h1 h2 hh
  go_enter Tryz.func81,Tryz.ntmps81
  go_wp2_with fail
  refine CA.1.mono ?_
  rintro e w1 ⟨rfl,hB⟩
  have HB1:=hide hB
  clear hB CA
  go_wp2_with fail
  refine (CL.1 _).mono ?_
  rintro e w2 ⟨rfl,rfl⟩
  go_wp2
  go_ret3
  exact ⟨rfl,HB1.1⟩
end
section
open Go.RowKit Mem
open Sy (g)
attribute [local go_sem] build_i0 build_i3 build_in build_is Rs.run_not_true Rs.run_not_false
theorem namez_nat (bs:List UInt8) (k:Nat):namez bs (k:Int)=nameP bs k:=by unfold namez;rw [if_pos (by omega),Int.toNat_natCast]
theorem key_any (bs:List UInt8) (A:Option Addr) (cap k:Nat) (w:World) (hP:PV bs A cap w) (hG:Gl w) (hk:k≤bs.length) :
  Calls Tryz.prog 86 #[.slice A bs.length cap,.int .i64 (k:Int)] w (GivesI (keyP bs k) w):=by
 have hb0:Below w.heap.size w (w.alloc (.cells iz 116)):=(Below.refl w.heap.size w).alloc (Nat.le_refl _) _
 have HP:=hide (hP.below hb0)
 have hroom:=hP.room
 have htop:=hP.top
 have hki:(k:Int)≤(bs.length:Int):=by omega
 by_cases h1:g bs k=60
 ·have C1:=hide (stands_b HP.1 (k:=k) (c:=60) (b:=true) (by omega) (by simp [h1]))
  have hk1:=g_in (bs:=bs) (k:=k) (by omega)
  have hki1:(k:Int)+1≤(bs.length:Int):=by omega
  have CN:=hide (pname_any bs A cap ((k:Int)+1) _ HP.1 (hG.below hb0))
  have e1:namez bs ((k:Int)+1)=nameP bs (k+1):=namez_nat bs (k+1)
  rw [e1] at CN
  have HB0:=hide hb0
  have HK:=hide (Blk.new w 116 iz)
  have hsz:=HK.1.lt
  clear hP hG hb0 e1
  cases hn:nameP bs (k+1) with
  | none=>
   rw [show keyP bs k=.err 36 by unfold keyP;rw [if_pos h1,hn]]
   rw [hn] at CN
   unfold GivesN namV at CN
   clear hn h1
   go_enter Tryz.func86,Tryz.ntmps86
   go_wp2_with fail
   refine C1.1.mono ?_
   rintro e w1 ⟨rfl,rfl⟩
   go_wp2_with fail
   refine CN.1.mono ?_
   rintro e w1 ⟨rfl,hB⟩
   have HB1:=hide (HB0.1.trans (hB.mono HB0.1.size))
   have HK1:=hide (HK.1.below hB HK.1.lt)
   clear hB CN C1 HP HB0 HK
   obtain ⟨⟨d0,d1,d2,d3,d4⟩,f0,f1,f2,f3,f4⟩:=cells5 HK1.1
   go_wp2_with fail
   (try simp only [Exit.inBlock,Exit.then])
   exact bodyPost_ret (results_cell2 rfl _ _ w.heap.size _ _ _ rfl rfl (by first|exact set5 HK1.1 _ _ _ _ _|exact HK1.1|exact Blk.new _ _ _) Tryz.underlying116 rfl (by kernel_rfl)) rfl ⟨_,rfl,Lies.nil _ _,(by first|exact bel5 HB1.1 (Nat.le_refl _) _ _ _ _ _|exact HB1.1|exact (Below.refl _ _).alloc (Nat.le_refl _) _)⟩
  | some q=>
   obtain ⟨s,q⟩:=q
   rw [show keyP bs k=.key s q by unfold keyP;rw [if_pos h1,hn]]
   rw [hn] at CN
   unfold GivesN namV at CN
   clear hn h1
   go_enter Tryz.func86,Tryz.ntmps86
   go_wp2_with fail
   refine C1.1.mono ?_
   rintro e w1 ⟨rfl,rfl⟩
   go_wp2_with fail
   refine CN.1.mono ?_
   rintro e w1 ⟨rfl,hB⟩
   have HB1:=hide (HB0.1.trans (hB.mono HB0.1.size))
   have HK1:=hide (HK.1.below hB HK.1.lt)
   clear hB CN C1 HP HB0 HK
   obtain ⟨⟨d0,d1,d2,d3,d4⟩,f0,f1,f2,f3,f4⟩:=cells5 HK1.1
   go_wp2_with fail
   (try simp only [Exit.inBlock,Exit.then])
   exact bodyPost_ret (results_cell2 rfl _ _ w.heap.size _ _ _ rfl rfl (by first|exact set5 HK1.1 _ _ _ _ _|exact HK1.1|exact Blk.new _ _ _) Tryz.underlying116 rfl (by kernel_rfl)) rfl ⟨_,rfl,Lies.nil _ _,(by first|exact bel5 HB1.1 (Nat.le_refl _) _ _ _ _ _|exact HB1.1|exact (Below.refl _ _).alloc (Nat.le_refl _) _)⟩
 ·have C1:=hide (stands_b HP.1 (k:=k) (c:=60) (b:=false) (by omega) (by simp [h1]))
  rw [show keyP bs k=.err 36 by unfold keyP;rw [if_neg h1]]
  clear hP hG hb0 h1
  go_enter Tryz.func86,Tryz.ntmps86
  go_wp2_with fail
  refine C1.1.mono ?_
  rintro e w1 ⟨rfl,rfl⟩
  go_wp2_with fail
  (try simp only [Exit.inBlock,Exit.then])
  exact bodyPost_ret (results_cell2 rfl _ _ w.heap.size _ _ _ rfl rfl (Blk.new _ _ _) Tryz.underlying116 rfl (by kernel_rfl)) rfl ⟨_,rfl,Lies.nil _ _,(Below.refl _ _).alloc (Nat.le_refl _) _⟩
def GivesR (x:It) (w:World) (e:Ending) (w':World):Prop:=e=.returned (.agg #[.int .i64 (x.kind:Int),.int .i64 (x.to:Int),.int .i64 (x.num:Int),.string ⟨#[]⟩,.slice none 0 0])∧Below w.heap.size w w'
theorem digit_sym (bs:List UInt8) (k:Nat):isD (sym bs k).1=isD (g bs k)∧(isD (g bs k)=true→sym bs k=(g bs k,1)):=by
 rcases Nat.lt_or_ge k bs.length with h|h
 ·rcases Nat.lt_or_ge (g bs k) 128 with hl|hl
  ·rw [sym_low h hl];exact ⟨rfl,fun _=>rfl⟩
  ·have:=sym_high (bs:=bs) (k:=k) hl
   constructor
   ·rw [Bool.eq_iff_iff,isD_iff,isD_iff];omega
   ·rw [isD_iff];omega
 ·rw [sym_out h,g_out h]
  exact ⟨rfl,fun h=>by cases h⟩
theorem ref_any (bs:List UInt8) (A:Option Addr) (cap k:Nat) (w:World) (hP:PV bs A cap w) (hG:Gl w) (h1:49≤g bs k) (h2:g bs k≤57) :
  Calls Tryz.prog 88 #[.slice A bs.length cap,.int .i64 (k:Int)] w (GivesR (refP bs k) w):=by
 have hb0:Below w.heap.size w (w.alloc (.cells iz 116)):=(Below.refl w.heap.size w).alloc (Nat.le_refl _) _
 have hk:=g_in (bs:=bs) (k:=k) (by omega)
 have HP:=hide (hP.below hb0)
 have hroom:=hP.room
 have htop:=hP.top
 have hki:(k:Int)+1≤(bs.length:Int):=by omega
 have CA:=hide (at_nat bs A cap (k+1) _ HP.1 (hG.below hb0).tabs)
 have CD:=hide (fun W=>isDigit_any (sym bs (k+1)).1 W)
 have HB0:=hide hb0
 have HK:=hide (Blk.new w 116 iz)
 have hsz:=HK.1.lt
 obtain ⟨b,off,rfl,hb,hc⟩:=HP.1.cell hk
 have c1:=hc k hk
 have hD:=digit_sym bs (k+1)
 have HR:=hide (show refP bs k=if isD (g bs (k+1))=true then .ref (10*(g bs k-48)+(g bs (k+1)-48)) (k+2) else .ref (g bs k-48) (k+1) from rfl)
 have hcs:((g bs k:Int)-48)=((g bs k-48:Nat):Int):=by omega
 have h49:49≤(g bs k:Int):=by omega
 have h57:(g bs k:Int)≤57:=by omega
 rw [hD.1] at CD
 obtain ⟨x,hx⟩:∃ x,(sym bs (k+1)).1=x:=⟨_,rfl⟩
 obtain ⟨n,hn⟩:∃ x,(sym bs (k+1)).2=x:=⟨_,rfl⟩
 rw [hx,hn,Int.natCast_add] at CA
 rw [hx] at CD
 clear hP hG hb0 hc h1 h2
 cases hd:isD (g bs (k+1)) with
 | true=>
  have hs:=hD.2 hd
  have hk2:=g_in (bs:=bs) (k:=k+1) (by rw [isD_iff] at hd;omega)
  have hki2:(k:Int)+1+1≤(bs.length:Int):=by omega
  rw [hs] at hx hn
  simp only [] at hx hn
  rw [hd] at CD
  rw [HR.1,if_pos hd,hx]
  rw [hx] at hd
  have hxd:=isD_iff.1 hd
  subst hn
  have hxs:48≤(x:Int):=by omega
  have hx9:(x:Int)≤57:=by omega
  generalize g bs k=c at *
  have HV:=hide (show 10*((c:Int)-48)+(x:Int)-48=((10*(c-48)+(x-48):Nat):Int) by omega)
  have h10:0≤10*((c:Int)-48):=by omega
  have h11:10*((c:Int)-48)≤90:=by omega
  clear hD HR hd hxd hx hs hcs
  go_enter Tryz.func88,Tryz.ntmps88
  go_wp2_with fail
  refine CA.1.mono ?_
  rintro e w1 ⟨rfl,hB⟩
  have HB1:=hide (HB0.1.trans (hB.mono HB0.1.size))
  have HK1:=hide (HK.1.below hB HK.1.lt)
  clear hB CA HB0 HK c1
  obtain ⟨⟨d0,d1,d2,d3,d4⟩,f0,f1,f2,f3,f4⟩:=cells5 HK1.1
  go_wp2_with fail
  refine (CD.1 _).mono ?_
  rintro e w2 ⟨rfl,hw2⟩
  obtain rfl:_=w2:=hw2.symm
  go_wp2_with fail
  (try simp only [Exit.inBlock,Exit.then])
  exact bodyPost_ret (results_cell1 rfl _ _ w.heap.size _ _ rfl (set5 HK1.1 _ _ _ _ _) Tryz.underlying116 rfl (by kernel_rfl)) rfl ⟨by rw [HV.1];rfl,bel5 HB1.1 (Nat.le_refl _) _ _ _ _ _⟩
 | false=>
  rw [hd] at CD
  rw [HR.1,if_neg (by rw [hd];simp)]
  generalize g bs k=c at *
  have HV:=hide hcs
  clear hD HR hd hx hn hcs
  go_enter Tryz.func88,Tryz.ntmps88
  go_wp2_with fail
  refine CA.1.mono ?_
  rintro e w1 ⟨rfl,hB⟩
  have HB1:=hide (HB0.1.trans (hB.mono HB0.1.size))
  have HK1:=hide (HK.1.below hB HK.1.lt)
  clear hB CA HB0 HK c1
  obtain ⟨⟨d0,d1,d2,d3,d4⟩,f0,f1,f2,f3,f4⟩:=cells5 HK1.1
  go_wp2_with fail
  refine (CD.1 _).mono ?_
  rintro e w2 ⟨rfl,hw2⟩
  obtain rfl:_=w2:=hw2.symm
  go_wp2_with fail
  (try simp only [Exit.inBlock,Exit.then])
  exact bodyPost_ret (results_cell1 rfl _ _ w.heap.size _ _ rfl (set5 HK1.1 _ _ _ _ _) Tryz.underlying116 rfl (by kernel_rfl)) rfl ⟨by rw [HV.1];rfl,bel5 HB1.1 (Nat.le_refl _) _ _ _ _ _⟩
end
section
open Go.RowKit Mem
open Sy (g g_lt)
open Cl (Gives2 listOf isOf)
attribute [local go_sem] build_i0 build_i3 build_in build_is Rs.run_not_true Rs.run_not_false
variable {c:Nat}
theorem ctl_high (h:128≤c):ctl c=none:=by
 unfold ctl
 rw [if_neg (by omega),if_neg (by omega),if_neg (by omega),if_neg (by omega),if_neg (by omega),if_neg (by omega),if_neg (by omega)]
theorem isOf_high (h:128≤c):isOf c=false:=by
 unfold isOf Cl.nmOf
 rw [if_neg (by omega),if_neg (by omega),if_neg (by omega),if_neg (by omega),if_neg (by omega),if_neg (by omega)]
 rfl
theorem isA_high (h:128≤c):isA c=false:=by rw [← Bool.not_eq_true,isA_iff];omega
theorem isD_high (h:128≤c):isD c=false:=by rw [← Bool.not_eq_true,isD_iff];omega
theorem sym_like {bs:List UInt8} {k:Nat} (h:k<bs.length):((sym bs k).1=120↔g bs k=120)∧ctl (sym bs k).1=ctl (g bs k)∧isA (sym bs k).1=isA (g bs k)∧isD (sym bs k).1=isD (g bs k) ∧
  (g bs k<128→(sym bs k).2=1)∧1≤(sym bs k).2∧(sym bs k).2≤4∧k+(sym bs k).2≤bs.length:=by
 have h2:=sym_snd h
 rcases Nat.lt_or_ge (g bs k) 128 with hl|hl
 ·rw [sym_low h hl] at h2 ⊢
  exact ⟨Iff.rfl,rfl,rfl,rfl,fun _=>rfl,h2⟩
 ·have:=sym_high (bs:=bs) (k:=k) hl
  refine ⟨by omega,by rw [ctl_high this,ctl_high hl],by rw [isA_high this,isA_high hl],by rw [isD_high this,isD_high hl],fun h=>by omega,h2⟩
theorem ctl_low {n:Nat} (h:ctl c=some n):c<128:=by
 rcases Nat.lt_or_ge c 128 with h1|h1
 ·exact h1
 ·rw [ctl_high h1] at h;cases h
theorem common_any (bs:List UInt8) (A:Option Addr) (cap k:Nat) (w:World) (hP:PV bs A cap w) (hG:Gl w) (hk:k≤bs.length) :
  Calls Tryz.prog 90 #[.slice A bs.length cap,.int .i64 (k:Int)] w (GivesI (comP bs k) w):=by
 have hb0:Below w.heap.size w (w.alloc (.cells iz 116)):=(Below.refl w.heap.size w).alloc (Nat.le_refl _) _
 have HP:=hide (hP.below hb0)
 have HG:=hide (hG.below hb0)
 have hroom:=hP.room
 have htop:=hP.top
 have HB0:=hide hb0
 have HK:=hide (Blk.new w 116 iz)
 have hsz:=HK.1.lt
 clear hP hG hb0
 have hki:(k:Int)≤(bs.length:Int):=by omega
 have CA:=hide (at_nat bs A cap k _ HP.1 HG.1.tabs)
 rcases Nat.lt_or_ge k bs.length with h1|h1
 ·obtain ⟨l1,l2,l3,l4,l5,l6,l7,l8⟩:=sym_like (bs:=bs) (k:=k) h1
  have hki1:(k:Int)<(bs.length:Int):=by omega
  have HQ:=hide (show comP bs k=if g bs k=120 then codeP bs (k+1) else match ctl (g bs k) with
   | some n=>.lit n (k+1)
   | none=>if isOf (g bs k) then .cls (g bs k) (k+1) else if isA (g bs k)||isD (g bs k) then .err 32 else .lit (sym bs k).1 (k+(sym bs k).2) by unfold comP;rw [if_neg (by omega)];rfl)
  have h256:=g_lt bs k
  have HOH:=hide (fun (h:isOf (g bs k)=true)=>show g bs k<128 by
   rcases Nat.lt_or_ge (g bs k) 128 with h1|h1
   ·exact h1
   ·rw [isOf_high h1] at h;cases h)
  have CC:=hide (fun W=>control_any (sym bs k).1 W)
  have CL:=hide (fun W=>isLetter_any (sym bs k).1 W)
  have CD:=hide (fun W=>isDigit_any (sym bs k).1 W)
  rw [l2] at CC
  rw [l3] at CL
  rw [l4] at CD
  obtain ⟨x,hx⟩:∃ x,(sym bs k).1=x:=⟨_,rfl⟩
  obtain ⟨n,hn⟩:∃ x,(sym bs k).2=x:=⟨_,rfl⟩
  rw [hx,hn] at CA HQ
  rw [hx] at l1 CC CL CD
  rw [hn] at l5 l6 l7 l8
  have en:((n:Int)==0)=false:=by rw [beq_eq_false_iff_ne];omega
  have hkn:(k:Int)+(n:Int)≤(bs.length:Int):=by omega
  have H5:=hide l5
  clear l2 l3 l4 hx hn l5 l6 l7
  by_cases h2:g bs k=120
  ·rw [HQ.1.trans (if_pos h2)]
   have CX:=hide (fun W (h:PV bs A cap W)=>code_any bs A cap (k+1) W h h1)
   simp only [Int.natCast_add] at CX
   have ex:((x:Int)==120)=true:=by rw [beq_iff_eq];omega
   generalize codeP bs (k+1)=y at *
   clear HQ CC CL CD l1 h2 HOH H5
   go_enter Tryz.func90,Tryz.ntmps90
   go_wp2_with fail
   refine CA.1.mono ?_
   rintro e w1 ⟨rfl,hB⟩
   have HB1:=hide (HB0.1.trans (hB.mono HB0.1.size))
   have HK1:=hide (HK.1.below hB HK.1.lt)
   have HP1:=hide (HP.1.below hB)
   have HG1:=hide (HG.1.below hB)
   have hsz1:w.heap.size<_:=Nat.lt_of_lt_of_le hsz hB.size
   clear hB HP HG HB0 HK
   clear CA
   go_wp2_with fail
   refine (CX.1 w1 HP1.1).mono ?_
   rintro e w5 ⟨v,rfl,hl,hB⟩
   have HL:=hide (hl.set5 hsz1)
   obtain ⟨A5,c5,rfl,-⟩:=hl
   have HB5:=hide (HB1.1.trans (hB.mono HB1.1.size))
   have HK5:=hide (HK1.1.below hB HK1.1.lt)
   clear hB HB1 HK1
   obtain ⟨⟨d0,d1,d2,d3,d4⟩,f0,f1,f2,f3,f4⟩:=cells5 HK5.1
   unfold itV
   go_wp2_with fail
   (try simp only [Exit.inBlock,Exit.then])
   exact bodyPost_ret (results_cell2 rfl _ _ w.heap.size _ _ _ rfl rfl (set5 HK5.1 _ _ _ _ _) Tryz.underlying116 rfl (by kernel_rfl)) rfl ⟨_,rfl,(HL.1 _ _ _ _ _).mono (Nat.le_of_lt hsz1),bel5 HB5.1 (Nat.le_refl _) _ _ _ _ _⟩
  ·have HQ1:=hide (HQ.1.trans (if_neg h2))
   have ex:((x:Int)==120)=false:=by rw [beq_eq_false_iff_ne];omega
   clear HQ l1 h2
   cases h3:ctl (g bs k) with
   | some m=>
    have hn1:=H5.1 (ctl_low h3)
    rw [h3] at CC HQ1
    simp only [] at HQ1
    rw [HQ1.1]
    have HN:=hide (show (k:Int)+(n:Int)=(k:Int)+1 by omega)
    simp only [Option.getD_some,Option.isSome_some] at CC
    clear HQ1 CL CD HOH H5 hn1 h3
    go_enter Tryz.func90,Tryz.ntmps90
    go_wp2_with fail
    refine CA.1.mono ?_
    rintro e w1 ⟨rfl,hB⟩
    have HB1:=hide (HB0.1.trans (hB.mono HB0.1.size))
    have HK1:=hide (HK.1.below hB HK.1.lt)
    have HP1:=hide (HP.1.below hB)
    have HG1:=hide (HG.1.below hB)
    have hsz1:w.heap.size<_:=Nat.lt_of_lt_of_le hsz hB.size
    clear hB HP HG HB0 HK
    clear CA
    go_wp2_with fail
    refine (CC.1 w1).mono ?_
    rintro e w2 ⟨rfl,hw2⟩
    obtain rfl:_=w2:=hw2.symm
    obtain ⟨⟨d0,d1,d2,d3,d4⟩,f0,f1,f2,f3,f4⟩:=cells5 HK1.1
    go_wp2_with fail
    (try simp only [Exit.inBlock,Exit.then])
    exact bodyPost_ret (results_cell2 rfl _ _ w.heap.size _ _ _ rfl rfl (by first|exact set5 HK1.1 _ _ _ _ _|exact HK1.1|exact Blk.new _ _ _) Tryz.underlying116 rfl (by kernel_rfl)) rfl ⟨_,by rw [HN.1];rfl,Lies.nil _ _,(by first|exact bel5 HB1.1 (Nat.le_refl _) _ _ _ _ _|exact HB1.1|exact (Below.refl _ _).alloc (Nat.le_refl _) _)⟩
   | none=>
    rw [h3] at CC HQ1
    simp only [Option.getD_none,Option.isSome_none] at CC HQ1
    obtain ⟨b,off,hA,hb,hc⟩:=HP.1.cell h1
    have c1:=hc k h1
    subst hA
    have CO:=hide (fun W (hT:Cl.Tb W)=>Cl.pof_any (g bs k) h256 W hT)
    have hA:∃ c,c=g bs k:=⟨_,rfl⟩
    clear hc h3
    cases h4:isOf (g bs k) with
    | true=>
     have hn1:=H5.1 (HOH.1 h4)
     rw [h4] at CO HQ1
     simp only [if_true] at HQ1
     rw [HQ1.1]
     have HN:=hide (show (k:Int)+(n:Int)=(k:Int)+1 by omega)
     have hlen:=(Cl.listOf_len (g bs k)).1
     unfold Cl.Gives2 at CO
     generalize g bs k=c at *
     clear HQ1 CL CD HOH H5 hn1 h4
     go_enter Tryz.func90,Tryz.ntmps90
     go_wp2_with fail
     refine CA.1.mono ?_
     rintro e w1 ⟨rfl,hB⟩
     have c1:=(hB.cell (p:=⟨b,off+k,none⟩) hb).trans c1
     have HB1:=hide (HB0.1.trans (hB.mono HB0.1.size))
     have HK1:=hide (HK.1.below hB HK.1.lt)
     have HP1:=hide (HP.1.below hB)
     have HG1:=hide (HG.1.below hB)
     have hsz1:w.heap.size<_:=Nat.lt_of_lt_of_le hsz hB.size
     clear hB HP HG HB0 HK
     clear CA
     go_wp2_with fail
     refine (CC.1 w1).mono ?_
     rintro e w2 ⟨rfl,hw2⟩
     obtain rfl:_=w2:=hw2.symm
     go_wp2_with fail
     refine (CO.1 w1 HG1.1.sets).mono ?_
     rintro e w5 ⟨v,rfl,hg⟩
     obtain ⟨hl,hB⟩:=Lies.of hg
     have HL:=hide (hl.set5 hsz1)
     obtain ⟨A5,c5,rfl,-⟩:=hl
     have HB5:=hide (HB1.1.trans (hB.mono HB1.1.size))
     have HK5:=hide (HK1.1.below hB HK1.1.lt)
     clear hB HB1 HK1 hg
     generalize (listOf c).length=q at *
     obtain ⟨⟨d0,d1,d2,d3,d4⟩,f0,f1,f2,f3,f4⟩:=cells5 HK5.1
     go_wp2_with fail
     (try simp only [Exit.inBlock,Exit.then])
     exact bodyPost_ret (results_cell2 rfl _ _ w.heap.size _ _ _ rfl rfl (set5 HK5.1 _ _ _ _ _) Tryz.underlying116 rfl (by kernel_rfl)) rfl ⟨_,by rw [HN.1];rfl,(HL.1 _ _ _ _ _).mono (Nat.le_of_lt hsz1),bel5 HB5.1 (Nat.le_refl _) _ _ _ _ _⟩
    | false=>
     have hlen:=(Cl.listOf_len (g bs k)).2 h4
     rw [h4] at CO HQ1
     rw [hlen] at CO
     simp only [Bool.false_eq_true,if_false] at HQ1
     have HQ2:=hide (show ∀ p,(isA (g bs k)||isD (g bs k))=p→comP bs k=if p then .err 32 else .lit x (k+n) from fun p hp=>by rw [HQ1.1,hp])
     unfold Cl.Gives2 at CO
     generalize g bs k=c at *
     clear HQ1 HOH H5 h4 hlen
     cases h5:isA c with
     | true=>
      rw [h5] at CL
      rw [HQ2.1 true (by rw [h5];rfl),if_pos rfl]
      clear HQ2 CD h5
      go_enter Tryz.func90,Tryz.ntmps90
      go_wp2_with fail
      refine CA.1.mono ?_
      rintro e w1 ⟨rfl,hB⟩
      have c1:=(hB.cell (p:=⟨b,off+k,none⟩) hb).trans c1
      have HB1:=hide (HB0.1.trans (hB.mono HB0.1.size))
      have HK1:=hide (HK.1.below hB HK.1.lt)
      have HP1:=hide (HP.1.below hB)
      have HG1:=hide (HG.1.below hB)
      have hsz1:w.heap.size<_:=Nat.lt_of_lt_of_le hsz hB.size
      clear hB HP HG HB0 HK
      clear CA
      go_wp2_with fail
      refine (CC.1 w1).mono ?_
      rintro e w2 ⟨rfl,hw2⟩
      obtain rfl:_=w2:=hw2.symm
      go_wp2_with fail
      refine (CO.1 w1 HG1.1.sets).mono ?_
      rintro e w5 ⟨v,rfl,hg⟩
      obtain ⟨hl,hB⟩:=Lies.of hg
      obtain ⟨A5,c5,rfl,-⟩:=hl
      have HB1:=hide (HB1.1.trans (hB.mono HB1.1.size))
      have HK1:=hide (HK1.1.below hB HK1.1.lt)
      clear hB hg
      obtain ⟨⟨d0,d1,d2,d3,d4⟩,f0,f1,f2,f3,f4⟩:=cells5 HK1.1
      go_wp2_with fail
      refine (CL.1 _).mono ?_
      rintro e w6 ⟨rfl,hw6⟩
      obtain rfl:_=w6:=hw6.symm
      go_wp2_with fail
      (try simp only [Exit.inBlock,Exit.then])
      exact bodyPost_ret (results_cell2 rfl _ _ w.heap.size _ _ _ rfl rfl (by first|exact set5 HK1.1 _ _ _ _ _|exact HK1.1|exact Blk.new _ _ _) Tryz.underlying116 rfl (by kernel_rfl)) rfl ⟨_,rfl,Lies.nil _ _,(by first|exact bel5 HB1.1 (Nat.le_refl _) _ _ _ _ _|exact HB1.1|exact (Below.refl _ _).alloc (Nat.le_refl _) _)⟩
     | false=>
      rw [h5] at CL
      cases h6:isD c with
      | true=>
       rw [h6] at CD
       rw [HQ2.1 true (by rw [h5,h6];rfl),if_pos rfl]
       clear HQ2 h5 h6
       go_enter Tryz.func90,Tryz.ntmps90
       go_wp2_with fail
       refine CA.1.mono ?_
       rintro e w1 ⟨rfl,hB⟩
       have c1:=(hB.cell (p:=⟨b,off+k,none⟩) hb).trans c1
       have HB1:=hide (HB0.1.trans (hB.mono HB0.1.size))
       have HK1:=hide (HK.1.below hB HK.1.lt)
       have HP1:=hide (HP.1.below hB)
       have HG1:=hide (HG.1.below hB)
       have hsz1:w.heap.size<_:=Nat.lt_of_lt_of_le hsz hB.size
       clear hB HP HG HB0 HK
       clear CA
       go_wp2_with fail
       refine (CC.1 w1).mono ?_
       rintro e w2 ⟨rfl,hw2⟩
       obtain rfl:_=w2:=hw2.symm
       go_wp2_with fail
       refine (CO.1 w1 HG1.1.sets).mono ?_
       rintro e w5 ⟨v,rfl,hg⟩
       obtain ⟨hl,hB⟩:=Lies.of hg
       obtain ⟨A5,c5,rfl,-⟩:=hl
       have HB1:=hide (HB1.1.trans (hB.mono HB1.1.size))
       have HK1:=hide (HK1.1.below hB HK1.1.lt)
       clear hB hg
       obtain ⟨⟨d0,d1,d2,d3,d4⟩,f0,f1,f2,f3,f4⟩:=cells5 HK1.1
       go_wp2_with fail
       refine (CL.1 _).mono ?_
       rintro e w6 ⟨rfl,hw6⟩
       obtain rfl:_=w6:=hw6.symm
       go_wp2_with fail
       refine (CD.1 _).mono ?_
       rintro e w7 ⟨rfl,hw7⟩
       obtain rfl:_=w7:=hw7.symm
       go_wp2_with fail
       (try simp only [Exit.inBlock,Exit.then])
       exact bodyPost_ret (results_cell2 rfl _ _ w.heap.size _ _ _ rfl rfl (by first|exact set5 HK1.1 _ _ _ _ _|exact HK1.1|exact Blk.new _ _ _) Tryz.underlying116 rfl (by kernel_rfl)) rfl ⟨_,rfl,Lies.nil _ _,(by first|exact bel5 HB1.1 (Nat.le_refl _) _ _ _ _ _|exact HB1.1|exact (Below.refl _ _).alloc (Nat.le_refl _) _)⟩
      | false=>
       rw [h6] at CD
       rw [HQ2.1 false (by rw [h5,h6];rfl),if_neg (by simp)]
       clear HQ2 h5 h6
       go_enter Tryz.func90,Tryz.ntmps90
       go_wp2_with fail
       refine CA.1.mono ?_
       rintro e w1 ⟨rfl,hB⟩
       have c1:=(hB.cell (p:=⟨b,off+k,none⟩) hb).trans c1
       have HB1:=hide (HB0.1.trans (hB.mono HB0.1.size))
       have HK1:=hide (HK.1.below hB HK.1.lt)
       have HP1:=hide (HP.1.below hB)
       have HG1:=hide (HG.1.below hB)
       have hsz1:w.heap.size<_:=Nat.lt_of_lt_of_le hsz hB.size
       clear hB HP HG HB0 HK
       clear CA
       go_wp2_with fail
       refine (CC.1 w1).mono ?_
       rintro e w2 ⟨rfl,hw2⟩
       obtain rfl:_=w2:=hw2.symm
       go_wp2_with fail
       refine (CO.1 w1 HG1.1.sets).mono ?_
       rintro e w5 ⟨v,rfl,hg⟩
       obtain ⟨hl,hB⟩:=Lies.of hg
       obtain ⟨A5,c5,rfl,-⟩:=hl
       have HB1:=hide (HB1.1.trans (hB.mono HB1.1.size))
       have HK1:=hide (HK1.1.below hB HK1.1.lt)
       clear hB hg
       obtain ⟨⟨d0,d1,d2,d3,d4⟩,f0,f1,f2,f3,f4⟩:=cells5 HK1.1
       go_wp2_with fail
       refine (CL.1 _).mono ?_
       rintro e w6 ⟨rfl,hw6⟩
       obtain rfl:_=w6:=hw6.symm
       go_wp2_with fail
       refine (CD.1 _).mono ?_
       rintro e w7 ⟨rfl,hw7⟩
       obtain rfl:_=w7:=hw7.symm
       go_wp2_with fail
       (try simp only [Exit.inBlock,Exit.then])
       exact bodyPost_ret (results_cell2 rfl _ _ w.heap.size _ _ _ rfl rfl (by first|exact set5 HK1.1 _ _ _ _ _|exact HK1.1|exact Blk.new _ _ _) Tryz.underlying116 rfl (by kernel_rfl)) rfl ⟨_,rfl,Lies.nil _ _,(by first|exact bel5 HB1.1 (Nat.le_refl _) _ _ _ _ _|exact HB1.1|exact (Below.refl _ _).alloc (Nat.le_refl _) _)⟩
 ·rw [show comP bs k=.err 32 by unfold comP;rw [if_pos h1]]
  rw [sym_out h1] at CA
  clear h1
  go_enter Tryz.func90,Tryz.ntmps90
  go_wp2_with fail
  refine CA.1.mono ?_
  rintro e w1 ⟨rfl,hB⟩
  have HB1:=hide (HB0.1.trans (hB.mono HB0.1.size))
  have HK1:=hide (HK.1.below hB HK.1.lt)
  have HP1:=hide (HP.1.below hB)
  have HG1:=hide (HG.1.below hB)
  have hsz1:w.heap.size<_:=Nat.lt_of_lt_of_le hsz hB.size
  clear hB HP HG HB0 HK
  obtain ⟨⟨d0,d1,d2,d3,d4⟩,f0,f1,f2,f3,f4⟩:=cells5 HK1.1
  clear CA
  go_wp2_with fail
  (try simp only [Exit.inBlock,Exit.then])
  exact bodyPost_ret (results_cell2 rfl _ _ w.heap.size _ _ _ rfl rfl (by first|exact set5 HK1.1 _ _ _ _ _|exact HK1.1|exact Blk.new _ _ _) Tryz.underlying116 rfl (by kernel_rfl)) rfl ⟨_,rfl,Lies.nil _ _,(by first|exact bel5 HB1.1 (Nat.le_refl _) _ _ _ _ _|exact HB1.1|exact (Below.refl _ _).alloc (Nat.le_refl _) _)⟩
end
section
open Go.RowKit Mem
open Sy (g)
attribute [local go_sem] build_i0 build_i3 build_in build_is Rs.run_not_true Rs.run_not_false
theorem hldO_high {c:Nat} (h:128≤c):hldO c=none:=by
 unfold hldO
 rw [if_neg (by omega),if_neg (by omega),if_neg (by omega),if_neg (by omega),if_neg (by omega)]
theorem hldO_low {c n:Nat} (h:hldO c=some n):c<128∧c≠0:=by
 constructor
 ·rcases Nat.lt_or_ge c 128 with h1|h1
  ·exact h1
  ·rw [hldO_high h1] at h;cases h
 ·rintro rfl;cases h
theorem sym_like2 (bs:List UInt8) (k:Nat):((sym bs k).1=107↔g bs k=107)∧((sym bs k).1=48↔g bs k=48)∧hldO (sym bs k).1=hldO (g bs k)∧isD (sym bs k).1=isD (g bs k) ∧
  (g bs k<128→g bs k≠0→(sym bs k).2=1)∧(sym bs k).2≤4:=by
 rcases Nat.lt_or_ge k bs.length with h|h
 ·have h2:=sym_snd h
  rcases Nat.lt_or_ge (g bs k) 128 with hl|hl
  ·rw [sym_low h hl] at h2 ⊢
   exact ⟨Iff.rfl,Iff.rfl,rfl,rfl,fun _ _=>rfl,by omega⟩
  ·have:=sym_high (bs:=bs) (k:=k) hl
   refine ⟨by omega,by omega,by rw [hldO_high this,hldO_high hl],by rw [isD_high this,isD_high hl],fun h=>by omega,by omega⟩
 ·rw [sym_out h,g_out h]
  exact ⟨Iff.rfl,Iff.rfl,rfl,rfl,fun _ h=>absurd rfl h,by omega⟩
theorem escz_no {bs:List UInt8} {i:Int} (b:Bool) (h:¬ gz bs i=92):escz bs b i=.err 10:=by unfold escz;rw [if_neg h]
theorem escz_yes {bs:List UInt8} {k:Nat} (b:Bool) (h:g bs k=92):escz bs b (k:Int)=escP bs b (k+1):=by unfold escz;rw [gz_nat,if_pos h,Int.toNat_natCast]
theorem inner_any (bs:List UInt8) (A:Option Addr) (cap:Nat) (i:Int) (w:World) (hP:PV bs A cap w) (hG:Gl w) :
  Calls Tryz.prog 121 #[.slice A bs.length cap,.int .i64 i] w (GivesI (escz bs true i) w):=by
 have hb0:Below w.heap.size w (w.alloc (.cells iz 116)):=(Below.refl w.heap.size w).alloc (Nat.le_refl _) _
 have HP:=hide (hP.below hb0)
 have HG:=hide (hG.below hb0)
 have hroom:=hP.room
 have htop:=hP.top
 have HB0:=hide hb0
 have HK:=hide (Blk.new w 116 iz)
 have hsz:=HK.1.lt
 clear hP hG hb0
 have C1:=hide (stands_any bs A cap _ HP.1 i 92 (by omega))
 by_cases h1:gz bs i=92
 ·obtain ⟨k,rfl,hk,h2⟩:=gz_in (bs:=bs) (i:=i) (by omega)
  rw [h2] at h1
  rw [gz_nat,decide_eq_true h1] at C1
  rw [escz_yes true h1]
  have hki:(k:Int)+1≤(bs.length:Int):=by omega
  by_cases h3:g bs (k+1)=98
  ·rw [show escP bs true (k+1)=.lit 8 (k+2) by unfold escP;rw [if_pos rfl,if_pos h3]]
   have C3:=hide (stands_e HP.1 (i:=(k:Int)+1) (k:=k+1) (c:=98) (b:=true) (by omega) (by push_cast;rfl) (by simp [h3]))
   have hk2:=g_in (bs:=bs) (k:=k+1) (by omega)
   have hki2:(k:Int)+2≤(bs.length:Int):=by omega
   clear h1 h2 h3
   go_enter Tryz.func121,Tryz.ntmps121
   go_wp2_with fail
   refine C1.1.mono ?_
   rintro e w1 ⟨rfl,rfl⟩
   go_wp2_with fail
   refine C3.1.mono ?_
   rintro e w1 ⟨rfl,rfl⟩
   go_wp2_with fail
   (try simp only [Exit.inBlock,Exit.then])
   exact bodyPost_ret (results_cell2 rfl _ _ w.heap.size _ _ _ rfl rfl (Blk.new _ _ _) Tryz.underlying116 rfl (by kernel_rfl)) rfl ⟨_,rfl,Lies.nil _ _,(Below.refl _ _).alloc (Nat.le_refl _) _⟩
  ·rw [show escP bs true (k+1)=comP bs (k+1) by unfold escP;rw [if_pos rfl,if_neg h3]]
   have C3:=hide (stands_e HP.1 (i:=(k:Int)+1) (k:=k+1) (c:=98) (b:=false) (by omega) (by push_cast;rfl) (by simp [h3]))
   have CX:=hide (common_any bs A cap (k+1) _ HP.1 HG.1 hk)
   rw [Int.natCast_add] at CX
   generalize comP bs (k+1)=y at *
   have HB1:=HB0
   have HK1:=HK
   have hsz1:=hsz
   clear h1 h2 h3
   go_enter Tryz.func121,Tryz.ntmps121
   go_wp2_with fail
   refine C1.1.mono ?_
   rintro e w1 ⟨rfl,rfl⟩
   go_wp2_with fail
   refine C3.1.mono ?_
   rintro e w1 ⟨rfl,rfl⟩
   go_wp2_with fail
   refine CX.1.mono ?_
   rintro e w5 ⟨v,rfl,hl,hB⟩
   have HL:=hide (hl.set5 hsz1)
   obtain ⟨A5,c5,rfl,-⟩:=hl
   have HB5:=hide (HB1.1.trans (hB.mono HB1.1.size))
   have HK5:=hide (HK1.1.below hB HK1.1.lt)
   clear hB HB1 HK1
   obtain ⟨⟨d0,d1,d2,d3,d4⟩,f0,f1,f2,f3,f4⟩:=cells5 HK5.1
   unfold itV
   go_wp2_with fail
   (try simp only [Exit.inBlock,Exit.then])
   exact bodyPost_ret (results_cell2 rfl _ _ w.heap.size _ _ _ rfl rfl (set5 HK5.1 _ _ _ _ _) Tryz.underlying116 rfl (by kernel_rfl)) rfl ⟨_,rfl,(HL.1 _ _ _ _ _).mono (Nat.le_of_lt hsz1),bel5 HB5.1 (Nat.le_refl _) _ _ _ _ _⟩
 ·rw [escz_no true h1]
  rw [decide_eq_false h1] at C1
  clear h1
  go_enter Tryz.func121,Tryz.ntmps121
  go_wp2_with fail
  refine C1.1.mono ?_
  rintro e w1 ⟨rfl,rfl⟩
  go_wp2_with fail
  (try simp only [Exit.inBlock,Exit.then])
  exact bodyPost_ret (results_cell2 rfl _ _ w.heap.size _ _ _ rfl rfl (Blk.new _ _ _) Tryz.underlying116 rfl (by kernel_rfl)) rfl ⟨_,rfl,Lies.nil _ _,(Below.refl _ _).alloc (Nat.le_refl _) _⟩
theorem escape_any (bs:List UInt8) (A:Option Addr) (cap:Nat) (i:Int) (w:World) (hP:PV bs A cap w) (hG:Gl w) :
  Calls Tryz.prog 72 #[.slice A bs.length cap,.int .i64 i] w (GivesI (escz bs false i) w):=by
 have hb0:Below w.heap.size w (w.alloc (.cells iz 116)):=(Below.refl w.heap.size w).alloc (Nat.le_refl _) _
 have HP:=hide (hP.below hb0)
 have HG:=hide (hG.below hb0)
 have hroom:=hP.room
 have htop:=hP.top
 have HB0:=hide hb0
 have HK:=hide (Blk.new w 116 iz)
 have hsz:=HK.1.lt
 clear hP hG hb0
 have C1:=hide (stands_any bs A cap _ HP.1 i 92 (by omega))
 by_cases h1:gz bs i=92
 ·obtain ⟨k,rfl,hk,h2⟩:=gz_in (bs:=bs) (i:=i) (by omega)
  rw [h2] at h1
  rw [gz_nat,decide_eq_true h1] at C1
  rw [escz_yes false h1]
  have hki:(k:Int)+1≤(bs.length:Int):=by omega
  have CA:=hide (at_nat bs A cap (k+1) _ HP.1 HG.1.tabs)
  obtain ⟨l1,l2,l3,l4,l5,l6⟩:=sym_like2 bs (k+1)
  have CD:=hide (fun W=>isDigit_any (sym bs (k+1)).1 W)
  have CH:=hide (fun W=>held_any (sym bs (k+1)).1 W)
  rw [l4] at CD
  rw [l3] at CH
  obtain ⟨x,hx⟩:∃ x,(sym bs (k+1)).1=x:=⟨_,rfl⟩
  obtain ⟨n,hn⟩:∃ x,(sym bs (k+1)).2=x:=⟨_,rfl⟩
  rw [hx,hn,Int.natCast_add] at CA
  rw [hx] at l1 l2 CD CH
  rw [hn] at l5 l6
  have hni:(n:Int)≤4:=by omega
  have HQ:=hide (show escP bs false (k+1)=if g bs (k+1)=107 then keyP bs (k+1+1) else if 49≤g bs (k+1)∧g bs (k+1)≤57 then refP bs (k+1) else match hldO (g bs (k+1)) with
   | some n=>.hld n (k+1+1)
   | none=>comP bs (k+1) by unfold escP;rw [if_neg (by simp)];rfl)
  have hin:g bs (k+1)≠0→k+1<bs.length:=g_in
  have HRF:=hide (fun W (h:PV bs A cap W) (hG:Gl W)=>ref_any bs A cap (k+1) W h hG)
  have H5:=hide l5
  clear l3 l4 l5 hx hn h1 h2
  by_cases h3:g bs (k+1)=107
  ·rw [HQ.1.trans (if_pos h3)]
   have ex:((x:Int)==107)=true:=by rw [beq_iff_eq];omega
   have CX:=hide (fun W (h:PV bs A cap W) (hG:Gl W)=>key_any bs A cap (k+1+1) W h hG (hin (by omega)))
   have hki2:(k:Int)+2≤(bs.length:Int):=by have:=hin (by omega);omega
   simp only [show ((k+1+1:Nat):Int)=(k:Int)+2 from rfl] at CX
   generalize keyP bs (k+1+1)=y at *
   clear HQ CD CH l1 l2 h3 H5 HRF hin
   go_enter Tryz.func72,Tryz.ntmps72
   go_wp2_with fail
   refine C1.1.mono ?_
   rintro e w1 ⟨rfl,rfl⟩
   go_wp2_with fail
   refine CA.1.mono ?_
   rintro e w1 ⟨rfl,hB⟩
   have HB1:=hide (HB0.1.trans (hB.mono HB0.1.size))
   have HK1:=hide (HK.1.below hB HK.1.lt)
   have HP1:=hide (HP.1.below hB)
   have HG1:=hide (HG.1.below hB)
   have hsz1:w.heap.size<_:=Nat.lt_of_lt_of_le hsz hB.size
   clear hB HP HG HB0 HK
   clear CA C1
   go_wp2_with fail
   refine (CX.1 w1 HP1.1 HG1.1).mono ?_
   rintro e w5 ⟨v,rfl,hl,hB⟩
   have HL:=hide (hl.set5 hsz1)
   obtain ⟨A5,c5,rfl,-⟩:=hl
   have HB5:=hide (HB1.1.trans (hB.mono HB1.1.size))
   have HK5:=hide (HK1.1.below hB HK1.1.lt)
   clear hB HB1 HK1
   obtain ⟨⟨d0,d1,d2,d3,d4⟩,f0,f1,f2,f3,f4⟩:=cells5 HK5.1
   unfold itV
   go_wp2_with fail
   (try simp only [Exit.inBlock,Exit.then])
   exact bodyPost_ret (results_cell2 rfl _ _ w.heap.size _ _ _ rfl rfl (set5 HK5.1 _ _ _ _ _) Tryz.underlying116 rfl (by kernel_rfl)) rfl ⟨_,rfl,(HL.1 _ _ _ _ _).mono (Nat.le_of_lt hsz1),bel5 HB5.1 (Nat.le_refl _) _ _ _ _ _⟩
  ·have HQ1:=hide (HQ.1.trans (if_neg h3))
   have ex:((x:Int)==107)=false:=by rw [beq_eq_false_iff_ne];omega
   clear HQ l1 h3
   by_cases h4:49≤g bs (k+1)∧g bs (k+1)≤57
   ·have hd:isD (g bs (k+1))=true:=by rw [isD_iff];omega
    rw [hd] at CD
    have e48:((x:Int) != 48)=true:=by simp;omega
    rw [HQ1.1.trans (if_pos h4)]
    have hki2:(k:Int)+2≤(bs.length:Int):=by have:=hin (by omega);omega
    have CX:=hide (fun W h hG=>HRF.1 W h hG h4.1 h4.2)
    rw [Int.natCast_add] at CX
    have HS:=hide (show (refP bs (k+1)).kind=4∧(refP bs (k+1)).name=[]∧(refP bs (k+1)).eno=0∧(refP bs (k+1)).set=[] by unfold refP;split<;>exact ⟨rfl,rfl,rfl,rfl⟩)
    generalize refP bs (k+1)=y at *
    clear HQ1 CH l2 hd h4 H5 HRF hin
    go_enter Tryz.func72,Tryz.ntmps72
    go_wp2_with fail
    refine C1.1.mono ?_
    rintro e w1 ⟨rfl,rfl⟩
    go_wp2_with fail
    refine CA.1.mono ?_
    rintro e w1 ⟨rfl,hB⟩
    have HB1:=hide (HB0.1.trans (hB.mono HB0.1.size))
    have HK1:=hide (HK.1.below hB HK.1.lt)
    have HP1:=hide (HP.1.below hB)
    have HG1:=hide (HG.1.below hB)
    have hsz1:w.heap.size<_:=Nat.lt_of_lt_of_le hsz hB.size
    clear hB HP HG HB0 HK
    clear CA C1
    go_wp2_with fail
    refine (CD.1 _).mono ?_
    rintro e w2 ⟨rfl,hw2⟩
    obtain rfl:_=w2:=hw2.symm
    go_wp2_with fail
    refine (CX.1 _ HP1.1 HG1.1).mono ?_
    rintro e w5 ⟨rfl,hB⟩
    have HB5:=hide (HB1.1.trans (hB.mono HB1.1.size))
    have HK5:=hide (HK1.1.below hB HK1.1.lt)
    clear hB HB1 HK1
    obtain ⟨⟨d0,d1,d2,d3,d4⟩,f0,f1,f2,f3,f4⟩:=cells5 HK5.1
    go_wp2_with fail
    (try simp only [Exit.inBlock,Exit.then])
    exact bodyPost_ret (results_cell2 rfl _ _ w.heap.size _ _ _ rfl rfl (set5 HK5.1 _ _ _ _ _) Tryz.underlying116 rfl (by kernel_rfl)) rfl ⟨.slice none 0 0,by unfold itV;rw [HS.1.2.1,HS.1.2.2.1];rfl,by rw [HS.1.2.2.2];exact Lies.nil _ _,bel5 HB5.1 (Nat.le_refl _) _ _ _ _ _⟩
   ·have HQ2:=hide (HQ1.1.trans (if_neg h4))
    have HD:=hide (show ∀ b,isD (g bs (k+1))=b→b=true→((x:Int) != 48)=false from fun b hb h=>by
     rw [h,isD_iff] at hb
     simp;omega)
    clear HQ1 l2 HRF
    cases h5:hldO (g bs (k+1)) with
    | some m=>
     obtain ⟨hlo,hnz⟩:=hldO_low h5
     have hn1:=H5.1 hlo hnz
     have hd:isD (g bs (k+1))=false:=by
      rw [← Bool.not_eq_true,isD_iff]
      intro h
      unfold hldO at h5
      rw [if_neg (by omega),if_neg (by omega),if_neg (by omega),if_neg (by omega),if_neg (by omega)] at h5
      cases h5
     rw [hd] at CD
     rw [h5] at CH HQ2
     simp only [] at HQ2
     simp only [Option.getD_some,Option.isSome_some] at CH
     rw [HQ2.1]
     have hki2:(k:Int)+1+(n:Int)≤(bs.length:Int):=by have:=hin hnz;omega
     have HN:=hide (show (k:Int)+1+(n:Int)=(k:Int)+1+1 by omega)
     clear HQ2 HD H5 h4 h5 hlo hnz hn1 hd hin
     go_enter Tryz.func72,Tryz.ntmps72
     go_wp2_with fail
     refine C1.1.mono ?_
     rintro e w1 ⟨rfl,rfl⟩
     go_wp2_with fail
     refine CA.1.mono ?_
     rintro e w1 ⟨rfl,hB⟩
     have HB1:=hide (HB0.1.trans (hB.mono HB0.1.size))
     have HK1:=hide (HK.1.below hB HK.1.lt)
     have HP1:=hide (HP.1.below hB)
     have HG1:=hide (HG.1.below hB)
     have hsz1:w.heap.size<_:=Nat.lt_of_lt_of_le hsz hB.size
     clear hB HP HG HB0 HK
     clear CA C1
     go_wp2_with fail
     refine (CD.1 _).mono ?_
     rintro e w2 ⟨rfl,hw2⟩
     obtain rfl:_=w2:=hw2.symm
     go_wp2_with fail
     refine (CH.1 _).mono ?_
     rintro e w3 ⟨rfl,hw3⟩
     obtain rfl:_=w3:=hw3.symm
     obtain ⟨⟨d0,d1,d2,d3,d4⟩,f0,f1,f2,f3,f4⟩:=cells5 HK1.1
     go_wp2_with fail
     (try simp only [Exit.inBlock,Exit.then])
     exact bodyPost_ret (results_cell2 rfl _ _ w.heap.size _ _ _ rfl rfl (by first|exact set5 HK1.1 _ _ _ _ _|exact HK1.1|exact Blk.new _ _ _) Tryz.underlying116 rfl (by kernel_rfl)) rfl ⟨_,by rw [HN.1];rfl,Lies.nil _ _,(by first|exact bel5 HB1.1 (Nat.le_refl _) _ _ _ _ _|exact HB1.1|exact (Below.refl _ _).alloc (Nat.le_refl _) _)⟩
    | none=>
     rw [h5] at CH HQ2
     simp only [] at HQ2
     simp only [Option.getD_none,Option.isSome_none] at CH
     rw [HQ2.1]
     have CX:=hide (fun W (h:PV bs A cap W) (hG:Gl W)=>common_any bs A cap (k+1) W h hG hk)
     rw [Int.natCast_add] at CX
     generalize comP bs (k+1)=y at *
     have HD2:=HD.1 _ rfl
     clear HQ2 H5 h4 h5 HD hin
     cases hd:isD (g bs (k+1)) with
     | true=>
      have e48:=HD2 hd
      rw [hd] at CD
      clear HD2 hd
      go_enter Tryz.func72,Tryz.ntmps72
      go_wp2_with fail
      refine C1.1.mono ?_
      rintro e w1 ⟨rfl,rfl⟩
      go_wp2_with fail
      refine CA.1.mono ?_
      rintro e w1 ⟨rfl,hB⟩
      have HB1:=hide (HB0.1.trans (hB.mono HB0.1.size))
      have HK1:=hide (HK.1.below hB HK.1.lt)
      have HP1:=hide (HP.1.below hB)
      have HG1:=hide (HG.1.below hB)
      have hsz1:w.heap.size<_:=Nat.lt_of_lt_of_le hsz hB.size
      clear hB HP HG HB0 HK
      clear CA C1
      go_wp2_with fail
      refine (CD.1 _).mono ?_
      rintro e w2 ⟨rfl,hw2⟩
      obtain rfl:_=w2:=hw2.symm
      go_wp2_with fail
      refine (CH.1 _).mono ?_
      rintro e w3 ⟨rfl,hw3⟩
      obtain rfl:_=w3:=hw3.symm
      go_wp2_with fail
      refine (CX.1 _ HP1.1 HG1.1).mono ?_
      rintro e w5 ⟨v,rfl,hl,hB⟩
      have HL:=hide (hl.set5 hsz1)
      obtain ⟨A5,c5,rfl,-⟩:=hl
      have HB5:=hide (HB1.1.trans (hB.mono HB1.1.size))
      have HK5:=hide (HK1.1.below hB HK1.1.lt)
      clear hB HB1 HK1
      obtain ⟨⟨d0,d1,d2,d3,d4⟩,f0,f1,f2,f3,f4⟩:=cells5 HK5.1
      unfold itV
      go_wp2_with fail
      (try simp only [Exit.inBlock,Exit.then])
      exact bodyPost_ret (results_cell2 rfl _ _ w.heap.size _ _ _ rfl rfl (set5 HK5.1 _ _ _ _ _) Tryz.underlying116 rfl (by kernel_rfl)) rfl ⟨_,rfl,(HL.1 _ _ _ _ _).mono (Nat.le_of_lt hsz1),bel5 HB5.1 (Nat.le_refl _) _ _ _ _ _⟩
     | false=>
      rw [hd] at CD
      clear HD2 hd
      go_enter Tryz.func72,Tryz.ntmps72
      go_wp2_with fail
      refine C1.1.mono ?_
      rintro e w1 ⟨rfl,rfl⟩
      go_wp2_with fail
      refine CA.1.mono ?_
      rintro e w1 ⟨rfl,hB⟩
      have HB1:=hide (HB0.1.trans (hB.mono HB0.1.size))
      have HK1:=hide (HK.1.below hB HK.1.lt)
      have HP1:=hide (HP.1.below hB)
      have HG1:=hide (HG.1.below hB)
      have hsz1:w.heap.size<_:=Nat.lt_of_lt_of_le hsz hB.size
      clear hB HP HG HB0 HK
      clear CA C1
      go_wp2_with fail
      refine (CD.1 _).mono ?_
      rintro e w2 ⟨rfl,hw2⟩
      obtain rfl:_=w2:=hw2.symm
      go_wp2_with fail
      refine (CH.1 _).mono ?_
      rintro e w3 ⟨rfl,hw3⟩
      obtain rfl:_=w3:=hw3.symm
      go_wp2_with fail
      refine (CX.1 _ HP1.1 HG1.1).mono ?_
      rintro e w5 ⟨v,rfl,hl,hB⟩
      have HL:=hide (hl.set5 hsz1)
      obtain ⟨A5,c5,rfl,-⟩:=hl
      have HB5:=hide (HB1.1.trans (hB.mono HB1.1.size))
      have HK5:=hide (HK1.1.below hB HK1.1.lt)
      clear hB HB1 HK1
      obtain ⟨⟨d0,d1,d2,d3,d4⟩,f0,f1,f2,f3,f4⟩:=cells5 HK5.1
      unfold itV
      go_wp2_with fail
      (try simp only [Exit.inBlock,Exit.then])
      exact bodyPost_ret (results_cell2 rfl _ _ w.heap.size _ _ _ rfl rfl (set5 HK5.1 _ _ _ _ _) Tryz.underlying116 rfl (by kernel_rfl)) rfl ⟨_,rfl,(HL.1 _ _ _ _ _).mono (Nat.le_of_lt hsz1),bel5 HB5.1 (Nat.le_refl _) _ _ _ _ _⟩
 ·rw [escz_no false h1]
  rw [decide_eq_false h1] at C1
  clear h1
  go_enter Tryz.func72,Tryz.ntmps72
  go_wp2_with fail
  refine C1.1.mono ?_
  rintro e w1 ⟨rfl,rfl⟩
  go_wp2_with fail
  (try simp only [Exit.inBlock,Exit.then])
  exact bodyPost_ret (results_cell2 rfl _ _ w.heap.size _ _ _ rfl rfl (Blk.new _ _ _) Tryz.underlying116 rfl (by kernel_rfl)) rfl ⟨_,rfl,Lies.nil _ _,(Below.refl _ _).alloc (Nat.le_refl _) _⟩
end
end Go.Proofs.YtmlbklcmblofkaaGreatDoor.Sc
