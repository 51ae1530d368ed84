/-
  scan.Escape, scan.Inner, walked: what a backslash makes.
-/
import Derived.Test.YtmlbklcmblofkaaGreatDoorMScC
import Derived.Test.YtmlbklcmblofkaaGreatDoorMClC
import Derived.Test.YtmlbklcmblofkaaGreatDoorMFoE
import Derived.WideShapes
set_option linter.unusedSimpArgs false
set_option linter.unusedVariables false
namespace Go.Proofs.YtmlbklcmblofkaaGreatDoor.Sc
section
open Go.RowKit Mem
open Sy (g)
open Rs (R Lst)
open Cl (GivesL)
variable {v:Value} {w:World}
def Mx (w:World):Prop:=0<w.heap.size∧∃ m,w.cell? ⟨0,0,none⟩=some (.int .i64 m)
structure Gl (w:World):Prop where
 tabs:Utf.Tabs w
 sets:Cl.Tb w
 mx:Mx w
 rows:∃ b off cap,Fo.Tab b off cap w
theorem Gl.below {w w':World} (h:Gl w) (hb:Below w.heap.size w w'):Gl w' where
 tabs:=h.tabs.below hb (Nat.le_refl _)
 sets:=h.sets.below hb
 mx:=by
  obtain ⟨h1,m,h2⟩:=h.mx
  exact ⟨Nat.lt_of_lt_of_le h1 hb.size,m,(hb.cell (p:=⟨0,0,none⟩) h1).trans h2⟩
 rows:=by
  obtain ⟨b,off,cap,h⟩:=h.rows
  exact ⟨b,off,cap,h.below hb (Nat.le_refl _)⟩
def Lies (B:Nat) (l:List R) (v:Value) (w:World):Prop:=∃ A cap,v=.slice A l.length cap∧l.length≤cap∧cap≤9223372036854775807∧Lst w w.heap.size A l∧∀ ad,A=some ad→0<l.length→B≤ad.block
theorem Lies.of {l:List R} {w':World} (h:GivesL l w v w'):Lies w.heap.size l v w'∧Below w.heap.size w w':=by
 obtain ⟨A,cap,h1,h2,h3,h4,h5,h6⟩:=h
 exact ⟨⟨A,cap,h1,h2,h3,h4,h6⟩,h5⟩
theorem Lies.mono {B B':Nat} {l:List R} (h:Lies B l v w) (hB:B'≤B):Lies B' l v w:=by
 obtain ⟨A,cap,h1,h2,h3,h4,h6⟩:=h
 exact ⟨A,cap,h1,h2,h3,h4,fun ad e hn=>Nat.le_trans hB (h6 ad e hn)⟩
theorem Lies.below {B:Nat} {l:List R} {v:Value} {w w':World} (h:Lies B l v w) (hb:Below w.heap.size w w'):Lies B l v w':=by
 obtain ⟨A,cap,h1,h2,h3,h4,h6⟩:=h
 exact ⟨A,cap,h1,h2,h3,(h4.below hb).more hb.size,h6⟩
theorem Lies.set {B:Nat} {l:List R} (h:Lies B l v w) {p:Addr} (hp:p.block<B) (u:Value):Lies B l v (w.setCell p u):=by
 obtain ⟨A,cap,h1,h2,h3,h4,h6⟩:=h
 have hz:(w.setCell p u).heap.size=w.heap.size:=by simp [World.setCell]
 refine ⟨A,cap,h1,h2,h3,fun hn=>?_,h6⟩
 obtain ⟨b,off,e,hb,hc⟩:=h4 hn
 have hB:=h6 _ e hn
 have hne:∀ q:Addr,q.block=b→(w.setCell p u).cell? q=w.cell? q:=fun q hq=>World.cell?_setCell_other w p q u (fun e=>by subst e;simp only [] at hB;omega)
 refine ⟨b,off,e,by rw [hz];exact hb,fun k r hr=>⟨(hne _ rfl).trans (hc k r hr).1,(hne _ rfl).trans (hc k r hr).2⟩⟩
theorem Lies.nil (B:Nat) (w:World):Lies B [] (.slice none 0 0) w:=⟨none,0,rfl,Nat.le_refl _,by omega,Rs.Lst.nil,fun ad e _=>by cases e⟩
theorem build_i0 (w:World):Sem.run Tryz.prog (Instr.build 116 #[]) w=.ok (.agg #[.int .i64 0,.int .i64 0,.int .i64 0,.string ⟨#[]⟩,.slice none 0 0]) w:=run_build w 116 _ _ (by kernel_rfl)
theorem build_i3 (a b c:Int) (w:World):Sem.run Tryz.prog (Instr.build 116 #[(0,.int .i64 a),(1,.int .i64 b),(2,.int .i64 c)]) w=.ok (.agg #[.int .i64 a,.int .i64 b,.int .i64 c,.string ⟨#[]⟩,.slice none 0 0]) w:=run_build w 116 _ _ (by kernel_rfl)
theorem build_in (a b:Int) (s:ByteArray) (w:World):Sem.run Tryz.prog (Instr.build 116 #[(0,.int .i64 a),(1,.int .i64 b),(3,.string s)]) w=.ok (.agg #[.int .i64 a,.int .i64 b,.int .i64 0,.string s,.slice none 0 0]) w:=run_build w 116 _ _ (by kernel_rfl)
theorem build_is (a b:Int) (A:Option Addr) (n c:Nat) (w:World):Sem.run Tryz.prog (Instr.build 116 #[(0,.int .i64 a),(1,.int .i64 b),(4,.slice A n c)]) w=.ok (.agg #[.int .i64 a,.int .i64 b,.int .i64 0,.string ⟨#[]⟩,.slice A n c]) w:=run_build w 116 _ _ (by kernel_rfl)
end
section
open Go.RowKit Mem
open Sy (g_of)
attribute [local go_sem] Rs.run_not_true Rs.run_not_false
theorem sub_reads {bs:List UInt8} {b off cap k m j:Nat} {w:World} (hP:PV bs (some ⟨b,off,none⟩) cap w) (hm:k+j=m) (hl:m≤bs.length) (h0:k<bs.length) :
  Reads w w.heap.size 1 (some ⟨b,off+k,none⟩) (m-k) (((bs.drop k).take j).map u8):=by
 obtain ⟨b',off',e,hb,hc⟩:=hP.cell h0
 cases e
 have hlen:((bs.drop k).take j).length=m-k:=by rw [List.length_take,List.length_drop];omega
 refine ⟨by rw [List.length_map,hlen,Nat.mul_one],fun _=>⟨_,rfl,hb,fun i u hu=>?_⟩⟩
 have hi:i<m-k:=by
  have:=(List.getElem?_eq_some_iff.1 hu).1
  rwa [List.length_map,hlen] at this
 rw [Go.WideShapes.add_plain,Nat.add_assoc,hc (k+i) (by omega)]
 rw [List.getElem?_map,List.getElem?_take,if_pos (by omega),List.getElem?_drop,List.getElem?_eq_getElem (by omega)] at hu
 rw [g_of (List.getElem?_eq_getElem (show k+i<bs.length by omega))]
 simpa [u8] using hu
theorem sub_str {bs:List UInt8} {b off cap k m j:Nat} {w:World} (hP:PV bs (some ⟨b,off,none⟩) cap w) (hm:k+j=m) (hl:m≤bs.length) (h0:k<bs.length) (c:Nat) :
  (convert 43 9 (.slice (some ⟨b,off+k,none⟩) (m-k) c)).run Tryz.prog w=.ok (.string ⟨((bs.drop k).take j).toArray⟩) w:=
 Str.conv_str ((bs.drop k).take j) w.heap.size (m-k) c _ w (by rw [List.length_take,List.length_drop];omega) (sub_reads hP hm hl h0)
end
section
open Go.RowKit Mem
open Sy (g)
open Cl (isOf)
variable {c:Nat}
theorem ctl_high (h:128≤c):ctl c=none:=by
 unfold ctl
 rw [if_neg (by omega),if_neg (by omega),if_neg (by omega),if_neg (by omega),if_neg (by omega),if_neg (by omega),if_neg (by omega)]
theorem isOf_high (h:128≤c):isOf c=false:=by
 unfold isOf Cl.nmOf
 rw [if_neg (by omega),if_neg (by omega),if_neg (by omega),if_neg (by omega),if_neg (by omega),if_neg (by omega)]
 rfl
theorem isA_high (h:128≤c):isA c=false:=by rw [← Bool.not_eq_true,isA_iff];omega
theorem isD_high (h:128≤c):isD c=false:=by rw [← Bool.not_eq_true,isD_iff];omega
theorem sym_like {bs:List UInt8} {k:Nat} (h:k<bs.length):((sym bs k).1=120↔g bs k=120)∧ctl (sym bs k).1=ctl (g bs k)∧isA (sym bs k).1=isA (g bs k)∧isD (sym bs k).1=isD (g bs k) ∧
  (g bs k<128→(sym bs k).2=1)∧1≤(sym bs k).2∧(sym bs k).2≤4∧k+(sym bs k).2≤bs.length:=by
 have h2:=sym_snd h
 rcases Nat.lt_or_ge (g bs k) 128 with hl|hl
 ·rw [sym_low h hl] at h2 ⊢
  exact ⟨Iff.rfl,rfl,rfl,rfl,fun _=>rfl,h2⟩
 ·have:=sym_high (bs:=bs) (k:=k) hl
  refine ⟨by omega,by rw [ctl_high this,ctl_high hl],by rw [isA_high this,isA_high hl],by rw [isD_high this,isD_high hl],fun h=>by omega,h2⟩
theorem ctl_low {n:Nat} (h:ctl c=some n):c<128:=by
 rcases Nat.lt_or_ge c 128 with h1|h1
 ·exact h1
 ·rw [ctl_high h1] at h;cases h
end
section
open Go.RowKit Mem
open Sy (g)
theorem hldO_high {c:Nat} (h:128≤c):hldO c=none:=by
 unfold hldO
 rw [if_neg (by omega),if_neg (by omega),if_neg (by omega),if_neg (by omega),if_neg (by omega)]
theorem hldO_low {c n:Nat} (h:hldO c=some n):c<128∧c≠0:=by
 constructor
 ·rcases Nat.lt_or_ge c 128 with h1|h1
  ·exact h1
  ·rw [hldO_high h1] at h;cases h
 ·rintro rfl;cases h
theorem escz_yes {bs:List UInt8} {k:Nat} (b:Bool) (h:g bs k=92):escz bs b (k:Int)=escP bs b (k+1):=by unfold escz;rw [gz_nat,if_pos h,Int.toNat_natCast]
end
end Go.Proofs.YtmlbklcmblofkaaGreatDoor.Sc
