/-
  The reference's end and End, walked: where a node's part ends, or -1.
-/
import Derived.Test.YtmlbklcmblofkaaGreatDoorMAsA
import Derived.Test.YtmlbklcmblofkaaGreatDoorProg
import Derived.LoopTactic
import Derived.Lib.Walk
import Derived.Outline
import Derived.KernelRfl
set_option linter.unusedSimpArgs false
set_option linter.unusedVariables false
set_option maxHeartbeats 4000000
set_option maxRecDepth 100000
namespace Go.Proofs.YtmlbklcmblofkaaGreatDoor.As
open Go.RowKit Mem
def ERel (L:List Nd) (f i:Nat) (ks:List Int) (W:World) (nx k:Value) (wr:World):Prop:=∃ n j:Nat,nx=.int .i64 n∧k=.int .i64 j∧j≤ks.length∧i+1≤n∧n≤L.length∧endN L (f+1) i=kidsN (endN L f) (ks.drop j) n∧Below W.heap.size W wr
theorem ret_i {a b:Int} (h:a=b):Ending.returned (.int .i64 a)=.returned (.int .i64 b):=by rw [h]
theorem end_any (t:Tr) (v:Value) (B:Nat) (hlen:t.nodes.length≤1000000):∀ (f i:Nat) (w:World),t.nodes.length≤f+i→i≤9000000000→B≤w.heap.size→TreeV w B t v →
  Calls Tryz.prog 14 #[v,.int .i64 (i:Int)] w fun e w'=>e=.returned (.int .i64 (endN t.nodes f i))∧Below w.heap.size w w':=by
 intro f
 induction f with
 | zero=>
  intro i w hf hi hB hT
  obtain ⟨a,c,rfl,⟨A,cap,rfl,hc1,hc2,hn⟩,hns⟩:=hT
  have hge:(t.nodes.length:Int)≤(i:Int):=by omega
  have HE:=hide (endN_none (f:=0) (show t.nodes.length≤i by omega))
  clear hn hns hf
  go_enter Tryz.func14,Tryz.ntmps14
  go_wp2_with fail
  go_ret
  exact ⟨ret_i HE.1.symm,(Below.refl _ _).alloc (Nat.le_refl _) _⟩
 | succ f ih=>
  intro i w hf hi hB hT
  have HT:=hide hT
  obtain ⟨a,c,rfl,⟨A,cap,rfl,hc1,hc2,hn⟩,hns⟩:=hT
  by_cases hge:(t.nodes.length:Int)≤(i:Int)
  ·have HE:=hide (endN_none (f:=f+1) (show t.nodes.length≤i by omega))
   clear hn hns hf ih
   go_enter Tryz.func14,Tryz.ntmps14
   go_wp2_with fail
   go_ret
   exact ⟨ret_i HE.1.symm,(Below.refl _ _).alloc (Nat.le_refl _) _⟩
  ·have hlt:(i:Int)<(t.nodes.length:Int):=by omega
   obtain ⟨nd,hnd⟩:∃ nd,t.nodes[i]?=some nd:=⟨_,List.getElem?_eq_getElem (by omega)⟩
   obtain ⟨b,off,rfl,hb,hcs⟩:=hn (by omega)
   obtain ⟨_,_,_,_,_,_,_,_,_,kv,h9,Ak,kcap,rfl,hk1,hk2,hkr⟩:=hcs i nd hnd
   have HE:=hide (endN_some (f:=f) hnd)
   have HIH:=hide ih
   have HKR:=hide hkr
   have HLB:=hide hb
   have H9:=hide h9
   have hblk:=Blk.new w 30 #[.slice (some ⟨b,off,none⟩) t.nodes.length cap,.int .i64 t.groups,c]
   have HBK:=hide hblk
   generalize hW:w.alloc (.cells #[.slice (some ⟨b,off,none⟩) t.nodes.length cap,.int .i64 t.groups,c] 30)=W at HBK
   have HWB:Hd (Below w.heap.size w W):=hide (by rw [← hW];exact (Below.refl _ _).alloc (Nat.le_refl _) _)
   have hWs:w.heap.size+1=W.heap.size:=by rw [← hW,World.size_alloc]
   have HW:=hide hW
   have HND:=hide hnd
   have hf':t.nodes.length≤f+(i+1):=by omega
   clear hcs h9 hkr hblk hW hnd ih hns hn hge hf hb
   go_enter Tryz.func14,Tryz.ntmps14
   go_wp2_with fail
   go_loopw [5,6] (fun nx k wr=>ERel t.nodes f i nd.kids W nx k wr) (fun _ k _=>nd.kids.length-(intOf k).toNat)
   case atStart=>
    rw [HW.1]
    exact ⟨i+1,0,by go_num,rfl,by omega,by omega,by omega,by rw [HE.1];rfl,Below.refl _ _⟩
   case round=>
    obtain ⟨n,j,rfl,rfl,hj,hn1,hn2,he,hbel⟩:=hrel
    go_hideQ
    have HEQ:=hide he
    have HBEL:=hide hbel
    have hBW:Below w.heap.size w wr:=HWB.1.trans (hbel.mono (by omega))
    have bk:=HBK.1.below hbel (by omega)
    have c0:=bk.cell 0
    have c1:=bk.cell 1
    have c2:=bk.cell 2
    have c9:wr.cell? ⟨b,off+i*10+9,none⟩=some (.slice Ak nd.kids.length kcap):=(hBW.cell (p:=⟨b,off+i*10+9,none⟩) (by have:=HLB.1;show b<w.heap.size;omega)).trans H9.1
    have HBW:=hide hBW
    have HKR2:=hide (HKR.1.keep (w':=wr) fun p hp=>hBW.cell (by omega))
    clear he hbel hBW bk
    by_cases hjl:j<nd.kids.length
    ·have hji:(j:Int)<(nd.kids.length:Int):=by omega
     obtain ⟨y,hy⟩:∃ y,nd.kids[j]?=some y:=⟨_,List.getElem?_eq_getElem hjl⟩
     obtain ⟨bk,ok,rfl,hbk,hck⟩:=HKR2.1.flat (by omega)
     have cy:wr.cell? ⟨bk,ok+j,none⟩=some (.int .i64 y):=hck j (.int .i64 y) (by simp [hy])
     have HAT:=hide (kidsN_at (e:=endN t.nodes f) (n:=n) hy)
     clear hck hbk hy
     by_cases hyn:y=(n:Int)
     ·have hq:(y != (n:Int))=false:=by simp [hyn]
      have HYN:=hide hyn
      have C:=hide (HIH.1 n wr (by omega) (by omega) (Nat.le_trans hB HBW.1.size) (HT.1.keep fun p hp=>HBW.1.cell (by omega)))
      have hrl:=endN_le t.nodes f n
      have HGT:=hide (endN_gt t.nodes f n)
      rw [if_pos hyn] at HAT
      obtain ⟨r,hr⟩:∃ r,endN t.nodes f n=r:=⟨_,rfl⟩
      rw [hr] at C HAT HGT hrl
      have HR:=hide hr
      clear hyn hr
      go_wp2_with fail
      refine C.1.mono ?_
      rintro e w5 ⟨rfl,hb5⟩
      have HB5:=hide (HBEL.1.trans (hb5.mono HBEL.1.size))
      clear C hb5 c0 c1 c2 c9 cy
      by_cases hr0:r<0
      ·have HR0:=hide hr0
       go_wp2_with fail
       go_ret
       refine ⟨ret_i ?_,HWB.1.trans (HB5.1.mono (by omega))⟩
       rw [HEQ.1,HAT.1,if_pos HR0.1]
      ·obtain ⟨q,rfl⟩:=Int.eq_ofNat_of_zero_le (show 0≤r by omega)
       have hg:=HGT.1 (by omega)
       have HAT2:=HAT.1
       rw [if_neg hr0,Int.toNat_natCast] at HAT2
       have HA2:=hide HAT2
       clear hr0 HAT HAT2 HGT HR
       go_wp2_with fail
       have hR:ERel t.nodes f i nd.kids W (.int .i64 (q:Int)) (.int .i64 ((j:Int)+1)) w5:=⟨q,j+1,rfl,by go_num,by omega,by omega,by omega,by rw [HEQ.1,HA2.1],HB5.1⟩
       first|exact ⟨⟨_,_,_,hR,rfl,rfl,rfl⟩,by simp [intOf];omega⟩|exact ⟨hR,by simp [intOf];omega⟩
     ·have hq:(y != (n:Int))=true:=by simp [hyn]
      rw [if_neg hyn] at HAT
      clear hyn
      go_wp2_with fail
      go_ret
      refine ⟨ret_i ?_,HBW.1⟩
      rw [HEQ.1,HAT.1]
    ·have hji:(nd.kids.length:Int)≤(j:Int):=by omega
     have HKE:=hide (kidsN_end (e:=endN t.nodes f) (ks:=nd.kids) (k:=j) (n:=n) (by omega))
     clear hjl
     go_wp2_with fail
     go_ret
     refine ⟨ret_i ?_,HBW.1⟩
     rw [HEQ.1,HKE.1]
end Go.Proofs.YtmlbklcmblofkaaGreatDoor.As
