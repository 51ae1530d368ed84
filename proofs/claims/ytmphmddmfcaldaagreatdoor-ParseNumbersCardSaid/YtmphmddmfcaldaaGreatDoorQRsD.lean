/-
  rset.Count, walked.
-/
import Derived.Shelf.SlicesQ.IndexFunc
import Derived.Ground.SlgfProg
import Derived.Test.YtmphmddmfcaldaaGreatDoorQRsF
set_option linter.unusedSimpArgs false
set_option linter.unusedVariables false
set_option maxHeartbeats 2000000
namespace Go.Proofs
shelf_lay_g SlLaysH0.n8 Slgf 8 at Tryz 27 as Tryz.hasRg
end Go.Proofs
namespace Go.Proofs.YtmphmddmfcaldaaGreatDoor.Rs
section
open Go.Shelf Go.RowKit Mem
def between (x:Int) (r:R):Bool:=decide (r.1≤x)&&decide (x≤r.2)
theorem has1 (x:Int) (r:R) (p:Nat) (W:World) (hp:p<W.heap.size) (hc:W.cell? ⟨p,0,none⟩=some (.int .i64 x)) :
  Calls Tryz.prog 28 #[.agg #[.int .i64 r.1,.int .i64 r.2],.pointer (some ⟨p,0,none⟩)] W fun e w'=>e=.returned (.bool (between x r))∧Below W.heap.size W w':=by
 have c1:(W.alloc (.cells #[.int .i64 r.1,.int .i64 r.2] 65)).cell? ⟨p,0,none⟩=some (.int .i64 x):=(World.cell?_alloc_lt W _ ⟨p,0,none⟩ hp).trans hc
 clear hc
 unfold between
 by_cases h1:r.1≤x<;>by_cases h2:x≤r.2
 all_goals
  go_enter Tryz.func28,Tryz.ntmps28
  go_wp2
  go_ret
  refine ⟨by simp [h1,h2],below_al (Below.refl _ _) (Nat.le_refl _) _⟩
theorem index_none (A:Option Addr) (cap:Nat) (fv:Value) (w:World):Calls Tryz.prog 42 #[.slice A 0 cap,fv] w fun e w'=>e=.returned (.int .i64 (-1))∧w'=w:=by
 go_enter Tryz.func42,Tryz.ntmps42
 go_wp2
 go_loop [8] (fun i=>i=.int .i64 0) (fun _=>0)
 case atStart=>exact rfl
 case round=>
  obtain rfl:=hrel
  go_wp2
  go_ret
  exact ⟨rfl,rfl⟩
theorem contains_none (A:Option Addr) (cap:Nat) (fv:Value) (w:World):Calls Tryz.prog 27 #[.slice A 0 cap,fv] w fun e w'=>e=.returned (.bool false)∧Below w.heap.size w w':=by
 go_enter Tryz.func27,Tryz.ntmps27
 go_wp2_with fail
 refine (index_none A cap fv w).mono ?_
 rintro e w1 ⟨rfl,rfl⟩
 go_wp2
 go_ret
 exact ⟨rfl,Below.refl _ _⟩
theorem contains_any (l:List R) (A:Option Addr) (cap p:Nat) (x:Int) (w:World) (hlen:l.length≤8796093021952) (hp:p<w.heap.size) (hx:w.cell? ⟨p,0,none⟩=some (.int .i64 x)) (h:Lst w w.heap.size A l) :
  Calls Tryz.prog 27 #[.slice A l.length cap,.func (.func 28) #[] #[.pointer (some ⟨p,0,none⟩)]] w fun e w'=>e=.returned (.bool (l.any (between x)))∧Below w.heap.size w w':=by
 by_cases hn:l.length=0
 ·rw [List.eq_nil_of_length_eq_zero hn];exact contains_none A cap _ w
 ·obtain ⟨b,off,rfl,hb,hc⟩:=h (by omega)
  have eg:∀ args w,(callFunc 28 args).run Tryz.prog w=.ok (.enter 28 args) w:=enters_of Tryz.func28 (by kernel_rfl) rfl
  have hpb:PredBelow Tryz.prog 28 #[.pointer (some ⟨p,0,none⟩)] (fun r:R=>.agg (enc r).toArray) (between x) w:=fun W r hW=>has1 x r p W (Nat.lt_of_lt_of_le hp hW.size) ((hW.cell (p:=⟨p,0,none⟩) hp).trans hx) |>.mono fun e w' h=>⟨h.1,hW.trans (h.2.mono hW.size)⟩
  have hcon:=AnyQ.slices_ContainsFunc Tryz.hasRg 2 Tryz.isAgg65 Tryz.sizeOf65 enc (fun _=>rfl) (between x) 28 #[.pointer (some ⟨p,0,none⟩)] eg b off l.length cap l w hpb (Nat.le_refl _) (by omega) hb (cells_get hc)
  change Calls Tryz.prog 27 _ _ _ at hcon
  rw [List.take_length] at hcon
  exact hcon
theorem any_between {l:List R} {x:Int} (h0:0≤x) (h1:x≤1114367):l.any (between x)=hasL l x:=by
 unfold hasL
 congr 1
 funext r
 rw [Bool.eq_iff_iff]
 simp [between,inR]
 omega
theorem has_out {l:List R} {x:Int} (h:x<0∨1114367<x):hasL l x=false:=by
 unfold hasL
 rw [List.any_eq_false]
 intro r _
 simp [inR]
 omega
theorem has_any (l:List R) (x:Int) (A:Option Addr) (cap:Nat) (w:World) (hlen:l.length≤8796093021952) (h:Lst w w.heap.size A l) :
  Calls Tryz.prog 14 #[.slice A l.length cap,.int .i64 x] w fun e w'=>e=.returned (.bool (hasL l x))∧Below w.heap.size w w':=by
 have hl:Lst (w.alloc (.cells #[.int .i64 x] 3)) (w.alloc (.cells #[.int .i64 x] 3)).heap.size A l:=(h.below (below_al (Below.refl _ _) (Nat.le_refl _) _)).more (by simp)
 have HL:=hide hl
 clear hl h
 have HC:=hide (contains_any l A cap w.heap.size x (w.alloc (.cells #[.int .i64 x] 3)) hlen (by simp) (by rw [World.cell?_alloc_new];rfl) HL.1)
 by_cases h0:x<0
 ·rw [has_out (.inl h0)]
  go_enter Tryz.func14,Tryz.ntmps14
  go_wp2
  go_ret
  exact ⟨rfl,below_al (Below.refl _ _) (Nat.le_refl _) _⟩
 ·by_cases h1:1114367<x
  ·rw [has_out (.inr h1)]
   go_enter Tryz.func14,Tryz.ntmps14
   go_wp2
   go_ret
   exact ⟨rfl,below_al (Below.refl _ _) (Nat.le_refl _) _⟩
  ·rw [← any_between (by omega) (by omega)]
   go_enter Tryz.func14,Tryz.ntmps14
   go_wp2_with fail
   refine HC.1.mono ?_
   rintro e w1 ⟨rfl,hb⟩
   go_wp2
   go_ret
   exact ⟨rfl,(below_al (Below.refl _ _) (Nat.le_refl _) _).trans (hb.mono (by simp))⟩
end
section
open Go.RowKit Mem
theorem sumL_take_bound {m:List R} (hok:∀ r∈m,okR r) (k:Nat) (hk:k≤m.length):0≤sumL (m.take k)∧sumL (m.take k)≤k*1114368:=by
 induction k with
 | zero=>simp
 | succ k ih=>
  have hlt:k<m.length:=by omega
  have h:=ih (by omega)
  rw [List.take_succ_eq_append_getElem hlt,sumL_append]
  have hr:=hok _ (List.getElem_mem hlt)
  unfold okR at hr
  simp only [sumL_cons,sumL_nil]
  omega
def CRel (m:List R) (W:World) (n i:Value) (wr:World):Prop:=∃ k:Nat,i=.int .i64 k∧n=.int .i64 (sumL (m.take k))∧k≤m.length∧Below W.heap.size W wr
theorem count_any (l:List R) (A:Option Addr) (cap:Nat) (w:World) (hlen:l.length≤100000) (hcap:l.length≤cap) (h:Lst w w.heap.size A l) :
  Calls Tryz.prog 15 #[.slice A l.length cap] w fun e w'=>e=.returned (.int .i64 (cntL l))∧Below w.heap.size w w':=by
 have H:=hide h
 clear h
 go_enter Tryz.func15,Tryz.ntmps15
 go_wp2_with fail
 refine (make_any l A cap w (by omega) hcap H.1).mono ?_
 rintro e w1 ⟨v1,rfl,hcut⟩
 obtain ⟨A1,cap1,rfl,hlst,hc1,hcm⟩:=own_lst hcut.1
 have hml:=mk_len l
 have hok:=(mk_least l).ok
 have hsum:sumL (mk l)=cntL l:=rfl
 have HB:=hide hcut.2
 have HSUM:=hide hsum
 generalize mk l=m at *
 have HL:=hide hlst
 have HOK:=hide hok
 clear hcut hlst hok hsum
 go_wp2
 go_loopw [3,9] (fun n i wr=>CRel m w1 n i wr) (fun _ i _=>m.length-(intOf i).toNat)
 case atStart=>exact ⟨0,rfl,rfl,Nat.zero_le _,Below.refl _ _⟩
 case round=>
  obtain ⟨k,rfl,rfl,hk,hbl⟩:=hrel
  by_cases hlt:k<m.length
  ·obtain ⟨b,off,rfl,hb,hc⟩:=HL.1 (by omega)
   obtain ⟨r,hr⟩:∃ r,m[k]?=some r:=⟨_,List.getElem?_eq_getElem hlt⟩
   have c1:wr.cell? ⟨b,off+k*2,none⟩=some (.int .i64 r.1):=(hbl.cell (p:=⟨b,off+k*2,none⟩) hb).trans (hc k r hr).1
   have c2:wr.cell? ⟨b,off+k*2+1,none⟩=some (.int .i64 r.2):=(hbl.cell (p:=⟨b,off+k*2+1,none⟩) hb).trans (hc k r hr).2
   have hlt':(k:Int)<(m.length:Int):=by omega
   have hrok:=HOK.1 r (List.mem_of_getElem? hr)
   have hbd:=sumL_take_bound HOK.1 k hk
   have htk:sumL (m.take (k+1))=sumL (m.take k)+(r.2-r.1+1):=by
    have e:m[k]=r:=by simpa [List.getElem?_eq_getElem hlt] using hr
    rw [List.take_succ_eq_append_getElem hlt,e,sumL_append];simp
   have hw1:IntKind.i64.wrap (r.2-r.1)=r.2-r.1:=wrap_id _ (by unfold okR at hrok;omega) (by unfold okR at hrok;omega)
   have hw2:IntKind.i64.wrap (r.2-r.1+1)=r.2-r.1+1:=wrap_id _ (by unfold okR at hrok;omega) (by unfold okR at hrok;omega)
   have hw3:IntKind.i64.wrap (sumL (m.take k)+(r.2-r.1+1))=sumL (m.take k)+(r.2-r.1+1):=wrap_id _ (by unfold okR at hrok;omega) (by unfold okR at hrok;omega)
   have HBL:=hide hbl
   have HTK:=hide htk
   clear hbl hr hc htk hbd hrok
   generalize sumL (m.take k)=t at *
   go_wp2
   go_roundw
   case rel=>exact ⟨k+1,by go_num,by rw [HTK.1],by omega,below_al HBL.1 HBL.1.size _⟩
   case measure=>simp [intOf];omega
  ·obtain rfl:k=m.length:=by omega
   rw [List.take_length,HSUM.1]
   have HBL:=hide hbl
   clear hbl
   go_wp2
   go_ret
   exact ⟨rfl,HB.1.trans (HBL.1.mono HB.1.size)⟩
end
end Go.Proofs.YtmphmddmfcaldaaGreatDoor.Rs
