/-
  Plain functions, no program: in a group that is none a pattern is read as the same parts, three bytes further 
-/
import Derived.Test.YtmphmddmfcaldaaGreatDoorMPaK
import Derived.Test.YtmphmddmfcaldaaGreatDoorMPaGd
set_option linter.unusedSimpArgs false
set_option linter.unusedVariables false
namespace Go.Proofs.YtmphmddmfcaldaaGreatDoor.Pa
section
open Sy (g g_of)
open Sc (It Ct cntP blk nameP escP clsz notz allL partL sym g_in g_out hexF hexD codeP keyP refP comP wl isD isA ctl hldO fnd2 nkP namedP partP rgP clsF clsP fsP decF mostP bracesP countsP modeP Part)
variable {c:Nat}
def wrapB (p:List UInt8):List UInt8:=[40,63,58]++(p++[41])
section
variable {p:List UInt8} {k:Nat}
theorem wr_len (p:List UInt8):(wrapB p).length=p.length+4:=by simp [wrapB]
theorem wr_g (h:k<p.length):g (wrapB p) (k+3)=g p k:=by
 unfold Sy.g
 rw [show (wrapB p)[k+3]?=(p++[41])[k]? from rfl,List.getElem?_append_left h]
theorem wr_g_end (p:List UInt8):g (wrapB p) (p.length+3)=41:=by
 refine g_of (x:=41) ?_
 rw [show (wrapB p)[p.length+3]?=(p++[41])[p.length]? from rfl,List.getElem?_append_right (Nat.le_refl _),Nat.sub_self]
 rfl
theorem wr_f {α:Type} (f:Nat→α) (h:f 41=f 0):f (g (wrapB p) (k+3))=f (g p k):=by
 rcases Nat.lt_trichotomy k p.length with h1|h1|h1
 ·rw [wr_g h1]
 ·subst h1;rw [wr_g_end,g_out (Nat.le_refl _),h]
 ·rw [g_out (by rw [wr_len];omega),g_out (by omega)]
theorem wr_eq (h0:c≠0) (h1:c≠41):(g (wrapB p) (k+3)=c)=(g p k=c):=
 wr_f (fun x=>x=c) (by rw [eq_false (show ¬ (41=c) from fun e=>h1 e.symm),eq_false (show ¬ (0=c) from fun e=>h0 e.symm)])
theorem wr_ne (h0:c≠0) (h1:c≠41):(g (wrapB p) (k+3)≠c)=(g p k≠c):=by rw [ne_eq,wr_eq h0 h1]
theorem wr_stA:∀ (l:List Nat) (k:Nat),(∀ c∈l,c≠0∧c≠41)→stA (wrapB p) (k+3) l=stA p k l
 | [],_,_=>rfl
 | c :: l,k,h=>by
  unfold stA
  have h1:=h c (by simp)
  have e:decide (g (wrapB p) (k+3)=c)=decide (g p k=c):=wr_f (fun x=>decide (x=c)) (by rw [decide_eq_false (fun e=>h1.2 e.symm),decide_eq_false (fun e=>h1.1 e.symm)])
  rw [e]
  exact congrArg (decide (g p k=c)&&·) (wr_stA l (k+1) fun x hx=>h x (List.mem_cons_of_mem _ hx))
theorem wr_end (h:k≤p.length):endB (wrapB p) (k+3)=endB p k:=by
 rcases Nat.lt_or_ge k p.length with h1|h1
 ·unfold endB
  rw [decide_eq_false (by rw [wr_len];omega),decide_eq_false (by omega),wr_stA [124] k (by simp)]
  unfold stA
  rw [wr_g h1]
  rfl
 ·obtain rfl:k=p.length:=by omega
  unfold endB
  rw [decide_eq_true (Nat.le_refl p.length),Bool.true_or]
  unfold stA
  rw [wr_g_end]
  simp [stA]
theorem wr_end2:endB (wrapB p) (p.length+4)=true:=by unfold endB;rw [decide_eq_true (by rw [wr_len];exact Nat.le_refl _)];rfl
theorem dec_more {m a b d b' c' d':Nat} (hm:1≤m) (h1:1<m→b'=b) (h2:2<m→c'=c) (h3:3<m→d'=d) (k1:m=1→b'=41) (k2:m=2→c'=41) (k3:m=3→d'=41):Sy.dec (m+1) a b' c' d'=Sy.dec m a b c d:=by
 have z:¬ ((41:Nat) / 64=2):=by decide
 have e1:(1<m+1∧b' / 64=2)=(1<m∧b / 64=2):=by
  rcases Nat.lt_or_ge 1 m with h|h
  ·rw [h1 h];exact propext ⟨fun x=>⟨h,x.2⟩,fun x=>⟨by omega,x.2⟩⟩
  ·rw [k1 (by omega)];exact propext ⟨fun x=>absurd x.2 z,fun x=>absurd x.1 (by omega)⟩
 have e2:(2<m+1∧c' / 64=2)=(2<m∧c / 64=2):=by
  rcases Nat.lt_or_ge 2 m with h|h
  ·rw [h2 h];exact propext ⟨fun x=>⟨h,x.2⟩,fun x=>⟨by omega,x.2⟩⟩
  ·exact propext ⟨fun x=>by have:=k2 (by omega);rw [this] at x;exact absurd x.2 z,fun x=>absurd x.1 (by omega)⟩
 have e3:(3<m+1∧d' / 64=2)=(3<m∧d / 64=2):=by
  rcases Nat.lt_or_ge 3 m with h|h
  ·rw [h3 h];exact propext ⟨fun x=>⟨h,x.2⟩,fun x=>⟨by omega,x.2⟩⟩
  ·exact propext ⟨fun x=>by have:=k3 (by omega);rw [this] at x;exact absurd x.2 z,fun x=>absurd x.1 (by omega)⟩
 unfold Sy.dec Go.Lib.decodeN
 simp only [e1,e2,e3]
 split
 ·rfl
 ·split
  ·rename_i h;rw [h1 h.2.1]
  ·split
   ·rename_i h;rw [h1 h.2.1.1,h2 h.2.2.1]
   ·split
    ·rename_i h;rw [h1 h.2.1.1,h2 h.2.2.1.1,h3 h.2.2.2.1]
    ·rfl
theorem wr_sym (h:k<p.length):sym (wrapB p) (k+3)=sym p k:=by
 unfold Sc.sym
 rw [if_pos (by rw [wr_len];omega),if_pos h]
 unfold Sy.at_ Sy.sy
 have hd:Sy.dec ((wrapB p).length-(k+3)) (g (wrapB p) (k+3)) (g (wrapB p) (k+3+1)) (g (wrapB p) (k+3+2)) (g (wrapB p) (k+3+3))=Sy.dec (p.length-k) (g p k) (g p (k+1)) (g p (k+2)) (g p (k+3)):=by
  rw [wr_len,wr_g h,show p.length+4-(k+3)=p.length-k+1 by omega]
  refine dec_more (by omega) (fun hh=>?_) (fun hh=>?_) (fun hh=>?_) (fun hh=>?_) (fun hh=>?_) (fun hh=>?_)
  ·rw [show k+3+1=k+1+3 from rfl];exact wr_g (by omega)
  ·rw [show k+3+2=k+2+3 from rfl];exact wr_g (by omega)
  ·exact wr_g (by omega)
  ·rw [show k+3+1=p.length+3 by omega];exact wr_g_end p
  ·rw [show k+3+2=p.length+3 by omega];exact wr_g_end p
  ·rw [show k+3+3=p.length+3 by omega];exact wr_g_end p
 rw [hd,wr_g h]
def It.sh:It→It
 | .err e=>.err e
 | .lit n t=>.lit n (t+3)
 | .cls c t=>.cls c (t+3)
 | .nam s b t=>.nam s b (t+3)
 | .hld n t=>.hld n (t+3)
 | .ref n t=>.ref n (t+3)
 | .key s t=>.key s (t+3)
theorem It.sh_set (x:It):(It.sh x).set=x.set:=by cases x<;>rfl
theorem wr_hexF:∀ (m k num:Nat),hexF (wrapB p) (k+3) m num=hexF p k m num
 | 0,k,num=>by rw [Sc.hexF_zero,Sc.hexF_zero]
 | m+1,k,num=>by
  have e:hexD (g (wrapB p) (k+3))=hexD (g p k):=wr_f hexD rfl
  cases h:hexD (g p k) with
  | none=>rw [Sc.hexF_none _ _ h,Sc.hexF_none _ _ (e.trans h)]
  | some d=>rw [Sc.hexF_some _ _ h,Sc.hexF_some _ _ (e.trans h),show k+3+1=k+1+3 from rfl,wr_hexF m (k+1)]
theorem wr_code:codeP (wrapB p) (k+3)=It.sh (codeP p k):=by
 unfold Sc.codeP
 simp only [wr_eq (c:=123) (by decide) (by decide),show k+3+1=k+1+3 from rfl,wr_hexF]
 rw [show k+1+3+(hexF p (k+1) 6 0).2=(k+1+(hexF p (k+1) 6 0).2)+3 by omega]
 simp only [wr_ne (c:=125) (by decide) (by decide)]
 split
 ·split
  ·rfl
  ·rfl
 ·split
  ·rfl
  ·show It.lit _ _=It.lit _ _
   rw [show k+3+(hexF p k 2 0).2=k+(hexF p k 2 0).2+3 by omega]
theorem wr_drop (p:List UInt8) (k:Nat):(wrapB p).drop (k+3)=(p++[41]).drop k:=rfl
theorem wr_wl:wl (wrapB p) (k+3)=wl p k:=by
 unfold Sc.wl
 rw [wr_drop]
 rcases Nat.lt_or_ge p.length k with h|h
 ·rw [List.drop_of_length_le (by simp;omega),List.drop_of_length_le (by omega)]
 ·rw [List.drop_append_of_le_length h,List.takeWhile_append]
  split
  ·rename_i h2
   rw [List.takeWhile_cons_of_neg (by decide),List.append_nil,h2]
  ·rfl
theorem wr_take {m:Nat} (h:m=0∨k+m≤p.length):((wrapB p).drop (k+3)).take m=(p.drop k).take m:=by
 rw [wr_drop]
 rcases h with rfl|h
 ·rw [List.take_zero,List.take_zero]
 ·rw [List.drop_append_of_le_length (by omega),List.take_append_of_le_length (by rw [List.length_drop];omega)]
theorem wr_name:nameP (wrapB p) (k+3)=(nameP p k).map fun t=>(t.1,t.2+3):=by
 unfold Sc.nameP
 have e:(isA (g (wrapB p) (k+3))||decide (g (wrapB p) (k+3)=95))=(isA (g p k)||decide (g p k=95)):=wr_f (fun c=>isA c||decide (c=95)) rfl
 rw [e,wr_wl,show k+3+wl p k=(k+wl p k)+3 by omega]
 simp only [wr_eq (c:=62) (by decide) (by decide)]
 split
 ·rw [wr_take (Sc.wl_len p k)]
  rfl
 ·rfl
theorem wr_key:keyP (wrapB p) (k+3)=It.sh (keyP p k):=by
 unfold Sc.keyP
 simp only [wr_eq (c:=60) (by decide) (by decide),show k+3+1=k+1+3 from rfl]
 split
 ·rw [wr_name]
  cases nameP p (k+1) with
  | none=>rfl
  | some t=>rfl
 ·rfl
theorem wr_ref (h:k<p.length):refP (wrapB p) (k+3)=It.sh (refP p k):=by
 unfold Sc.refP
 have e:isD (g (wrapB p) (k+3+1))=isD (g p (k+1)):=wr_f (k:=k+1) isD rfl
 rw [e,wr_g h]
 split
 ·rename_i h2
  have h3:=g_in (bs:=p) (k:=k+1) (fun e=>by rw [e] at h2;cases h2)
  rw [show k+3+1=k+1+3 from rfl,wr_g h3]
  rfl
 ·rfl
theorem wr_com (h:k<p.length):comP (wrapB p) (k+3)=It.sh (comP p k):=by
 unfold Sc.comP
 have e1:¬ (wrapB p).length≤k+3:=by rw [wr_len];omega
 have e2:¬ p.length≤k:=by omega
 rw [if_neg e1,if_neg e2,wr_g h,wr_sym h,show k+3+1=k+1+3 from rfl,wr_code]
 split
 ·rfl
 ·cases ctl (g p k) with
  | some n=>rfl
  | none=>
   simp only []
   split
   ·rfl
   ·split
    ·rfl
    ·show It.lit _ _=It.lit _ _
     rw [show k+3+(sym p k).2=k+(sym p k).2+3 by omega]
theorem wr_esc (b:Bool) (h:k<p.length):escP (wrapB p) b (k+3)=It.sh (escP p b k):=by
 unfold Sc.escP
 rw [wr_com h,wr_g h,show k+3+1=k+1+3 from rfl,wr_key,wr_ref h]
 split
 ·split
  ·rfl
  ·rfl
 ·split
  ·rfl
  ·split
   ·rfl
   ·cases hldO (g p k) with
    | some n=>rfl
    | none=>rfl
theorem esc_end (b:Bool) (h:p.length≤k):escP p b k=.err 32:=by
 have hc:comP p k=.err 32:=by unfold Sc.comP;rw [if_pos h]
 unfold Sc.escP
 rw [hc,g_out h]
 cases b
 ·rw [if_neg (by decide),if_neg (by decide),if_neg (by decide)]
  rfl
 ·rw [if_pos rfl,if_neg (by decide)]
theorem wr_fnd2:∀ (m k j:Nat),p.length-k≤m→fnd2 p k=some j→fnd2 (wrapB p) (k+3)=some (j+3)
 | m,k,j,hm,h=>by
  have hj:=Sc.fnd2_in k h
  by_cases hk:k<p.length
  ·by_cases hh:g p k=58∧g p (k+1)=93
   ·rw [Sc.fnd2_hit hh.1 hh.2] at h
    obtain rfl:=Option.some.inj h
    have h1:g (wrapB p) (k+3)=58:=by rw [wr_g hk];exact hh.1
    have h2:g (wrapB p) (k+3+1)=93:=by rw [show k+3+1=k+1+3 from rfl,wr_g (by omega)];exact hh.2
    exact Sc.fnd2_hit h1 h2
   ·rw [Sc.fnd2_miss hk hh] at h
    have hh':¬ (g (wrapB p) (k+3)=58∧g (wrapB p) (k+3+1)=93):=by
     rw [wr_eq (by decide) (by decide),show k+3+1=k+1+3 from rfl,wr_eq (by decide) (by decide)]
     exact hh
    rw [Sc.fnd2_miss (by rw [wr_len];omega) hh',show k+3+1=k+1+3 from rfl]
    cases m with
    | zero=>omega
    | succ m=>exact wr_fnd2 m (k+1) j (by omega) h
  ·omega
theorem wr_nk:nkP (wrapB p) (k+3)=nkP p k+3:=by
 unfold Sc.nkP
 simp only [wr_eq (c:=94) (by decide) (by decide)]
 split<;>rfl
theorem wr_nmd (h:∀ e,Sc.namedP p k≠.err e):Sc.namedP (wrapB p) (k+3)=It.sh (Sc.namedP p k):=by
 unfold Sc.namedP at h ⊢
 cases hf:fnd2 p (nkP p k) with
 | none=>rw [hf] at h;exact absurd rfl (h 33)
 | some j=>
  have hj:=Sc.fnd2_in _ hf
  have e94:decide (g (wrapB p) (k+3)=94)=decide (g p k=94):=wr_f (fun c=>decide (c=94)) rfl
  rw [wr_nk,wr_fnd2 _ _ _ (Nat.le_refl _) hf,e94]
  simp only []
  rw [show j+3-(nkP p k+3)=j-nkP p k by omega,wr_take (.inr (by omega))]
  split<;>rfl
def Part.sh:Part→Part
 | .rng a b=>.rng a b
 | .it x=>.it (It.sh x)
theorem part_L (x:Part):partL (Part.sh x)=partL x:=by
 cases x with
 | rng a b=>rfl
 | it x=>exact It.sh_set x
theorem all_L (l:List Part):allL (l.map Part.sh)=allL l:=by
 unfold Sc.allL
 induction l with
 | nil=>rfl
 | cons a l ih=>rw [List.map_cons,List.flatMap_cons,List.flatMap_cons,ih,part_L]
theorem wr_pc (hk:k<p.length) (h:∀ e,Sc.pieceP p k≠.err e):Sc.pieceP (wrapB p) (k+3)=It.sh (Sc.pieceP p k):=by
 unfold Sc.pieceP at h ⊢
 simp only [wr_eq (c:=92) (by decide) (by decide),wr_eq (c:=91) (by decide) (by decide),show k+3+1=k+1+3 from rfl,wr_eq (c:=58) (by decide) (by decide),show k+3+2=k+2+3 from rfl]
 split
 ·rename_i h1
  rw [if_pos h1] at h
  rcases Nat.lt_or_ge (k+1) p.length with h2|h2
  ·exact wr_esc true h2
  ·exact absurd (esc_end true h2) (h 32)
 ·rename_i h1
  rw [if_neg h1] at h
  split
  ·rename_i h2
   rw [if_pos h2] at h
   exact wr_nmd h
  ·rw [wr_sym hk]
   show It.lit _ _=It.lit _ _
   rw [show k+3+(sym p k).2=k+(sym p k).2+3 by omega]
theorem wr_rg (h:g p k=45→k+1≠p.length):rgP (wrapB p) (k+3)=rgP p k:=by
 unfold Sc.rgP
 by_cases h1:g p k=45
 ·have hl:=g_in (bs:=p) (k:=k) (by omega)
  have h2:=h h1
  have e:g (wrapB p) (k+3)=45:=by rw [wr_g hl];exact h1
  have h4:k+1<p.length:=by omega
  have h5:k+1+3<(wrapB p).length:=by rw [wr_len];omega
  rw [e,h1,show k+3+1=k+1+3 from rfl,wr_g h4,decide_eq_true h4,decide_eq_true h5]
 ·have e:¬ g (wrapB p) (k+3)=45:=by rw [wr_eq (by decide) (by decide)];exact h1
  rw [decide_eq_false e,decide_eq_false h1,Bool.false_and,Bool.false_and]
theorem wr_part {x:Part} {t:Nat} (hk:k<p.length) (h:partP p k=.ok (x,t)) (hr:g p t=45→t+1≠p.length):partP (wrapB p) (k+3)=.ok (Part.sh x,t+3):=by
 have hne:∀ e,Sc.pieceP p k≠.err e:=fun e he=>by unfold Sc.partP at h;rw [he] at h;cases h
 have hp:=wr_pc hk hne
 unfold Sc.partP at h ⊢
 rw [hp]
 revert h
 cases hx:Sc.pieceP p k with
 | err e=>intro h;cases h
 | lit n tq=>
  simp only [It.sh]
  intro h
  by_cases hg:rgP p tq=true
  ·have hl:tq+1<p.length:=by
    unfold Sc.rgP at hg
    simp only [Bool.and_eq_true,decide_eq_true_eq] at hg
    exact hg.2.1
   have hg':rgP (wrapB p) (tq+3)=true:=by rw [wr_rg (fun _=>by omega)];exact hg
   rw [if_pos hg] at h
   rw [if_pos hg',show tq+3+1=tq+1+3 from rfl]
   have hne2:∀ e,Sc.pieceP p (tq+1)≠.err e:=fun e he=>by rw [he] at h;cases h
   rw [wr_pc hl hne2]
   revert h
   cases Sc.pieceP p (tq+1)<;>simp only [It.sh]<;>intro h<;>first|cases h|skip
   split at h
   ·cases h
   ·rename_i hmn
    rw [if_neg hmn]
    injection h with h
    injection h with h1 h2
    subst h1;subst h2
    rfl
  ·rw [if_neg hg] at h
   injection h with h
   injection h with h1 h2
   subst h1;subst h2
   rw [if_neg (by rw [wr_rg hr];exact hg)]
   rfl
 | cls c tq=>simp only [It.sh];intro h;injection h with h;injection h with h1 h2;subst h1;subst h2;rfl
 | nam s b tq=>simp only [It.sh];intro h;injection h with h;injection h with h1 h2;subst h1;subst h2;rfl
 | hld n tq=>simp only [It.sh];intro h;injection h with h;injection h with h1 h2;subst h1;subst h2;rfl
 | ref n tq=>simp only [It.sh];intro h;injection h with h;injection h with h1 h2;subst h1;subst h2;rfl
 | key s tq=>simp only [It.sh];intro h;injection h with h;injection h with h1 h2;subst h1;subst h2;rfl
theorem cls_dash {i f t:Nat} {acc:List Part} (h1:g p t=45) (h2:t+1=p.length):∀ x,clsF p i f t acc≠.ok x:=by
 intro x hx
 have hl:t<p.length:=by omega
 have hp:partP p t=.ok (.rng 45 45,t+1):=by
  unfold Sc.partP Sc.pieceP
  rw [if_neg (by omega),if_neg (by omega),Sc.sym_low hl (by omega),h1]
  simp only []
  rw [if_neg]
  unfold Sc.rgP
  rw [g_out (by omega)]
  simp
 rw [Sc.clsF_on hl (by omega) hp (by omega),Sc.clsF_end (by omega)] at hx
 cases hx
theorem wr_clsF {i i' f:Nat}:∀ (m k:Nat) (acc:List Part) {l:List Part} {e:Nat},p.length-k≤m→clsF p i f k acc=.ok (l,e)→clsF (wrapB p) i' (f+3) (k+3) (acc.map Part.sh)=.ok (l.map Part.sh,e+3)
 | m,k,acc,l,e,hm,h=>by
  by_cases h1:k<p.length
  ·have h1':k+3<(wrapB p).length:=by rw [wr_len];omega
   by_cases h2:k≠f∧g p k=93
   ·rw [Sc.clsF_stop h1 h2.1 h2.2] at h
    injection h with h;injection h with h3 h4;subst h3;subst h4
    exact Sc.clsF_stop h1' (by omega) (by rw [wr_g h1];exact h2.2)
   ·cases hp:partP p k with
    | error e=>rw [Sc.clsF_err h1 h2 hp] at h;cases h
    | ok t=>
     obtain ⟨x,tq⟩:=t
     have hpi:=Sc.part_in (bs:=p) (k:=k) h1
     rw [hp] at hpi
     have hto:k<tq:=hpi.1
     rw [Sc.clsF_on h1 h2 hp hto] at h
     have hr:g p tq=45→tq+1≠p.length:=fun a b=>cls_dash a b _ h
     have hw:=wr_part h1 hp hr
     have h2':¬ (k+3≠f+3∧g (wrapB p) (k+3)=93):=by rw [wr_g h1];omega
     rw [Sc.clsF_on h1' h2' hw (by omega)]
     cases m with
     | zero=>omega
     | succ m=>
      have ih:=wr_clsF (i:=i) (i':=i') (f:=f) m tq (acc++[x]) (by omega) h
      rw [List.map_append,List.map_cons,List.map_nil] at ih
      exact ih
  ·rw [Sc.clsF_end (by omega)] at h;cases h
theorem wr_cls {l:List Part} {e:Nat} (h:clsz p (k:Int)=.ok (l,e)):clsz (wrapB p) ((k+3:Nat):Int)=.ok (l.map Part.sh,e+3):=by
 unfold Sc.clsz at h ⊢
 rw [Sc.gz_nat] at h ⊢
 split at h
 ·rename_i h91
  rw [if_pos (by rw [wr_g (g_in (by omega))];exact h91)]
  rw [Int.toNat_natCast] at h ⊢
  unfold Sc.clsP at h ⊢
  have ef:fsP (wrapB p) (k+3)=fsP p k+3:=by
   unfold Sc.fsP
   simp only [show k+3+1=k+1+3 from rfl,wr_eq (c:=94) (by decide) (by decide)]
   split<;>rfl
  rw [ef]
  exact wr_clsF _ _ [] (Nat.le_refl _) h
 ·cases h
theorem wr_notz:notz (wrapB p) ((k+3:Nat):Int)=notz p (k:Int):=by
 unfold Sc.notz
 rw [Int.toNat_natCast,Int.toNat_natCast]
 exact wr_f (k:=k+1) (fun c=>decide (c=94)) rfl
theorem wr_decF:∀ (m k num:Nat),p.length-k≤m→decF (wrapB p) (k+3) num=((decF p k num).1,(decF p k num).2+3)
 | m,k,num,hm=>by
  have e:isD (g (wrapB p) (k+3))=isD (g p k):=wr_f isD rfl
  cases hd:isD (g p k) with
  | false=>rw [Sc.decF_stop _ hd,Sc.decF_stop _ (e.trans hd)]
  | true=>
   have hl:=g_in (bs:=p) (k:=k) (fun e=>by rw [e] at hd;cases hd)
   rw [Sc.decF_step _ hd,Sc.decF_step _ (e.trans hd),wr_g hl,show k+3+1=k+1+3 from rfl]
   cases m with
   | zero=>omega
   | succ m=>exact wr_decF m (k+1) _ (by omega)
theorem wr_most (num:Nat):mostP (wrapB p) num (k+3)=((mostP p num k).1,(mostP p num k).2+3):=by
 unfold Sc.mostP
 simp only [wr_eq (c:=44) (by decide) (by decide),show k+3+1=k+1+3 from rfl,wr_decF _ (k+1) 0 (Nat.le_refl _)]
 split
 ·simp only [Nat.add_right_cancel_iff]
 ·rfl
theorem wr_braces:bracesP (wrapB p) (k+3)=(bracesP p k).map fun t=>(t.1,t.2.1,t.2.2+3):=by
 unfold Sc.bracesP
 simp only [wr_decF _ k 0 (Nat.le_refl _),wr_most,wr_eq (c:=125) (by decide) (by decide),Nat.add_right_cancel_iff]
 split
 ·rfl
 ·split
  ·rfl
  ·rfl
theorem wr_counts:countsP (wrapB p) (k+3)=(countsP p k).map fun t=>(t.1,t.2.1,t.2.2+3):=by
 unfold Sc.countsP
 simp only [wr_eq (c:=42) (by decide) (by decide),wr_eq (c:=43) (by decide) (by decide),wr_eq (c:=63) (by decide) (by decide),wr_eq (c:=123) (by decide) (by decide),show k+3+1=k+1+3 from rfl,wr_braces]
 split
 ·rfl
 ·split
  ·rfl
  ·split
   ·rfl
   ·split
    ·rfl
    ·rfl
def Ct.sh (c:Ct):Ct:=if c.is then { c with «to»:=c.«to»+3 } else c
theorem wr_cnt:cntP (wrapB p) (k+3)=Ct.sh (cntP p k):=by
 unfold Sc.cntP
 rw [wr_counts]
 cases countsP p k with
 | none=>rfl
 | some t=>
  obtain ⟨lo,hi,tq⟩:=t
  simp only [Option.map_some]
  have em:modeP (wrapB p) (tq+3)=modeP p tq:=wr_f (fun c=>if c=63 then 1 else if c=43 then 2 else 0) rfl
  rw [em]
  split
  ·show (Ct.mk _ _ _ _ _ _)=Ct.mk _ _ _ _ _ _
   rw [show tq+3+(if modeP p tq=0 then 0 else 1)=tq+(if modeP p tq=0 then 0 else 1)+3 by omega]
  ·rfl
theorem wr_blk:∀ (m k:Nat) (r:Bool),p.length-k≤m→k≤p.length→(blk (wrapB p) (k+3) r=blk p k r+3)∨(blk p k r=p.length∧blk (wrapB p) (k+3) r=p.length+4)
 | m,k,r,hm,hk=>by
  rcases Nat.lt_or_ge k p.length with h|h
  ·have h':k+3<(wrapB p).length:=by rw [wr_len];omega
   cases m with
   | zero=>omega
   | succ m=>
    rw [Sc.blk.eq_1 (wrapB p),dif_pos h',Sc.blk.eq_1 p k,dif_pos h,wr_g h,show k+3+1=k+1+3 from rfl]
    split
    ·exact wr_blk m (k+1) false (by omega) (by omega)
    ·split
     ·exact wr_blk m (k+1) true (by omega) (by omega)
     ·split
      ·exact .inl rfl
      ·exact wr_blk m (k+1) r (by omega) (by omega)
  ·obtain rfl:k=p.length:=by omega
   have e0:=Sc.blk_end (bs:=p) r (Nat.le_refl _)
   rw [e0]
   have h':p.length+3<(wrapB p).length:=by rw [wr_len];omega
   cases r with
   | false=>exact .inl (Sc.blk_stop (by rw [wr_g_end];decide) (by rw [wr_g_end];decide))
   | true=>exact .inr ⟨rfl,by rw [Sc.blk_on h' (by rw [wr_g_end];decide),Sc.blk_end _ (by rw [wr_len];omega)]⟩
end
end
section
open Sy (g)
open Sc (It Ct cntP blk nameP escP clsz sym g_in g_out)
open As (Nd Tr)
def St.sh (s:St):St:={ s with pos:=s.pos+3 }
def ndS (nd:Nd):Nd:={ nd with from_:=nd.from_+3,to_:=nd.to_+3 }
def F.sh:F→F
 | .nil=>.nil
 | .cons nd ks r=>.cons (ndS nd) ks.sh r.sh
def Pt.sh (x:Pt):Pt:=⟨ndS x.nd,x.kids.sh⟩
theorem F.sh_app (x:Pt):∀ l:F,(l.app x).sh=l.sh.app x.sh
 | .nil=>rfl
 | .cons nd ks r=>by show F.cons (ndS nd) ks.sh (r.app x).sh=F.cons (ndS nd) ks.sh (r.sh.app x.sh);rw [F.sh_app x r]
theorem F.sh_one (x:Pt):(F.one x).sh=.one x.sh:=rfl
theorem F.sh_len:∀ l:F,l.sh.len=l.len
 | .nil=>rfl
 | .cons nd ks r=>by show r.sh.len+1=r.len+1;rw [F.sh_len r]
theorem F.sh_last:∀ (l:F) (z:Int),l.sh.lastTo (z+3)=l.lastTo z+3
 | .nil,z=>rfl
 | .cons nd ks r,z=>F.sh_last r nd.to_
theorem row_sh (l:F) (fr:Nat):rowP l.sh (fr+3)=(rowP l fr).sh:=by
 cases l with
 | nil=>rfl
 | cons nd ks r=>
  cases r with
  | nil=>rfl
  | cons a b c=>
   show (Pt.mk _ _)=Pt.mk _ _
   have e:(F.cons a b c).sh.lastTo (nd.to_+3)=(F.cons a b c).lastTo nd.to_+3:=F.sh_last _ _
   show Pt.mk { nd0 with kind:=5,from_:=nd.from_+3,to_:=(F.cons a b c).sh.lastTo (nd.to_+3) } _=_
   rw [e]
   rfl
def Alk {α:Type} (n:Nat) (sh:α→α) (x:α) (s:St) (r':Res α):Prop:=r'=.ok (sh x,s.sh)∨(s.pos=n∧∃ x' s',r'=.ok (x',s')∧s'.pos=n+4)∨∃ pl,r'=.error (39,pl)
def Rl (n:Nat) (i i':St→Res Pt):Prop:=∀ st x s,st.pos≤n→i st=.ok (x,s)→Alk n Pt.sh x s (i' st.sh)
def IR (n:Nat) (i i':Option (St→Res Pt)):Prop:=i'=none∨∃ j j',i=some j∧i'=some j'∧Rl n j j'
def Alm (x:Pt×Bool) (s:St) (r':Res (Pt×Bool)):Prop:=(∃ x',(x'=x.1.sh∨(x.1.nd.kind=0∧x'.nd.kind=0∧x.2=false))∧r'=.ok ((x',x.2),s.sh))∨∃ pl,r'=.error (39,pl)
section
variable {p:List UInt8}
theorem skip_sh (st:St) (h:st.pos≤p.length):skipP (wrapB p) st.sh=(skipP p st).sh∨((skipP p st).pos=p.length∧(skipP (wrapB p) st.sh).pos=p.length+4∧(skipP (wrapB p) st.sh).fl=st.fl∧(skipP (wrapB p) st.sh).names=st.names):=by
 unfold skipP
 cases hx:st.fl.x with
 | false=>exact .inl (by rw [show st.sh.fl.x=false from hx];rfl)
 | true=>
  rw [show st.sh.fl.x=true from hx,if_pos rfl,if_pos rfl]
  rcases wr_blk (p:=p) _ st.pos false (Nat.le_refl _) h with e|⟨e1,e2⟩
  ·refine .inl ?_
   show St.mk (blk (wrapB p) (st.pos+3) false) st.fl st.names=St.mk (blk p st.pos false+3) st.fl st.names
   rw [e]
  ·exact .inr ⟨e1,e2,rfl,rfl⟩
theorem skip_over (st:St) (h:p.length+4≤st.pos):skipP (wrapB p) st=st:=by
 unfold skipP
 split
 ·rw [Sc.blk_end _ (by rw [wr_len];exact h)]
 ·rfl
theorem cnt_out {bs:List UInt8} {k:Nat} (h:bs.length≤k):cntP bs k=⟨0,0,0,0,false,0⟩:=by
 have:=g_out h
 exact cnt_no (by omega) (by omega) (by omega) (by omega)
theorem ct_sh_e (c:Ct):(Ct.sh c).e=c.e∧(Ct.sh c).is=c.is∧(c.is=true→Ct.sh c={ c with «to»:=c.«to»+3 }):=by
 unfold Ct.sh
 split
 ·exact ⟨rfl,rfl,fun _=>rfl⟩
 ·exact ⟨rfl,rfl,fun h=>absurd h (by assumption)⟩
theorem rep_sh (x:Pt) (fr:Nat) (c:Ct):repP x.sh (fr+3) { c with «to»:=c.«to»+3 }=(repP x fr c).sh:=by
 unfold repP
 simp only []
 split
 ·show Pt.mk _ _=Pt.mk _ _
  rfl
 ·rfl
theorem quant_sh (x:Pt) (fr:Nat) {st s:St} {y:Pt} (hp:st.pos≤p.length) (h:quantP p x fr st=.ok (y,s)):Alk p.length Pt.sh y s (quantP (wrapB p) x.sh (fr+3) st.sh):=by
 have h1:=skip_on p st hp
 rcases skip_sh st hp with e|⟨e1,e2,e3,e4⟩
 ·unfold quantP at h ⊢
  rw [e]
  have ec:cntP (wrapB p) (skipP p st).sh.pos=Ct.sh (cntP p (skipP p st).pos):=wr_cnt
  rw [ec]
  obtain ⟨c1,c2,c3⟩:=ct_sh_e (cntP p (skipP p st).pos)
  rw [c1,c2]
  split at h
  ·cases h
  ·rename_i he
   rw [if_neg he]
   split at h
   ·rename_i hi
    rw [if_pos hi]
    injection h with h;injection h with h2 h3;subst h2;subst h3
    exact .inl rfl
   ·rename_i hi
    rw [if_neg hi]
    have his:(cntP p (skipP p st).pos).is=true:=by simpa using hi
    rw [c3 his]
    have hc:=cnt_on his
    have hs2:(St.mk ((cntP p (skipP p st).pos).«to»+3) (skipP p st).sh.fl (skipP p st).sh.names)=St.sh { skipP p st with pos:=(cntP p (skipP p st).pos).«to» }:=rfl
    rcases skip_sh { skipP p st with pos:=(cntP p (skipP p st).pos).«to» } hc.2.1 with f|⟨f1,f2,f3,f4⟩
    ·rw [show ({ (skipP p st).sh with pos:=({ cntP p (skipP p st).pos with «to»:=(cntP p (skipP p st).pos).«to»+3 }:Ct).«to» }:St)=St.sh { skipP p st with pos:=(cntP p (skipP p st).pos).«to» } from rfl,f]
     have ec2:cntP (wrapB p) (skipP p { skipP p st with pos:=(cntP p (skipP p st).pos).«to» }).sh.pos=Ct.sh (cntP p (skipP p { skipP p st with pos:=(cntP p (skipP p st).pos).«to» }).pos):=wr_cnt
     rw [ec2]
     obtain ⟨d1,d2,-⟩:=ct_sh_e (cntP p (skipP p { skipP p st with pos:=(cntP p (skipP p st).pos).«to» }).pos)
     rw [d1,d2]
     split at h
     ·cases h
     ·rename_i hn
      rw [if_neg hn]
      injection h with h;injection h with h2 h3;subst h2;subst h3
      rw [rep_sh]
      exact .inl rfl
    ·split at h
     ·cases h
     ·injection h with h;injection h with h2 h3;subst h3
      refine .inr (.inl ⟨f1,?_⟩)
      rw [show ({ (skipP p st).sh with pos:=({ cntP p (skipP p st).pos with «to»:=(cntP p (skipP p st).pos).«to»+3 }:Ct).«to» }:St)=St.sh { skipP p st with pos:=(cntP p (skipP p st).pos).«to» } from rfl,f2,cnt_out (by rw [wr_len];exact Nat.le_refl _),if_neg (by simp)]
      exact ⟨_,_,rfl,f2⟩
 ·have hq:quantP p x fr st=.ok (x,skipP p st):=by
   unfold quantP
   rw [e1,cnt_out (Nat.le_refl _),if_neg (by simp),if_pos rfl]
  rw [hq] at h
  injection h with h;injection h with h2 h3;subst h3
  refine .inr (.inl ⟨e1,x.sh,skipP (wrapB p) st.sh,?_,e2⟩)
  unfold quantP
  rw [e2,cnt_out (by rw [wr_len];exact Nat.le_refl _),if_neg (by simp),if_pos rfl]
theorem may_sh {b:Bool} {y y':Pt×St} {x:Pt×Bool} {s:St} (h:mayP b y=.ok (x,s)) (e1:y'.1=y.1.sh) (e2:y'.2=y.2.sh):Alm x s (mayP b y'):=by
 unfold mayP at h ⊢
 injection h with h;injection h with h2 h3;subst h2;subst h3
 exact .inl ⟨y'.1,.inl e1,by rw [e2]⟩
theorem class_sh {st s:St} {x:Pt×Bool} (h:classP p st=.ok (x,s)):Alm x s (classP (wrapB p) st.sh):=by
 unfold classP at h ⊢
 cases hc:clsz p (st.pos:Int) with
 | error e=>rw [hc] at h;cases h
 | ok t=>
  obtain ⟨l,q⟩:=t
  rw [hc] at h
  have hw:=wr_cls hc
  rw [show ((st.sh.pos:Nat):Int)=((st.pos+3:Nat):Int) from rfl,hw]
  simp only [] at h ⊢
  rw [all_L,wr_notz]
  exact may_sh h rfl rfl
theorem back_sh {y:It} {st s:St} {x:Pt×Bool} (h:backP y st=.ok (x,s)) (hy:(It.sh y).«to»=y.«to»+3) (h2:(It.sh y).num=y.num) (h3:(It.sh y).name=y.name) (hf:y.«to»=y.«to»):Alm x s (backP (It.sh y) st.sh):=by
 unfold backP at h ⊢
 rw [h2,h3,hy]
 exact may_sh h rfl rfl
theorem esc_sh {st s:St} {x:Pt×Bool} (h92:g p st.pos=92) (h:escPt p st=.ok (x,s)):Alm x s (escPt (wrapB p) st.sh):=by
 have hl:=g_in (bs:=p) (k:=st.pos) (by omega)
 have h92':g (wrapB p) (st.pos+3)=92:=by rw [wr_g hl];exact h92
 unfold escPt at h ⊢
 rw [Sc.escz_yes false h92] at h
 rw [show ((st.sh.pos:Nat):Int)=((st.pos+3:Nat):Int) from rfl,Sc.escz_yes false h92']
 rcases Nat.lt_or_ge (st.pos+1) p.length with h1|h1
 ·rw [show st.pos+3+1=st.pos+1+3 from rfl,wr_esc false h1]
  revert h
  cases escP p false (st.pos+1) with
  | err e=>intro h;cases h
  | lit n q=>intro h;exact may_sh h rfl rfl
  | cls c q=>intro h;exact may_sh h rfl rfl
  | nam t b q=>intro h;exact may_sh h rfl rfl
  | hld n q=>intro h;exact may_sh h rfl rfl
  | ref n q=>intro h;exact back_sh h rfl rfl rfl rfl
  | key t q=>intro h;exact back_sh h rfl rfl rfl rfl
 ·rw [esc_end false h1] at h
  cases h
theorem hold_sh {a b:Nat} {st s:St} {x:Pt×Bool} (h:holdP a b st=.ok (x,s)):Alm x s (holdP a b st.sh):=by
 unfold holdP at h ⊢
 exact may_sh h rfl rfl
theorem within_sh {i i':St→Res Pt} (hr:Rl p.length i i') {n:Nd} {fr:Nat} {fl:Fl} {st s:St} {x:Pt×Bool} (hfr:fr≤p.length) (h:withinP p i n fr fl st=.ok (x,s)) (hfw:Fwd p i):Alm x s (withinP (wrapB p) i' n (fr+3) fl st.sh):=by
 unfold withinP at h
 split at h
 ·cases h
 ·rename_i y s2 hi
  split at h
  ·cases h
  ·rename_i hlt
   have hw:=hr ⟨fr,fl,st.names⟩ y s2 hfr hi
   have hlt':s2.pos<p.length:=Nat.lt_of_not_le hlt
   unfold withinP
   rcases hw with e|⟨e1,-⟩|⟨pl,e⟩
   ·rw [show i' ⟨fr+3,fl,st.sh.names⟩=.ok (y.sh,s2.sh) from e]
    simp only []
    rw [if_neg (by rw [wr_len];show ¬ p.length+4≤s2.pos+3;omega)]
    injection h with h;injection h with h2 h3;subst h2;subst h3
    by_cases hk:n.kind=0
    ·rw [if_pos hk,if_pos hk]
     exact .inl ⟨y.sh,.inl rfl,rfl⟩
    ·rw [if_neg hk,if_neg hk]
     refine .inl ⟨_,.inl rfl,?_⟩
     show Except.ok _=Except.ok _
     have a1:(((st.pos+3:Nat):Int))=(st.pos:Int)+3:=by omega
     have a2:(((s2.pos+3:Nat):Int)+1)=(s2.pos:Int)+1+3:=by omega
     show Except.ok ((Pt.mk { n with from_:=((st.pos+3:Nat):Int),to_:=((s2.pos+3:Nat):Int)+1 } (.one y.sh),true),_)=_
     rw [a1,a2]
     rfl
   ·omega
   ·rw [show i' ⟨fr+3,fl,st.sh.names⟩=.error (39,pl) from e]
    exact .inr ⟨pl,rfl⟩
theorem group_sh {i i':St→Res Pt} (hr:Rl p.length i i') {name:List UInt8} {fr:Nat} {st s:St} {x:Pt×Bool} (hfr:fr≤p.length) (h:groupP p i name fr st=.ok (x,s)) (hfw:Fwd p i):Alm x s (groupP (wrapB p) i' name (fr+3) st.sh):=by
 unfold groupP at h ⊢
 rw [show st.sh.names=st.names from rfl]
 split at h
 ·cases h
 ·rename_i hn
  rw [if_neg hn]
  exact within_sh hr (st:={ st with names:=st.names++[name] }) hfr h hfw
theorem fnd1_sh:∀ (m k j:Nat),p.length-k≤m→fnd1 p k=some j→fnd1 (wrapB p) (k+3)=some (j+3)
 | m,k,j,hm,h=>by
  rw [fnd1] at h
  split at h
  ·rename_i hk
   rw [fnd1,dif_pos (by rw [wr_len];omega),wr_g hk]
   split at h
   ·rename_i h1
    injection h with h;subst h
    rw [if_pos h1]
   ·rename_i h1
    rw [if_neg h1,show k+3+1=k+1+3 from rfl]
    cases m with
    | zero=>omega
    | succ m=>exact fnd1_sh m (k+1) j (by omega) h
  ·cases h
theorem let_sh {b:Bool}:∀ (m:Nat) (fl:Fl) (k:Nat),p.length-k≤m→k≤p.length→letP (wrapB p) b fl (k+3)=((letP p b fl k).1,(letP p b fl k).2+3)
 | m,fl,k,hm,hk=>by
  rcases Nat.lt_or_ge k p.length with h|h
  ·cases m with
   | zero=>omega
   | succ m=>
    have ih:=fun fl=>let_sh (b:=b) m fl (k+1) (by omega) (by omega)
    rw [letP.eq_1 (wrapB p),dif_pos (show k+3<(wrapB p).length by rw [wr_len];omega),wr_g h,show k+3+1=k+1+3 from rfl]
    rw [letP.eq_1 p,dif_pos h]
    split
    ·exact ih _
    ·split
     ·exact ih _
     ·split
      ·exact ih _
      ·split
       ·exact ih _
       ·rfl
  ·obtain rfl:k=p.length:=by omega
   rw [letP,dif_pos (by rw [wr_len];omega),wr_g_end,if_neg (by decide),if_neg (by decide),if_neg (by decide),if_neg (by decide),letP,dif_neg (by omega)]
theorem flg_sh (fl:Fl) {k:Nat} (hk:k≤p.length):flgP (wrapB p) fl (k+3)=((flgP p fl k).1,(flgP p fl k).2.1+3,(flgP p fl k).2.2+3):=by
 have h1:=let_on (bs:=p) (b:=true) _ fl k (Nat.le_refl _)
 have hA:=let_sh (p:=p) (b:=true) _ fl k (Nat.le_refl _) hk
 unfold flgP
 rw [hA]
 simp only [wr_eq (c:=45) (by decide) (by decide)]
 split
 ·rename_i h
  have hl:=g_in (bs:=p) (k:=(letP p true fl k).2) (by omega)
  have hB:=let_sh (p:=p) (b:=false) _ (letP p true fl k).1 ((letP p true fl k).2+1) (Nat.le_refl _) (by omega)
  rw [show (letP p true fl k).2+3+1=(letP p true fl k).2+1+3 from rfl,hB]
 ·rfl
theorem flagged_sh {i i':St→Res Pt} (hr:Rl p.length i i') {k:Nat} {st s:St} {x:Pt×Bool} (hk:k≤p.length) (h:flaggedP p i k st=.ok (x,s)) (hfw:Fwd p i):Alm x s (flaggedP (wrapB p) i' (k+3) st.sh):=by
 unfold flaggedP at h ⊢
 rw [show st.sh.fl=st.fl from rfl,flg_sh st.fl hk]
 simp only []
 split at h
 ·cases h
 ·rename_i h0
  have hb:(flgP p st.fl k).2.2<p.length:=Nat.lt_of_not_le fun e=>h0 (.inr e)
  rw [if_neg (by rw [wr_len];rintro (e|e);exact h0 (.inl (by omega));omega),wr_g hb]
  split at h
  ·rename_i h1
   rw [if_pos h1]
   injection h with h;injection h with h2 h3;subst h2;subst h3
   exact .inl ⟨⟨nd0,.nil⟩,.inr ⟨rfl,rfl,rfl⟩,rfl⟩
  ·rename_i h1
   rw [if_neg h1]
   split at h
   ·rename_i h2
    rw [if_pos h2]
    exact within_sh hr (by omega) h hfw
   ·cases h
theorem named_sh {i i':St→Res Pt} (hr:Rl p.length i i') {k:Nat} {st s:St} {x:Pt×Bool} (h:namedP p i k st=.ok (x,s)) (hfw:Fwd p i):Alm x s (namedP (wrapB p) i' (k+3) st.sh):=by
 unfold namedP at h ⊢
 rw [wr_name]
 cases hn:nameP p k with
 | none=>rw [hn] at h;cases h
 | some t=>
  obtain ⟨nm,fr⟩:=t
  rw [hn] at h
  simp only [Option.map_some] at h ⊢
  rw [show st.sh.names=st.names from rfl]
  split at h
  ·cases h
  ·rename_i h1
   rw [if_neg h1]
   exact group_sh hr (name_on hn).2.1 h hfw
theorem remark_sh {st s:St} {x:Pt×Bool} (h:remarkP p st=.ok (x,s)):Alm x s (remarkP (wrapB p) st.sh):=by
 unfold remarkP at h ⊢
 cases hj:fnd1 p st.pos with
 | none=>rw [hj] at h;cases h
 | some j=>
  rw [hj] at h
  rw [show st.sh.pos=st.pos+3 from rfl,fnd1_sh _ _ _ (Nat.le_refl _) hj]
  simp only [] at h ⊢
  injection h with h;injection h with h2 h3;subst h2;subst h3
  exact .inl ⟨⟨nd0,.nil⟩,.inr ⟨rfl,rfl,rfl⟩,rfl⟩
theorem paren_sh {i i':Option (St→Res Pt)} (hr:IR p.length i i') (hfw:∀ j,i=some j→Fwd p j) {st s:St} {x:Pt×Bool} (hp:st.pos<p.length) (h:parenP p i st=.ok (x,s)):Alm x s (parenP (wrapB p) i' st.sh):=by
 unfold parenP at h
 cases i with
 | none=>cases h
 | some j=>
  have hf:=hfw j rfl
  rcases hr with rfl|⟨j1,j',e1,rfl,hr⟩
  ·exact .inr ⟨_,rfl⟩
  ·injection e1 with e1
   subst e1
   simp only [] at h
   have hl:∀ q:List Nat,(∀ c∈q,0<c)→0<q.length→stA p st.pos q=true→st.pos+q.length≤p.length:=fun q h1 h2 h3=>stA_len q st.pos h1 h2 h3
   unfold parenP
   simp only [show st.sh.pos=st.pos+3 from rfl]
   rw [wr_stA [40,63] _ (by simp),wr_stA [40,63,35] _ (by simp),wr_stA [40,63,58] _ (by simp),wr_stA [40,63,62] _ (by simp),wr_stA [40,63,61] _ (by simp),wr_stA [40,63,33] _ (by simp),wr_stA [40,63,60,61] _ (by simp),wr_stA [40,63,60,33] _ (by simp),wr_stA [40,63,60] _ (by simp)]
   split at h
   ·rename_i h0
    rw [if_pos h0]
    exact group_sh hr (by omega) h hf
   ·rename_i h0
    rw [if_neg h0]
    have h2:=hl [40,63] (by decide) (by decide) (by simpa using h0)
    simp only [List.length_cons,List.length_nil] at h2
    split at h
    ·rename_i h3
     rw [if_pos h3]
     exact remark_sh h
    ·rename_i h3
     rw [if_neg h3]
     split at h
     ·rename_i h4
      rw [if_pos h4]
      have h5:=hl [40,63,58] (by decide) (by decide) h4
      exact within_sh hr (by simpa using h5) h hf
     ·rename_i h4
      rw [if_neg h4]
      split at h
      ·rename_i h5
       rw [if_pos h5]
       have h6:=hl [40,63,62] (by decide) (by decide) h5
       exact within_sh hr (by simpa using h6) h hf
      ·rename_i h5
       rw [if_neg h5]
       split at h
       ·rename_i h6
        rw [if_pos h6]
        have h7:=hl [40,63,61] (by decide) (by decide) h6
        exact within_sh hr (by simpa using h7) h hf
       ·rename_i h6
        rw [if_neg h6]
        split at h
        ·rename_i h7
         rw [if_pos h7]
         have h8:=hl [40,63,33] (by decide) (by decide) h7
         exact within_sh hr (by simpa using h8) h hf
        ·rename_i h7
         rw [if_neg h7]
         split at h
         ·rename_i h8
          rw [if_pos h8]
          have h9:=hl [40,63,60,61] (by decide) (by decide) h8
          exact within_sh hr (by simpa using h9) h hf
         ·rename_i h8
          rw [if_neg h8]
          split at h
          ·rename_i h9
           rw [if_pos h9]
           have h10:=hl [40,63,60,33] (by decide) (by decide) h9
           exact within_sh hr (by simpa using h10) h hf
          ·rename_i h9
           rw [if_neg h9]
           split at h
           ·rename_i h10
            rw [if_pos h10]
            exact named_sh hr h hf
           ·rename_i h10
            rw [if_neg h10]
            exact flagged_sh hr (by omega) h hf
theorem atom_sh {i i':Option (St→Res Pt)} (hr:IR p.length i i') (hfw:∀ j,i=some j→Fwd p j) {st s:St} {x:Pt×Bool} (hp:st.pos<p.length) (h:atomP p i st=.ok (x,s)):Alm x s (atomP (wrapB p) i' st.sh):=by
 unfold atomP at h ⊢
 rw [show st.sh.pos=st.pos+3 from rfl,wr_g hp,wr_sym hp]
 split at h
 ·rename_i h1
  rw [if_pos h1]
  exact paren_sh hr hfw hp h
 ·rename_i h1
  rw [if_neg h1]
  split at h
  ·rename_i h2
   rw [if_pos h2]
   exact class_sh h
  ·rename_i h2
   rw [if_neg h2]
   split at h
   ·rename_i h3
    rw [if_pos h3]
    exact esc_sh h3 h
   ·rename_i h3
    rw [if_neg h3]
    split at h
    ·rename_i h4
     rw [if_pos h4]
     exact hold_sh h
    ·rename_i h4
     rw [if_neg h4]
     split at h
     ·rename_i h5
      rw [if_pos h5]
      exact hold_sh h
     ·rename_i h5
      rw [if_neg h5]
      split at h
      ·rename_i h6
       rw [if_pos h6]
       exact may_sh h rfl rfl
      ·rename_i h6
       rw [if_neg h6]
       refine may_sh h ?_ ?_
       ·show Pt.mk { nd0 with kind:=2,set:=_,from_:=((st.pos+3:Nat):Int),to_:=((st.pos+3+(sym p st.pos).2:Nat):Int) } .nil=Pt.mk { nd0 with kind:=2,set:=_,from_:=(st.pos:Int)+3,to_:=((st.pos+(sym p st.pos).2:Nat):Int)+3 } .nil
        rw [show ((st.pos+3+(sym p st.pos).2:Nat):Int)=((st.pos+(sym p st.pos).2:Nat):Int)+3 by omega]
        rfl
       ·show St.mk (st.pos+3+(sym p st.pos).2) st.fl st.names=St.mk (st.pos+(sym p st.pos).2+3) st.fl st.names
        rw [show st.pos+3+(sym p st.pos).2=st.pos+(sym p st.pos).2+3 by omega]
def Alp (n:Nat) (x:Pt) (s:St) (r':Res Pt):Prop:=(∃ x',(x'=x.sh∨(x.nd.kind=0∧x'.nd.kind=0))∧r'=.ok (x',s.sh))∨(s.pos=n∧∃ x' s',r'=.ok (x',s')∧s'.pos=n+4)∨∃ pl,r'=.error (39,pl)
theorem piece_sh {i i':Option (St→Res Pt)} (hr:IR p.length i i') (hfw:∀ j,i=some j→Fwd p j) {st s:St} {x:Pt} (hp:st.pos<p.length) (h:pieceP p i st=.ok (x,s)):Alp p.length x s (pieceP (wrapB p) i' st.sh):=by
 unfold pieceP at h ⊢
 have ec:cntP (wrapB p) st.sh.pos=Ct.sh (cntP p st.pos):=wr_cnt
 obtain ⟨c1,c2,-⟩:=ct_sh_e (cntP p st.pos)
 rw [ec,c1,c2]
 split at h
 ·cases h
 ·rename_i h1
  rw [if_neg h1]
  split at h
  ·cases h
  ·rename_i h2
   rw [if_neg h2]
   split at h
   ·cases h
   ·rename_i y may s2 ha
    have hA:=atom_sh hr hfw hp ha
    have hon:=atom_on hfw hp ha
    rcases hA with ⟨x',hx',e⟩|⟨pl,e⟩
    ·rw [e]
     simp only [] at hx' ⊢
     cases may with
     | true=>
      rw [if_pos rfl] at h
      rcases hx' with rfl|⟨-,-,hf⟩
      ·have hq:=quant_sh (p:=p) y st.pos hon.2 h
       rw [if_pos rfl]
       rcases hq with e|e|e
       ·exact .inl ⟨_,.inl rfl,e⟩
       ·exact .inr (.inl e)
       ·exact .inr (.inr e)
      ·cases hf
     | false=>
      rw [if_neg (by simp)] at h
      injection h with h;injection h with h2 h3;subst h2;subst h3
      rw [if_neg (by simp)]
      rcases hx' with e2|⟨e2,e3,-⟩
      ·exact .inl ⟨x',.inl e2,rfl⟩
      ·exact .inl ⟨x',.inr ⟨e2,e3⟩,rfl⟩
    ·rw [e]
     exact .inr (.inr ⟨pl,rfl⟩)
theorem altF_over {i':Option (St→Res Pt)} {fr:Nat} {st:St} {l:F} (h:st.pos=p.length+4):altF (wrapB p) i' fr st l=.ok (rowP l fr,st):=by
 have hs:=skip_over (p:=p) st (by omega)
 rw [alt_end (by rw [hs,h];exact wr_end2),hs]
theorem altF_sh {i i':Option (St→Res Pt)} (hr:IR p.length i i') (hfw:∀ j,i=some j→Fwd p j) (hfw':∀ j,i'=some j→Fwd (wrapB p) j):∀ (m:Nat) {st s:St} {l:F} {fr:Nat} {x:Pt},p.length-st.pos≤m→st.pos≤p.length→altF p i fr st l=.ok (x,s)→Alk p.length Pt.sh x s (altF (wrapB p) i' (fr+3) st.sh l.sh)
 | m,st,s,l,fr,x,hm,hp,h=>by
  have h1:=skip_on p st hp
  have hp':st.sh.pos≤(wrapB p).length:=by rw [wr_len];show st.pos+3≤_;omega
  rcases skip_sh st hp with e|⟨e1,e2,e3,e4⟩
  ·cases he:endB p (skipP p st).pos with
   | true=>
    rw [alt_end he] at h
    injection h with h;injection h with h2 h3;subst h2;subst h3
    have he':endB (wrapB p) (skipP (wrapB p) st.sh).pos=true:=by rw [e];exact (wr_end h1.2.1).trans he
    rw [alt_end he',e,row_sh]
    exact .inl rfl
   | false=>
    have he':endB (wrapB p) (skipP (wrapB p) st.sh).pos=false:=by rw [e];exact (wr_end h1.2.1).trans he
    have hl:=end_no he
    cases hpc:pieceP p i (skipP p st) with
    | error er=>rw [alt_bad he hpc] at h;cases h
    | ok t=>
     obtain ⟨y,s2⟩:=t
     have hon:=piece_on hfw hl hpc
     rw [alt_step hfw hp he hpc] at h
     have hP:=piece_sh hr hfw hl hpc
     rw [← e] at hP
     rcases hP with ⟨y',hy,e2⟩|⟨e1,y',s',e2,e3⟩|⟨pl,e2⟩
     ·rw [alt_step hfw' hp' he' e2]
      cases m with
      | zero=>omega
      | succ m=>
       have ih:=altF_sh hr hfw hfw' m (st:=s2) (by omega) hon.2 h
       rcases hy with rfl|⟨k1,k2⟩
       ·by_cases hk:y.nd.kind=0
        ·rw [if_pos hk] at ih
         rw [if_pos (show y.sh.nd.kind=0 from hk)]
         exact ih
        ·rw [if_neg hk] at ih
         rw [if_neg (show ¬ y.sh.nd.kind=0 from hk)]
         rw [F.sh_app] at ih
         exact ih
       ·rw [if_pos k1] at ih
        rw [if_pos k2]
        exact ih
     ·have h3:=alt_on hfw _ (Nat.le_refl _) hon.2 h
      refine .inr (.inl ⟨by omega,?_⟩)
      rw [alt_step hfw' hp' he' e2,altF_over e3]
      exact ⟨_,_,rfl,e3⟩
     ·refine .inr (.inr ⟨pl,?_⟩)
      exact alt_bad he' e2
  ·have he:endB p (skipP p st).pos=true:=by rw [e1];exact end_yes (.inl (Nat.le_refl _))
   rw [alt_end he] at h
   injection h with h;injection h with h2 h3;subst h3
   refine .inr (.inl ⟨e1,_,_,alt_end (by rw [e2];exact wr_end2),e2⟩)
theorem altP_sh {i i':Option (St→Res Pt)} (hr:IR p.length i i') (hfw:∀ j,i=some j→Fwd p j) (hfw':∀ j,i'=some j→Fwd (wrapB p) j) {st s:St} {x:Pt} (hp:st.pos≤p.length) (h:altP p i st=.ok (x,s)):Alk p.length Pt.sh x s (altP (wrapB p) i' st.sh):=
 altF_sh hr hfw hfw' _ (Nat.le_refl _) hp h
theorem bar_out {bs:List UInt8} {k:Nat} (h:bs.length≤k):stA bs k [124]=false:=by
 unfold stA
 rw [g_out h]
 rfl
theorem altsF_sh {i i':Option (St→Res Pt)} (hr:IR p.length i i') (hfw:∀ j,i=some j→Fwd p j) (hfw':∀ j,i'=some j→Fwd (wrapB p) j):∀ (m:Nat) {st s:St} {l x:F},p.length-st.pos≤m→st.pos≤p.length→altsF p i st l=.ok (x,s)→Alk p.length F.sh x s (altsF (wrapB p) i' st.sh l.sh)
 | m,st,s,l,x,hm,hp,h=>by
  have es:stA (wrapB p) st.sh.pos [124]=stA p st.pos [124]:=wr_stA [124] _ (by simp)
  cases hs:stA p st.pos [124] with
  | false=>
   rw [alts_end hs] at h
   injection h with h;injection h with h2 h3;subst h2;subst h3
   rw [alts_end (es.trans hs)]
   exact .inl rfl
  | true=>
   have hl:=stA_len [124] st.pos (by decide) (by decide) hs
   simp only [List.length_cons,List.length_nil] at hl
   cases ha:altP p i { st with pos:=st.pos+1 } with
   | error e=>rw [alts_bad hs ha] at h;cases h
   | ok t=>
    obtain ⟨y,s2⟩:=t
    have hon:=alt_on hfw _ (Nat.le_refl _) (show (St.mk (st.pos+1) st.fl st.names).pos≤p.length by simpa using hl) ha
    simp only [] at hon
    rw [alts_step hfw hs ha] at h
    have hA:=altP_sh hr hfw hfw' (show (St.mk (st.pos+1) st.fl st.names).pos≤p.length by simpa using hl) ha
    have est:(St.mk (st.pos+1) st.fl st.names).sh={ st.sh with pos:=st.sh.pos+1 }:=rfl
    rw [est] at hA
    rcases hA with e|⟨e1,y',s',e2,e3⟩|⟨pl,e⟩
    ·rw [alts_step hfw' (es.trans hs) e]
     cases m with
     | zero=>omega
     | succ m=>
      have ih:=altsF_sh hr hfw hfw' m (st:=s2) (by omega) hon.2 h
      rw [F.sh_app] at ih
      exact ih
    ·rw [alts_end (bar_out (by omega))] at h
     injection h with h;injection h with h2 h3;subst h3
     refine .inr (.inl ⟨e1,?_⟩)
     rw [alts_step hfw' (es.trans hs) e2,alts_end (bar_out (by rw [wr_len];omega))]
     exact ⟨_,_,rfl,e3⟩
    ·exact .inr (.inr ⟨pl,alts_bad (es.trans hs) e⟩)
theorem alts_sh {i i':Option (St→Res Pt)} (hr:IR p.length i i') (hfw:∀ j,i=some j→Fwd p j) (hfw':∀ j,i'=some j→Fwd (wrapB p) j):Rl p.length (altsP p i) (altsP (wrapB p) i'):=fun st x s hp h=>by
 unfold altsP at h ⊢
 cases ha:altP p i st with
 | error e=>rw [ha] at h;cases h
 | ok t=>
  obtain ⟨y,s1⟩:=t
  rw [ha] at h
  simp only [] at h
  have hon:=alt_on hfw _ (Nat.le_refl _) hp ha
  have hA:=altP_sh hr hfw hfw' hp ha
  cases hb:altsF p i s1 (.one y) with
  | error e=>rw [hb] at h;cases h
  | ok t=>
   obtain ⟨l,s2⟩:=t
   rw [hb] at h
   simp only [] at h
   injection h with h;injection h with h2 h3;subst h3
   rcases hA with e|⟨e1,y',s',e2,e3⟩|⟨pl,e⟩
   ·have hB:=altsF_sh hr hfw hfw' _ (Nat.le_refl _) hon.2 hb
    rw [F.sh_one] at hB
    rw [e]
    simp only []
    rcases hB with e2|⟨e1,l',s',e2,e3⟩|⟨pl,e2⟩
    ·rw [e2]
     simp only []
     refine .inl ?_
     rw [F.sh_len,← h2]
     by_cases hl:l.len=1
     ·rw [if_pos hl,if_pos hl]
     ·rw [if_neg hl,if_neg hl]
      rfl
    ·rw [e2]
     exact .inr (.inl ⟨e1,_,_,rfl,e3⟩)
    ·rw [e2]
     exact .inr (.inr ⟨pl,rfl⟩)
   ·rw [alts_end (bar_out (by omega))] at hb
    injection hb with hb;injection hb with h4 h5;subst h5
    rw [e2]
    simp only []
    rw [alts_end (bar_out (by rw [wr_len];omega))]
    exact .inr (.inl ⟨e1,_,_,rfl,e3⟩)
   ·rw [e]
    exact .inr (.inr ⟨pl,rfl⟩)
theorem par_sh:∀ d,Rl p.length (parN p (d+1)) (parN (wrapB p) d)
 | 0=>alts_sh (.inl rfl) (fun j e=>by injection e with e;subst e;exact parN_fwd p 0) (fun j e=>by cases e)
 | d+1=>alts_sh (.inr ⟨_,_,rfl,rfl,par_sh d⟩) (fun j e=>by injection e with e;subst e;exact parN_fwd p (d+1)) (fun j e=>by injection e with e;subst e;exact parN_fwd (wrapB p) d)
theorem sh_size:∀ l:F,l.sh.size=l.size
 | .nil=>rfl
 | .cons nd ks r=>by show 1+ks.sh.size+r.sh.size=1+ks.size+r.size;rw [sh_size ks,sh_size r]
theorem sh_idx:∀ (l:F) (i:Nat),l.sh.idx i=l.idx i
 | .nil,i=>rfl
 | .cons nd ks r,i=>by show (i:Int) :: r.sh.idx (i+1+ks.sh.size)=(i:Int) :: r.idx (i+1+ks.size);rw [sh_size ks,sh_idx r]
theorem fix_sh (names:List (List UInt8)) (nd:Nd):fixN names (ndS nd)=ndS (fixN names nd):=by
 unfold fixN
 rw [show (ndS nd).kind=nd.kind from rfl,show (ndS nd).name=nd.name from rfl]
 split<;>rfl
theorem lay_sh (names:List (List UInt8)):∀ (l:F) (i:Nat),layF names l.sh i=(layF names l i).map ndS
 | .nil,i=>rfl
 | .cons nd ks r,i=>by
  show { fixN names (ndS nd) with kids:=ks.sh.idx (i+1) } :: (layF names ks.sh (i+1)++layF names r.sh (i+1+ks.sh.size))=_
  rw [fix_sh,sh_idx,sh_size,lay_sh names ks,lay_sh names r]
  show _=({ fixN names nd with kids:=ks.idx (i+1) } :: (layF names ks (i+1)++layF names r (i+1+ks.size))).map ndS
  rw [List.map_cons,List.map_append]
  rfl
theorem wrap_parse {t:Tr} (hl:p.length≤2000) (h:parseP p=.ok t):(∃ pl,parseP (wrapB p)=.error (30,pl)∨parseP (wrapB p)=.error (39,pl))∨parseP (wrapB p)=.ok ⟨t.nodes.map ndS,t.groups,t.names⟩:=by
 unfold parseP at h
 rw [if_neg (by omega)] at h
 cases hx:parN p 100 ⟨0,⟨false,false,false,false⟩,[[]]⟩ with
 | error e=>rw [hx] at h;cases h
 | ok r=>
  obtain ⟨x,s⟩:=r
  rw [hx] at h
  simp only [] at h
  split at h
  ·cases h
  ·rename_i hlt
   injection h with h
   subst h
   have hfw:=parN_fwd p 100
   have hon:=hfw _ _ _ (Nat.zero_le _) hx
   have hpos:s.pos=p.length:=by omega
   have hgd:=(parN_good (bs:=p) (by omega) 100 ⟨0,⟨false,false,false,false⟩,[[]]⟩ x s (Nat.zero_le _) ⟨by simp,by simp⟩ hx).1
   have hR:=par_sh (p:=p) 99 ⟨0,⟨false,false,false,false⟩,[[]]⟩ x s (Nat.zero_le _) hx
   have hfq:∀ i,some (parN (wrapB p) 99)=some i→Fwd (wrapB p) i:=fun i e=>by injection e with e;subst e;exact parN_fwd (wrapB p) 99
   have w0:g (wrapB p) 0=40:=rfl
   have w1:g (wrapB p) 1=63:=rfl
   have w2:g (wrapB p) 2=58:=rfl
   have hlen:=wr_len p
   have hAt:atomP (wrapB p) (some (parN (wrapB p) 99)) ⟨0,⟨false,false,false,false⟩,[[]]⟩=withinP (wrapB p) (parN (wrapB p) 99) nd0 3 ⟨false,false,false,false⟩ ⟨0,⟨false,false,false,false⟩,[[]]⟩:=by
    unfold atomP
    simp only [w0]
    rw [if_pos trivial]
    unfold parenP
    simp only []
    have s1:stA (wrapB p) 0 [40,63]=true:=by simp [stA,w0,w1]
    have s2:stA (wrapB p) 0 [40,63,35]=false:=by simp [stA,w0,w1,w2]
    have s3:stA (wrapB p) 0 [40,63,58]=true:=by simp [stA,w0,w1,w2]
    rw [if_neg (by rw [s1];simp),if_neg (by rw [s2];simp),if_pos s3]
   have hc0:cntP (wrapB p) 0=⟨0,0,0,0,false,0⟩:=cnt_no (by omega) (by omega) (by omega) (by omega)
   have he0:endB (wrapB p) 0=false:=end_not (by omega) (by omega) (by omega)
   unfold parseP
   rw [if_neg (by omega),show parN (wrapB p) 100=altsP (wrapB p) (some (parN (wrapB p) 99)) from rfl]
   rcases hR with e|⟨-,x',s',e,hs'⟩|⟨pl,e⟩
   ·have e':parN (wrapB p) 99 ⟨3,⟨false,false,false,false⟩,[[]]⟩=.ok (x.sh,s.sh):=e
    have hW:withinP (wrapB p) (parN (wrapB p) 99) nd0 3 ⟨false,false,false,false⟩ ⟨0,⟨false,false,false,false⟩,[[]]⟩=.ok ((x.sh,true),⟨p.length+4,⟨false,false,false,false⟩,s.names⟩):=by
     unfold withinP
     simp only [e']
     rw [if_neg (by rw [hlen];show ¬ p.length+4≤s.pos+3;omega),if_pos (show nd0.kind=0 from rfl)]
     show Except.ok ((x.sh,true),(⟨s.pos+3+1,_,_⟩:St))=_
     rw [hpos]
     rfl
    have hP:pieceP (wrapB p) (some (parN (wrapB p) 99)) ⟨0,⟨false,false,false,false⟩,[[]]⟩=.ok (x.sh,⟨p.length+4,⟨false,false,false,false⟩,s.names⟩):=
     piece_plain hc0 (hAt.trans hW) rfl (cnt_out (by rw [hlen];exact Nat.le_refl _))
    have hA:=alts_one hfq (st:=⟨0,⟨false,false,false,false⟩,[[]]⟩) rfl (Nat.zero_le _) he0 hP hgd.kind rfl wr_end2 (bar_out (by rw [hlen];exact Nat.le_refl _))
    rw [hA]
    simp only []
    rw [if_neg (by rw [hlen];omega)]
    refine .inr ?_
    rw [← F.sh_one,lay_sh]
   ·have e':parN (wrapB p) 99 ⟨3,⟨false,false,false,false⟩,[[]]⟩=.ok (x',s'):=e
    have hW:withinP (wrapB p) (parN (wrapB p) 99) nd0 3 ⟨false,false,false,false⟩ ⟨0,⟨false,false,false,false⟩,[[]]⟩=.error (30,0):=by
     unfold withinP
     simp only [e']
     rw [if_pos (by rw [hlen];omega)]
    have hP:=piece_errP (inner:=some (parN (wrapB p) 99)) (st:=⟨0,⟨false,false,false,false⟩,[[]]⟩) hc0 (hAt.trans hW)
    rw [alts_err rfl he0 hP]
    exact .inl ⟨0,.inl rfl⟩
   ·have e':parN (wrapB p) 99 ⟨3,⟨false,false,false,false⟩,[[]]⟩=.error (39,pl):=e
    have hW:withinP (wrapB p) (parN (wrapB p) 99) nd0 3 ⟨false,false,false,false⟩ ⟨0,⟨false,false,false,false⟩,[[]]⟩=.error (39,pl):=by
     unfold withinP
     simp only [e']
    have hP:=piece_errP (inner:=some (parN (wrapB p) 99)) (st:=⟨0,⟨false,false,false,false⟩,[[]]⟩) hc0 (hAt.trans hW)
    rw [alts_err rfl he0 hP]
    exact .inl ⟨pl,.inr rfl⟩
end
end
end Go.Proofs.YtmphmddmfcaldaaGreatDoor.Pa
