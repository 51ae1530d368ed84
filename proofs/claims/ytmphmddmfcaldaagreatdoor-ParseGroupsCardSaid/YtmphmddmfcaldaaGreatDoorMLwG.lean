/-
  ParseGroups: as many parentheses within one another as there may be are read; one more isn't; each is a group, numbered from without: the given statement, its row and its card.
-/
import Derived.Test.YtmphmddmfcaldaaGreatDoorMPaK
import Derived.Test.YtmphmddmfcaldaaGreatDoorMLdA
set_option linter.unusedSimpArgs false
set_option linter.unusedVariables false
set_option maxHeartbeats 8000000
set_option maxRecDepth 100000
namespace Go.Proofs.YtmphmddmfcaldaaGreatDoor.Pa
open Go.RowKit Mem
open Sc (Gl)
attribute [local go_sem] build_pz build_fl build_f0
open Sc (strW strC conv_txt strW_pv strW_below strW_size)
def grA (k:Nat):List UInt8:=40 :: gsB k
theorem gs_next (k:Nat):grA k++[41]=gsB (k+1):=by
 unfold grA gsB
 rw [List.replicate_succ,List.replicate_succ',List.cons_append,List.cons_append,List.append_assoc,List.cons_append]
theorem gr_a (k:Nat):(⟨#[40]⟩:ByteArray)++⟨(gsB k).toArray⟩=⟨(grA k).toArray⟩:=by
 apply ByteArray.ext
 rw [ByteArray.data_append]
 simp [grA]
theorem gr_b (k:Nat):(⟨(grA k).toArray⟩:ByteArray)++⟨#[41]⟩=⟨(gsB (k+1)).toArray⟩:=by
 apply ByteArray.ext
 rw [ByteArray.data_append,← gs_next]
 simp
attribute [local go_sem high] gr_a gr_b conv_txt
def GrRel (m:Nat) (w:World) (i v:Value) (wr:World):Prop:=∃ k:Nat,i=.int .i64 (k:Int)∧v=.string ⟨(gsB k).toArray⟩∧k≤m∧wr=w
theorem grp_any (m:Nat) (hm:m≤110) (W:World) (hG:Gl W):Calls Tryz.prog 8 #[.slice (some ⟨W.heap.size,0,none⟩) (gsB m).length (strC (gsB m) W)] (strW (gsB m) W) fun e w'=>Below W.heap.size W w' ∧
  ((m≤99∧∃ b off cap An cn,e=.returned (.tuple #[.agg #[.slice (some ⟨b,off,none⟩) (m+1) cap,.int .i64 (m:Int),.slice An (1+m) cn],.int .i64 0,.int .i64 0])∧b<w'.heap.size∧m+1≤cap∧cap≤9223372036854775807∧∀ j,j<m→w'.cell? ⟨b,off+j*10,none⟩=some (.int .i64 7)∧w'.cell? ⟨b,off+j*10+3,none⟩=some (.int .i64 ((j:Int)+1))∧w'.cell? ⟨b,off+j*10+1,none⟩=some (.int .i64 (j:Int))) ∨
   (99<m∧e=.returned (.tuple #[.agg #[.slice none 0 0,.int .i64 0,.slice none 0 0],.int .i64 40,.int .i64 99]))):=by
 have hl:(gsB m).length≤4096:=by rw [gs_len];omega
 have hc:=parse_any (gsB m) _ _ _ (strW_pv (gsB m) W hl) (hG.below (strW_below _ _))
 refine hc.mono ?_
 rintro e w' ⟨hb,h⟩
 have hB:Below W.heap.size W w':=(strW_below _ _).trans (hb.mono (by rw [strW_size];omega))
 refine ⟨hB,?_⟩
 rw [gs_parse m hm] at h
 by_cases h9:m≤99
 ·rw [if_pos h9] at h
  obtain ⟨v,rfl,ht⟩:=h
  have hlay:=grp_lay m (List.replicate (1+m) []) m 0 (Nat.le_refl _)
  have hln:(grpL m).length=m+1:=hlay.1
  obtain ⟨b,off,cap,An,cn,rfl,hlt,h1,h2,hc⟩:=tree_open ht (by show 0<(grpL m).length;omega)
  refine .inl ⟨h9,b,off,cap,An,cn,?_,hlt,by rw [← hln];exact h1,h2,fun j hj=>?_⟩
  ·simp only [List.length_replicate,hln]
  ·have hj2:j<(grpL m).length:=by omega
   have hn:=hc j _ (List.getElem?_eq_getElem hj2)
   have hk:=hlay.2 j _ hj (List.getElem?_eq_getElem hj2)
   rw [Nat.sub_self,Nat.zero_add] at hk
   refine ⟨hn.1.trans (by rw [hk.1]),hn.2.2.2.1.trans (by rw [hk.2.1];push_cast;rfl),hn.2.1.trans (by rw [hk.2.2])⟩
 ·rw [if_neg h9] at h
  exact .inr ⟨by omega,h.2⟩
theorem walkGroups (n:Int) (w:World) (hG:Gl w) (hn:-9223372036854775808≤n∧n≤9223372036854775807) :
  Calls Tryz.prog 6 #[.int .i64 n] w fun e w'=>e=.returned (.bool true)∧Below w.heap.size w w':=by
 have CA:=hide (anchor_any w hG)
 have HG:=hide hG
 clear hG
 by_cases h0:n<0∨110<n
 ·rcases h0 with h0|h0
  ·have d0:decide (n<0)=true:=decide_eq_true h0
   go_enter Tryz.func6,Tryz.ntmps6
   go_wp2_with fail
   refine CA.1.mono ?_
   rintro e w1 ⟨rfl,hB⟩
   have HB:=hide hB
   clear hB CA
   go_wp2_with fail
   go_ret
   exact ⟨rfl,HB.1⟩
  ·have d0:decide (n<0)=false:=decide_eq_false (by omega)
   have d1:decide (110<n)=true:=decide_eq_true h0
   go_enter Tryz.func6,Tryz.ntmps6
   go_wp2_with fail
   refine CA.1.mono ?_
   rintro e w1 ⟨rfl,hB⟩
   have HB:=hide hB
   clear hB CA
   go_wp2_with fail
   go_ret
   exact ⟨rfl,HB.1⟩
 ·obtain ⟨m,rfl⟩:∃ m:Nat,n=(m:Int):=⟨n.toNat,by omega⟩
  have hm:m≤110:=by omega
  have d0:decide ((m:Int)<0)=false:=decide_eq_false (by omega)
  have d1:decide (110<(m:Int))=false:=decide_eq_false (by omega)
  have HM:=hide hm
  have hmi:(m:Int)≤110:=by omega
  clear h0 hn hm
  go_enter Tryz.func6,Tryz.ntmps6
  go_wp2_with fail
  refine CA.1.mono ?_
  rintro e w1 ⟨rfl,hB⟩
  have HB:=hide hB
  have HG1:=hide (HG.1.below hB)
  clear hB CA
  go_wp2_with fail
  go_loopw [17,3] (fun i v wr=>GrRel m w1 i v wr) (fun i _ _=>m-(intOf i).toNat)
  case atStart=>exact ⟨0,rfl,rfl,Nat.zero_le _,rfl⟩
  case round=>
   obtain ⟨k,rfl,hv,hk,hw⟩:=hrel
   subst hv
   subst hw
   go_hideQ
   have hlen:=gs_len k
   have hq1:¬ (9223372036854775807<1+(gsB k).length):=by rw [hlen];omega
   have hq2:¬ (9223372036854775807<(grA k).length+1):=by show ¬ (9223372036854775807<(gsB k).length+1+1);rw [hlen];omega
   have hw1:IntKind.i64.wrap ((k:Int)+1)=(k:Int)+1:=Rs.wrap_id _ (by omega) (by omega)
   clear hlen
   by_cases hin:k<m
   ·have hin':(k:Int)<(m:Int):=by omega
    have hd:decide ((k:Int)<(m:Int))=true:=decide_eq_true hin'
    go_wp2_with fail
    have hR:GrRel m wr (.int .i64 ((k:Int)+1)) (.string ⟨(gsB (k+1)).toArray⟩) wr:=⟨k+1,by push_cast;rfl,rfl,hin,rfl⟩
    have hme:m-(intOf (.int .i64 ((k:Int)+1))).toNat<m-(intOf (.int .i64 (k:Int))).toNat:=by show m-((k:Int)+1).toNat<m-(k:Int).toNat;omega
    first|exact ⟨hR,hme⟩|(go_roundw;all_goals first|exact hR|exact hme|omega)
   ·have hkm:k=m:=by omega
    have hnot:¬ ((k:Int)<(m:Int)):=by omega
    have hd:decide ((k:Int)<(m:Int))=false:=decide_eq_false hnot
    have CP:=hide (grp_any k (by have:=HM.1;omega) wr HG1.1)
    subst hkm
    have hk110:=HM.1
    clear hq1 hq2 hw1
    go_wp2_with fail
    refine CP.1.mono ?_
    rintro e w2 ⟨hB2,hor⟩
    have HB2:=hide (HB.1.trans (hB2.mono HB.1.size))
    clear hB2 CP
    rcases hor with ⟨h9,b,off,cap,An,cn,rfl,hlt,hc1,hc2,hcs⟩|⟨h9,rfl⟩
    ·have HB3:=hide (HB2.1.alloc HB2.1.size (.cells #[.slice (some ⟨b,off,none⟩) (k+1) cap,.int .i64 (k:Int),.slice An (1+k) cn] 27))
     have HKT:=hide (Blk.new w2 27 #[.slice (some ⟨b,off,none⟩) (k+1) cap,.int .i64 (k:Int),.slice An (1+k) cn])
     have hcs3:∀ j,j<k→(w2.alloc (.cells #[.slice (some ⟨b,off,none⟩) (k+1) cap,.int .i64 (k:Int),.slice An (1+k) cn] 27)).cell? ⟨b,off+j*10,none⟩=some (.int .i64 7)∧(w2.alloc (.cells #[.slice (some ⟨b,off,none⟩) (k+1) cap,.int .i64 (k:Int),.slice An (1+k) cn] 27)).cell? ⟨b,off+j*10+3,none⟩=some (.int .i64 ((j:Int)+1))∧(w2.alloc (.cells #[.slice (some ⟨b,off,none⟩) (k+1) cap,.int .i64 (k:Int),.slice An (1+k) cn] 27)).cell? ⟨b,off+j*10+1,none⟩=some (.int .i64 (j:Int)):=fun j hj=>⟨(World.cell?_alloc_lt w2 _ ⟨b,off+j*10,none⟩ hlt).trans (hcs j hj).1,(World.cell?_alloc_lt w2 _ ⟨b,off+j*10+3,none⟩ hlt).trans (hcs j hj).2.1,(World.cell?_alloc_lt w2 _ ⟨b,off+j*10+1,none⟩ hlt).trans (hcs j hj).2.2⟩
     have HCS:=hide hcs3
     have d9:decide (99<(k:Int))=false:=decide_eq_false (by omega)
     have hw2:IntKind.i64.wrap ((k:Int)+1)=(k:Int)+1:=Rs.wrap_id _ (by omega) (by omega)
     have hkk:((k:Int) != (k:Int))=false:=by simp
     have hkk2:((k:Int)+1 != (k:Int)+1)=false:=by simp
     have hkk3:(((k+1:Nat):Int) != (k:Int)+1)=false:=by push_cast;simp
     obtain ⟨⟨a0,a1,a2⟩,-⟩:=cells3 HKT.1
     clear hcs hcs3 HB2
     go_wp2_with fail
     go_loopw [71] (fun i wr2=>∃ j:Nat,i=.int .i64 (j:Int)∧j≤k∧wr2=w2.alloc (.cells #[.slice (some ⟨b,off,none⟩) (k+1) cap,.int .i64 (k:Int),.slice An (1+k) cn] 27)) (fun i _=>k-(intOf i).toNat)
     case atStart=>exact ⟨0,rfl,Nat.zero_le _,rfl⟩
     case round=>
      obtain ⟨j,rfl,hj,hw⟩:=hrel
      subst hw
      go_hideQ
      have hw3:IntKind.i64.wrap ((j:Int)+1)=(j:Int)+1:=Rs.wrap_id _ (by omega) (by omega)
      obtain ⟨⟨t0,t1,t2⟩,-⟩:=cells3 HKT.1
      by_cases hjn:j<k
      ·have hjn':(j:Int)<(k:Int):=by omega
       have hjd:decide ((j:Int)<(k:Int))=true:=decide_eq_true hjn'
       have hjk:j<k+1:=by omega
       have hjk':(j:Int)<(k:Int)+1:=by omega
       have hjk2:(j:Int)<((k+1:Nat):Int):=by omega
       obtain ⟨c0,c3,c1⟩:=HCS.1 j hjn
       have hjj:((j:Int) != (j:Int))=false:=by simp
       have hjj2:((j:Int)+1 != (j:Int)+1)=false:=by simp
       go_wp2_with fail
       try (go_region;all_goals go_wp2_with fail)
       have hR:∃ j2:Nat,(Value.int .i64 ((j:Int)+1))=.int .i64 (j2:Int)∧j2≤k∧w2.alloc (.cells #[.slice (some ⟨b,off,none⟩) (k+1) cap,.int .i64 (k:Int),.slice An (1+k) cn] 27)=w2.alloc (.cells #[.slice (some ⟨b,off,none⟩) (k+1) cap,.int .i64 (k:Int),.slice An (1+k) cn] 27):=⟨j+1,by push_cast;rfl,hjn,rfl⟩
       have hme:k-(intOf (.int .i64 ((j:Int)+1))).toNat<k-(intOf (.int .i64 (j:Int))).toNat:=by show k-((j:Int)+1).toNat<k-(j:Int).toNat;omega
       first|exact ⟨⟨j+1,by push_cast;rfl,hjn,trivial⟩,hme⟩|exact ⟨hR,hme⟩
      ·have hjd:decide ((j:Int)<(k:Int))=false:=decide_eq_false (by omega)
       have hjnot:¬ ((j:Int)<(k:Int)):=by omega
       go_wp2_with fail
       go_ret
       exact ⟨rfl,HB3.1⟩
    ·have HB3:=hide (HB2.1.alloc HB2.1.size (.cells #[.slice none 0 0,.int .i64 0,.slice none 0 0] 27))
     have d9:decide (99<(k:Int))=true:=decide_eq_true (by omega)
     by_cases h100:k=100
     ·have e1:((k:Int)==100)=true:=by rw [h100];rfl
      clear h100
      go_wp2_with fail
      go_ret
      exact ⟨rfl,HB3.1⟩
     ·have e1:((k:Int)==100)=false:=by rw [beq_eq_false_iff_ne];omega
      have e2:decide (100<(k:Int))=true:=decide_eq_true (by omega)
      clear h100
      go_wp2_with fail
      go_ret
      exact ⟨rfl,HB3.1⟩
end Go.Proofs.YtmphmddmfcaldaaGreatDoor.Pa
namespace Go.Proofs.YtmphmddmfcaldaaGreatDoor.PaLawGroups
open Go.ChangeShapes Go.WideShapes Go.ChangeAt Go.RowKit Go.ChangeMaps Sc Pa
theorem lifted (os:Os) (started:os.Started) (H:Type) (enc:TypeId×Value→H) :
  ReturnsInHanded {} Tryz.checked os 6 .any (fun w args=>(Rows.parseGroupsSpec.pre enc Tryz.prog Tryz.f6 [] false w args∧laidMetH Tryz.prog list w)∧sizedMet enc Tryz.prog Tryz.f6 (OpenSpec.ofChange Rows.parseGroupsSpec) false w args)
   (Rows.parseGroupsSpec.post enc Tryz.prog Tryz.f6 false true false false):=by
 refine bothG list Gl (fun _ h hs=>gl_of h hs) started (by kernel_rfl) Tryz.func6
  (ChangeSpec.witness_shaped (enc:=enc) (C:=Tryz.checked) (os:=os) (X:=fun w _=>laidMetH Tryz.prog list w) false (World.laidAll Tryz.prog os list) #[.int .i64 0] 8 (World.laidAll_os _ _ _)
   (World.shaped_of_ZipB (by kernel_rfl) (by kernel_rfl)) (by kernel_rfl) (by kernel_rfl) (by kernel_rfl)
   (by rw [MakeChecks.laidMetH_plain _ _ _ (by kernel_rfl)];exact laidMet_laidAll _ (by kernel_rfl) (by kernel_rfl))) ?_
 intro W base args ds gs before hval0 hW hGl
 have hval:∀ (j:Nat) t v,Tryz.f6.params[j]?=some t→args[j]?=some v→Value.okWide Tryz.prog W .any base t v:=hval0
 have hW':=hW
 obtain ⟨p,q,hA0,hV,rfl,hfz,hnd⟩:=hW
 have hA:DataW.TrodAll enc Tryz.prog W 0 (fun _=>true) true Tryz.f6.params.toList args.toList ds p:=hA0
 rw [Tryz.params6] at hA hval
 obtain ⟨v0,vs0,d0,ds0,p0,q0,hargs,rfl,rfl,h0,r0⟩:=trodAll_cons hA
 obtain ⟨rfl,rfl,rfl⟩:=trodAll_nil r0
 obtain rfl:args=#[v0]:=by cases args;simp_all
 obtain ⟨rfl,rfl⟩:=trodVars_none hV
 obtain ⟨x0,rfl,rfl,rfl,w0⟩:=open_int Tryz.underlying3 (hval 0 3 v0 rfl rfl) h0
 clear hA0 hval0
 simp only [List.append_nil,List.nil_append] at hW'
 refine (walkGroups x0 W hGl (Laid.int_of w0)).mono fun e W' ⟨he,bel⟩=>?_
 subst he
 exact ⟨_,rfl,_,_,_,[],_,[],hW',trodAll_mk1 (shut_bool Tryz.underlying4 _),(trodAll_cons_mk (shut_int Tryz.underlying3 w0) trodAll_mk0),rfl,bel.frame _,fun h=>by cases h⟩
theorem said:Rows.ParseGroupsSaid:=
 OpenClaim.holds_of_wide 6 Tryz.f6 rfl rfl rfl rfl rfl rfl rfl ⟨rfl,rfl,rfl,rfl,rfl⟩ rfl rfl rfl rfl rfl (by kernel_rfl) Tryz.func6 (by kernel_rfl)
  (of_decide_eq_true (by kernel_rfl)) (by unfold Func.isWrapper;first|(rw [if_pos (by decide +kernel)];kernel_rfl)|(rw [if_neg (by decide +kernel)];exact ⟨rfl,rfl⟩))
  (fun os started H enc _=>lifted os started H enc)
theorem plain (f:FuncId) (fn:Func) (hf:Tryz.pinned.checked.prog.funcNamed "clew/clewlaw08.ParseGroups"=some f) (hfn:Tryz.pinned.checked.prog.funcs[f]?=some fn) :
  false=Tryz.pinned.checked.prog.looks []∧∀ (j:Nat) t,fn.params[j]?=some t→Tryz.pinned.checked.prog.wantsStandIn t=false:=by
 obtain rfl:f=6:=Option.some.inj ((show Tryz.prog.funcNamed "clew/clewlaw08.ParseGroups"=some 6 by kernel_rfl).symm.trans hf) |>.symm
 obtain rfl:fn=Tryz.f6:=(Option.some.inj (Tryz.func6.symm.trans hfn)).symm
 refine ⟨by kernel_rfl,fun j t ht=>?_⟩
 rw [Tryz.params6] at ht
 have hm:t∈[3]:=by simpa using Array.mem_of_getElem? ht
 have hall:([3].all fun u=>!Tryz.prog.wantsStandIn u)=true:=by kernel_rfl
 exact (show Tryz.prog.wantsStandIn t=false by simpa using List.all_eq_true.1 hall t hm)
theorem card:Rows.ParseGroupsCardSaid:=
 Claim7.holds_tied_plain_at .later [] _ _ _ _ said (fun _ h=>by cases h) (by kernel_rfl) (fun _ h=>by cases h) parseGroups_row_tie rfl ⟨rfl,rfl⟩ (by kernel_rfl) rfl plain (by kernel_rfl)
end Go.Proofs.YtmphmddmfcaldaaGreatDoor.PaLawGroups
