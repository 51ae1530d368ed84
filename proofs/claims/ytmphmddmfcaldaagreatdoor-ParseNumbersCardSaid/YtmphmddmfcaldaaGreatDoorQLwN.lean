/-
  ParseNumbers: symbols that are written by their numbers are read as Sets of them, one behind the other; with i, of their orbits: the given statement, its row and its card.
-/
import Derived.Test.YtmphmddmfcaldaaGreatDoorQPaN
import Derived.Test.YtmphmddmfcaldaaGreatDoorQLdA
set_option linter.unusedSimpArgs false
set_option linter.unusedVariables false
set_option maxHeartbeats 8000000
set_option maxRecDepth 100000
namespace Go.Proofs.YtmphmddmfcaldaaGreatDoor.Pa
section
open Go.RowKit Mem
open Sy (isS)
theorem ret_is {a b:Bool} (h:a=b):Ending.returned (.bool a)=.returned (.bool b):=by rw [h]
theorem refis_a (x:Int) (w:World) (h1:x<0):Calls Tryz.prog 11 #[.int .i64 x] w fun e w'=>e=.returned (.bool false)∧w'=w:=by
 go_enter Tryz.func11,Tryz.ntmps11
 go_wp2
 go_ret
 first
  | exact ⟨rfl,rfl⟩
  | exact ⟨ret_is (decide_eq_false (by omega)),rfl⟩
  | exact ⟨ret_is (decide_eq_true (by omega)),rfl⟩
  | (refine ⟨ret_is (?_:(_||_)=false),rfl⟩;simp<;>omega)
theorem refis_b (x:Int) (w:World) (h1:0≤x) (h2:x≤55295):Calls Tryz.prog 11 #[.int .i64 x] w fun e w'=>e=.returned (.bool true)∧w'=w:=by
 go_enter Tryz.func11,Tryz.ntmps11
 go_wp2
 go_ret
 first
  | exact ⟨rfl,rfl⟩
  | exact ⟨ret_is (decide_eq_false (by omega)),rfl⟩
  | exact ⟨ret_is (decide_eq_true (by omega)),rfl⟩
  | (refine ⟨ret_is (?_:(_||_)=false),rfl⟩;simp<;>omega)
theorem refis_c (x:Int) (w:World) (h1:55296≤x) (h2:x≤57343):Calls Tryz.prog 11 #[.int .i64 x] w fun e w'=>e=.returned (.bool false)∧w'=w:=by
 go_enter Tryz.func11,Tryz.ntmps11
 go_wp2
 go_ret
 first
  | exact ⟨rfl,rfl⟩
  | exact ⟨ret_is (decide_eq_false (by omega)),rfl⟩
  | exact ⟨ret_is (decide_eq_true (by omega)),rfl⟩
  | (refine ⟨ret_is (?_:(_||_)=false),rfl⟩;simp<;>omega)
theorem refis_d (x:Int) (w:World) (h1:57344≤x) (h2:x≤1114111):Calls Tryz.prog 11 #[.int .i64 x] w fun e w'=>e=.returned (.bool true)∧w'=w:=by
 go_enter Tryz.func11,Tryz.ntmps11
 go_wp2
 go_ret
 first
  | exact ⟨rfl,rfl⟩
  | exact ⟨ret_is (decide_eq_false (by omega)),rfl⟩
  | exact ⟨ret_is (decide_eq_true (by omega)),rfl⟩
  | (refine ⟨ret_is (?_:(_||_)=false),rfl⟩;simp<;>omega)
theorem refis_e (x:Int) (w:World) (h1:1114112≤x) (h2:x≤1114239):Calls Tryz.prog 11 #[.int .i64 x] w fun e w'=>e=.returned (.bool false)∧w'=w:=by
 go_enter Tryz.func11,Tryz.ntmps11
 go_wp2
 go_ret
 first
  | exact ⟨rfl,rfl⟩
  | exact ⟨ret_is (decide_eq_false (by omega)),rfl⟩
  | exact ⟨ret_is (decide_eq_true (by omega)),rfl⟩
  | (refine ⟨ret_is (?_:(_||_)=false),rfl⟩;simp<;>omega)
theorem refis_f (x:Int) (w:World) (h1:1114240≤x) (h2:x≤1114367):Calls Tryz.prog 11 #[.int .i64 x] w fun e w'=>e=.returned (.bool true)∧w'=w:=by
 go_enter Tryz.func11,Tryz.ntmps11
 go_wp2
 go_ret
 first
  | exact ⟨rfl,rfl⟩
  | exact ⟨ret_is (decide_eq_false (by omega)),rfl⟩
  | exact ⟨ret_is (decide_eq_true (by omega)),rfl⟩
  | (refine ⟨ret_is (?_:(_||_)=false),rfl⟩;simp<;>omega)
theorem refis_g (x:Int) (w:World) (h1:1114368≤x):Calls Tryz.prog 11 #[.int .i64 x] w fun e w'=>e=.returned (.bool false)∧w'=w:=by
 go_enter Tryz.func11,Tryz.ntmps11
 go_wp2
 go_ret
 first
  | exact ⟨rfl,rfl⟩
  | exact ⟨ret_is (decide_eq_false (by omega)),rfl⟩
  | exact ⟨ret_is (decide_eq_true (by omega)),rfl⟩
  | (refine ⟨ret_is (?_:(_||_)=false),rfl⟩;simp<;>omega)
theorem refis_any (x:Int) (w:World):Calls Tryz.prog 11 #[.int .i64 x] w fun e w'=>e=.returned (.bool (isS x))∧w'=w:=by
 have ht:∀ {q:Prop} [Decidable q],q→decide q=true:=fun h=>decide_eq_true h
 have hf:∀ {q:Prop} [Decidable q],¬ q→decide q=false:=fun h=>decide_eq_false h
 unfold isS
 by_cases g0:x<0
 ·rw [hf (by omega)];exact refis_a x w (by omega)
 by_cases g1:x≤55295
 ·rw [ht (by omega)];exact refis_b x w (by omega) (by omega)
 by_cases g2:x≤57343
 ·rw [hf (by omega)];exact refis_c x w (by omega) (by omega)
 by_cases g3:x≤1114111
 ·rw [ht (by omega)];exact refis_d x w (by omega) (by omega)
 by_cases g4:x≤1114239
 ·rw [hf (by omega)];exact refis_e x w (by omega) (by omega)
 by_cases g5:x≤1114367
 ·rw [ht (by omega)];exact refis_f x w (by omega) (by omega)
 rw [hf (by omega)];exact refis_g x w (by omega)
end
section
open Go.RowKit Mem
open Sy (isS)
open Sc (Gl GRel grel_step szOf hexc wrA wrs wr_a wr_b fold_hexT run_index_hexT run_convert_hexc one_append Digs strW strC conv_txt strW_pv strW_below strW_size)
open Rs (Lst hasL cntL count_any)
open As (NodeV)
open Fo (orb)
attribute [local go_sem] Rs.run_not_true Rs.run_not_false
section
attribute [local go_sem high] fold_hexT run_index_hexT run_convert_hexc one_append wr_a wr_b
theorem hexes_any (x:Nat) (w:World) (hx:isS (x:Int)=true) :
  Calls Tryz.prog 12 #[.int .i64 (x:Int)] w fun e w'=>w'=w∧∃ s,e=.returned (.string ⟨(wrs s).toArray⟩)∧Wr s x:=by
 have hx1:(x:Int)≤1114367:=by unfold isS at hx;rw [decide_eq_true_eq] at hx;omega
 have HX:=hide hx
 clear hx
 go_enter Tryz.func12,Tryz.ntmps12
 go_wp2_with fail
 go_loopw [3,4] (fun v i wr=>GRel x w v i wr) (fun v _ _=>7-szOf v)
 case atStart=>exact ⟨x,[],rfl,rfl,rfl,by simp [Digs],by simp,by simp;omega,rfl⟩
 case round=>
  obtain ⟨n,s,rfl,rfl,hv,hD,hl,hn,hw⟩:=hrel
  subst hw
  go_hideQ
  have HST:=hide (fun hc=>grel_step (w:=wr) hv hD hl hn hc)
  have hn16:(n:Int)≤16777216:=by
   have:16 ^ (6-s.length)≤16 ^ 6:=Nat.pow_le_pow_right (by omega) (by omega)
   omega
  have hm1:Int.tmod (n:Int) 16=(n:Int) % 16:=by rw [Int.tmod_eq_emod_of_nonneg (by omega)]
  by_cases h0:0<n
  ·have h0':0<(n:Int):=by omega
   obtain ⟨hR,h6⟩:=HST.1 (.inl h0)
   have HR:=hide hR
   have hd0:decide (0<n)=true:=decide_eq_true h0
   clear hR HST hv hD hn h0
   go_wp2_with fail
   have hR':=HR.1
   rw [show ((n:Int) / 16)=((n / 16:Nat):Int) by omega]
   refine ⟨hR',?_⟩
   show 7-(hexc (n % 16) :: s).toArray.size<7-s.toArray.size
   simp only [List.size_toArray,List.length_cons]
   omega
  ·have hn0:n=0:=by omega
   have hd0:decide (0<n)=false:=by simp [hn0]
   rcases Nat.eq_zero_or_pos s.length with hs0|hs0
   ·obtain ⟨hR,h6⟩:=HST.1 (.inr hs0)
    have HR:=hide hR
    have he:s.isEmpty=true:=by cases s with | nil=>rfl | cons=>simp at hs0
    have HS0:=hide hs0
    have HN0:=hide hn0
    clear hR HST hv hD hn h0 hs0 hn0
    go_wp2_with fail
    have hR':=HR.1
    rw [show ((n:Int) / 16)=((n / 16:Nat):Int) by omega]
    refine ⟨hR',?_⟩
    show 7-(hexc (n % 16) :: s).toArray.size<7-s.toArray.size
    simp only [List.size_toArray,List.length_cons]
    omega
   ·have he:s.isEmpty=false:=by cases s with | nil=>simp at hs0 | cons=>rfl
    have HW:=hide (show Wr s x from ⟨hs0,hl,hD,by rw [hn0] at hv;exact hv,HX.1⟩)
    have HN0:=hide hn0
    have hq1:¬ (9223372036854775807<3+s.length):=by omega
    have hq2:¬ (9223372036854775807<(wrA s).length+1):=by simp [wrA];omega
    clear HST hv hD hn h0 hs0 hn0
    go_wp2_with fail
    go_ret
    exact ⟨rfl,s,rfl,HW.1⟩
end
theorem str_app (a b:List UInt8):(⟨a.toArray⟩:ByteArray)++⟨b.toArray⟩=⟨(a++b).toArray⟩:=by
 apply ByteArray.ext
 rw [ByteArray.data_append]
 simp
theorem flat_snoc (p:List UInt8×Nat):∀ L:List (List UInt8×Nat),flat (L++[p])=flat L++wrs p.1
 | []=>by simp [flat]
 | q :: r=>by show wrs q.1++flat (r++[p])=wrs q.1++flat r++wrs p.1;rw [flat_snoc p r,List.append_assoc]
theorem case_len (fl:Fl) (x:Nat):(casedP fl [((x:Int),(x:Int))]).length≤100000:=by
 unfold casedP
 split
 ·have:=Sc.closeL_len [((x:Int),(x:Int))]
  simp only [List.length_cons,List.length_nil] at this
  omega
 ·simp
def SRel (fb:Bool) (xs:List Int) (w:World) (i v:Value) (wr:World):Prop:=∃ (k:Nat) (L:List (List UInt8×Nat)) (B:List UInt8),i=.int .i64 (k:Int)∧k≤xs.length∧v=.string ⟨B.toArray⟩∧B=preB fb++flat L∧(∀ p∈L,Wr p.1 p.2)∧L.map (fun p=>(p.2:Int))=xs.take k∧wr=w
def NRel (n:Nat) (W:World) (i:Value) (wr:World):Prop:=∃ k:Nat,i=.int .i64 (k:Int)∧k≤n∧Below W.heap.size W wr
theorem nums_any (fb:Bool) (xs:List Int) (L:List (List UInt8×Nat)) (B:List UInt8) (hB:B=preB fb++flat L) (hw:∀ p∈L,Wr p.1 p.2) (hL:L.map (fun p=>(p.2:Int))=xs) (h2:2≤xs.length) (h3:xs.length≤100) (W:World) (hG:Gl W) :
  Calls Tryz.prog 8 #[.slice (some ⟨W.heap.size,0,none⟩) B.length (strC B W)] (strW B W) fun e w'=>Below W.heap.size W w' ∧
   ∃ b off cap An cn,e=.returned (.tuple #[.agg #[.slice (some ⟨b,off,none⟩) (xs.length+1) cap,.int .i64 0,.slice An 1 cn],.int .i64 0,.int .i64 0])∧b<w'.heap.size∧xs.length+1≤cap∧cap≤9223372036854775807∧w'.cell? ⟨b,off,none⟩=some (.int .i64 5) ∧
    ∀ j x,xs[j]?=some x→∃ nd n,x=((n:Nat):Int)∧isS x=true∧nd.kind=2∧nd.set=casedP (if fb then flI else flZ) [((n:Int),(n:Int))]∧NodeV w' w'.heap.size nd fun i=>w'.cell? ⟨b,off+(j+1)*10+i,none⟩:=by
 have hlL:L.length=xs.length:=by rw [← hL,List.length_map]
 have hl:B.length≤4096:=by
  have:=flat_len L hw
  have hp:(preB fb).length≤4:=by cases fb<;>decide
  rw [hB,List.length_append];omega
 refine (parse_any B _ _ _ (strW_pv B W hl) (hG.below (strW_below _ _))).mono ?_
 rintro e w' ⟨hb,h⟩
 refine ⟨(strW_below _ _).trans (hb.mono (by rw [strW_size];omega)),?_⟩
 obtain ⟨c,hc5,hp⟩:=nums_parse fb L hw (by omega) (by omega)
 rw [hB,hp] at h
 obtain ⟨v,rfl,ht⟩:=h
 obtain ⟨-,n2,n3⟩:=nodesN_all (if fb then flI else flZ) L (preB fb).length
 obtain ⟨b,off,cap,An,cn,rfl,hlt,h1,h2',hcs⟩:=tree_open ht (by simp)
 have hln:(c :: nodesN (if fb then flI else flZ) L (preB fb).length).length=xs.length+1:=by rw [List.length_cons,n2,hlL]
 refine ⟨b,off,cap,An,cn,?_,hlt,by rw [← hln];exact h1,h2',?_,fun j x hj=>?_⟩
 ·simp only [hln,List.length_singleton]
 ·have:=(hcs 0 c rfl).1
  rw [hc5] at this
  simpa using this
 ·rw [← hL,List.getElem?_map,Option.map_eq_some_iff] at hj
  obtain ⟨p,hpj,rfl⟩:=hj
  obtain ⟨nd,hnd,hk,hs⟩:=n3 j p hpj
  exact ⟨nd,p.2,rfl,(hw p (List.mem_of_getElem? hpj)).is,hk,hs,hcs (j+1) nd hnd⟩
attribute [local go_sem high] str_app conv_txt
theorem nums_false (b0 off0 cap0:Nat) (xs:List Int) (w:World) (hG:Gl w) (hlt:b0<w.heap.size) (hcap:xs.length≤cap0) (hm0:cap0≤9223372036854775807) (hc:∀ k x,xs[k]?=some x→w.cell? ⟨b0,off0+k,none⟩=some (.int .i64 x)) (h2:2≤xs.length) (h3:xs.length≤100) :
  Calls Tryz.prog 5 #[.slice (some ⟨b0,off0,none⟩) xs.length cap0,.bool false] w fun e w'=>e=.returned (.bool true)∧Below w.heap.size w w':=by
 have CA:=hide (anchor_any w hG)
 have HG:=hide hG
 have HC:=hide hc
 have HLT:=hide hlt
 have HX2:=hide h2
 have HX3:=hide h3
 have d2:decide ((xs.length:Int)<2)=false:=decide_eq_false (by omega)
 have d2':decide (xs.length<2)=false:=decide_eq_false (by omega)
 have d3:decide ((100:Int)<(xs.length:Int))=false:=decide_eq_false (by omega)
 have d3':decide (100<xs.length)=false:=decide_eq_false (by omega)
 clear hG hc hlt
 go_enter Tryz.func5,Tryz.ntmps5
 go_wp2_with fail
 refine CA.1.mono ?_
 rintro e w1 ⟨rfl,hB⟩
 have HB:=hide hB
 have HG1:=hide (HG.1.below hB)
 clear hB CA HG
 go_wp2_with fail
 go_loopw [28,5] (fun i v wr=>SRel false xs w1 i v wr) (fun i _ _=>xs.length-(intOf i).toNat)
 case atStart=>exact ⟨0,[],_,rfl,Nat.zero_le _,rfl,rfl,by simp,by simp,rfl⟩
 case round=>
  obtain ⟨k,L,B,rfl,hk,rfl,hBe,hwL,hmL,hw⟩:=hrel
  subst hw
  go_hideQ
  have HBE:=hide hBe
  have HWL:=hide hwL
  have HML:=hide hmL
  clear hBe hwL hmL
  by_cases hin:k<xs.length
  ·have hki:(k:Int)<(xs.length:Int):=by omega
   have hd:decide ((k:Int)<(xs.length:Int))=true:=decide_eq_true hki
   obtain ⟨x,hx⟩:∃ x,xs[k]?=some x:=⟨_,List.getElem?_eq_getElem hin⟩
   have c0:wr.cell? ⟨b0,off0+k,none⟩=some (.int .i64 x):=(HB.1.cell (p:=⟨b0,off0+k,none⟩) HLT.1).trans (HC.1 k x hx)
   have hw3:IntKind.i64.wrap ((k:Int)+1)=(k:Int)+1:=Rs.wrap_id _ (by omega) (by omega)
   have HX:=hide hx
   clear hx
   go_wp2_with fail
   refine (refis_any x wr).mono ?_
   rintro e wq ⟨rfl,hwq⟩
   have hwq:=hwq.symm
   subst hwq
   cases his:isS x with
   | false=>
    go_wp2_with fail
    go_ret
    exact ⟨rfl,HB.1⟩
   | true=>
    obtain ⟨m,rfl⟩:∃ m:Nat,x=(m:Int):=⟨x.toNat,by unfold isS at his;rw [decide_eq_true_eq] at his;omega⟩
    have CH:=hide (hexes_any m wr his)
    clear his
    go_wp2_with fail
    refine CH.1.mono ?_
    rintro e wq ⟨hwq,s,rfl,hws⟩
    have hwq:=hwq.symm
    subst hwq
    have hlB:B.length≤1004:=by
     have h1:=flat_len L HWL.1
     have h2:=congrArg List.length HML.1
     rw [List.length_map,List.length_take] at h2
     have hp:(preB false).length≤4:=by decide
     have h4:=HX3.1
     rw [HBE.1,List.length_append];omega
    have h6:=hws.six
    have hq:¬ (9223372036854775807<B.length+(wrs s).length):=by rw [wrs_len];omega
    have hR:SRel false xs wr (.int .i64 ((k:Int)+1)) (.string ⟨(B++wrs s).toArray⟩) wr:=⟨k+1,L++[(s,m)],B++wrs s,by push_cast;rfl,hin,rfl,by rw [HBE.1,flat_snoc,List.append_assoc],fun p hp=>by
     rcases List.mem_append.1 hp with h|h
     ·exact HWL.1 p h
     ·rw [List.mem_singleton] at h;subst h;exact hws,by
     rw [List.map_append,HML.1,List.take_add_one,HX.1];rfl,rfl⟩
    have HR:=hide hR
    have hme:xs.length-(intOf (.int .i64 ((k:Int)+1))).toNat<xs.length-(intOf (.int .i64 (k:Int))).toNat:=by show xs.length-((k:Int)+1).toNat<xs.length-(k:Int).toNat;omega
    clear hR hws hlB h6 CH
    go_wp2_with fail
    first|exact ⟨HR.1,hme⟩|(go_roundw;all_goals first|exact HR.1|exact hme|omega)
  ·have hkn:k=xs.length:=by omega
   have hd:decide ((k:Int)<(xs.length:Int))=false:=decide_eq_false (by omega)
   have hnot:¬ ((k:Int)<(xs.length:Int)):=by omega
   have CP:=hide (nums_any false xs L B HBE.1 HWL.1 (by rw [HML.1,hkn,List.take_length]) HX2.1 HX3.1 wr HG1.1)
   clear hkn
   go_wp2_with fail
   refine CP.1.mono ?_
   rintro e w2 ⟨hB2,b,off,cap,An,cn,rfl,hlt2,hcp1,hcp2,h5,hns⟩
   have HB2:=hide (HB.1.trans (hB2.mono HB.1.size))
   have HB3:=hide (HB2.1.alloc HB2.1.size (.cells #[.slice (some ⟨b,off,none⟩) (xs.length+1) cap,.int .i64 0,.slice An 1 cn] 27))
   have HKT:=hide (Blk.new w2 27 #[.slice (some ⟨b,off,none⟩) (xs.length+1) cap,.int .i64 0,.slice An 1 cn])
   have HNS:=hide hns
   have HL2:=hide hlt2
   have h5':=(World.cell?_alloc_lt w2 (.cells #[.slice (some ⟨b,off,none⟩) (xs.length+1) cap,.int .i64 0,.slice An 1 cn] 27) ⟨b,off,none⟩ hlt2).trans h5
   have hw4:IntKind.i64.wrap ((xs.length:Int)+1)=(xs.length:Int)+1:=Rs.wrap_id _ (by omega) (by omega)
   have e1:(((xs.length+1:Nat):Int) != (xs.length:Int)+1)=false:=by push_cast;simp
   have e2:((xs.length:Int)+1 != (xs.length:Int)+1)=false:=by simp
   have hpos:(0:Int)<((xs.length+1:Nat):Int):=by omega
   have hpos':(0:Int)<(xs.length:Int)+1:=by omega
   have hpos2:0<xs.length+1:=by omega
   obtain ⟨⟨a0,a1,a2⟩,-⟩:=cells3 HKT.1
   clear hB2 h5 hns hlt2 CP HB2
   go_wp2_with fail
   have HBT:=hide ((Below.refl w2.heap.size w2).alloc (Nat.le_refl _) (.cells #[.slice (some ⟨b,off,none⟩) (xs.length+1) cap,.int .i64 0,.slice An 1 cn] 27))
   have HS2:=hide (show w2.heap.size<(w2.alloc (.cells #[.slice (some ⟨b,off,none⟩) (xs.length+1) cap,.int .i64 0,.slice An 1 cn] 27)).heap.size by simp)
   generalize w2.alloc (.cells #[.slice (some ⟨b,off,none⟩) (xs.length+1) cap,.int .i64 0,.slice An 1 cn] 27)=X at *
   clear a0 a1 a2 h5' hd hnot
   go_loopw [68] (fun i wr2=>NRel xs.length X i wr2) (fun i _=>xs.length-(intOf i).toNat)
   case atStart=>exact ⟨0,rfl,Nat.zero_le _,Below.refl _ _⟩
   case round=>
    obtain ⟨j,rfl,hj,hbk⟩:=hrel
    go_hideQ
    have hbw:=HB3.1.trans (hbk.mono HB3.1.size)
    have HXK:=hide hbw
    have hkt:=HKT.1.below hbk HKT.1.lt
    have hb2:=HBT.1.trans (hbk.mono HBT.1.size)
    have HBK:=hide hbk
    obtain ⟨⟨a0,a1,a2⟩,-⟩:=cells3 hkt
    clear hbk hkt
    by_cases hin2:j<xs.length
    ·have hki:(j:Int)<(xs.length:Int):=by omega
     have hd:decide ((j:Int)<(xs.length:Int))=true:=decide_eq_true hki
     obtain ⟨x,hx⟩:∃ x,xs[j]?=some x:=⟨_,List.getElem?_eq_getElem hin2⟩
     have c0:wr.cell? ⟨b0,off0+j,none⟩=some (.int .i64 x):=(hbw.cell (p:=⟨b0,off0+j,none⟩) HLT.1).trans (HC.1 j x hx)
     obtain ⟨nd,m,rfl,his,hk2,hset,h0,g1,g2,g3,g4,g5,g6,g7,⟨v8,g8,A8,cap8,rfl,hl8,hm8,hls⟩,v9,g9,A9,cap9,rfl,-⟩:=HNS.1 j x hx
     have hhas:hasL nd.set (m:Int)=true:=by rw [hset];exact has_case _ his
     have hcnt:cntL nd.set=1:=by rw [hset,cnt_case _ his];rfl
     have hlen:nd.set.length≤100000:=by rw [hset];exact case_len _ m
     rw [hk2] at h0
     have up:∀ i u,w2.cell? ⟨b,off+(j+1)*10+i,none⟩=some u→wr.cell? ⟨b,off+(j+1)*10+i,none⟩=some u:=fun i u h=>(hb2.cell (p:=⟨b,off+(j+1)*10+i,none⟩) HL2.1).trans h
     have n0:wr.cell? ⟨b,off+(j+1)*10,none⟩=some (.int .i64 2):=up 0 _ h0
     have n1:=up 1 _ g1
     have n2:=up 2 _ g2
     have n3:=up 3 _ g3
     have n4:=up 4 _ g4
     have n5:=up 5 _ g5
     have n6:=up 6 _ g6
     have n7:=up 7 _ g7
     have n8:=up 8 _ g8
     have n9:=up 9 _ g9
     have hw3:IntKind.i64.wrap ((j:Int)+1)=((j+1:Nat):Int):=by rw [Rs.wrap_id _ (by omega) (by omega)];push_cast;rfl
     have hj0:(0:Int)≤((j+1:Nat):Int):=by omega
     have hj1:((j+1:Nat):Int)<((xs.length+1:Nat):Int):=by omega
     have hj2:(j:Int)+1<(xs.length:Int)+1:=by omega
     have hj3:j+1<xs.length+1:=by omega
     have hbx:Below wr.heap.size wr (wr.alloc (.cells #[.int .i64 2,.int .i64 nd.from_,.int .i64 nd.to_,.int .i64 nd.num,.int .i64 nd.mn,.int .i64 nd.mx,.int .i64 nd.mode,As.str nd.name,.slice A8 nd.set.length cap8,.slice A9 nd.kids.length cap9] 34)):=(Below.refl _ _).alloc (Nat.le_refl _) _
     have hkx:=Blk.new wr 34 #[.int .i64 2,.int .i64 nd.from_,.int .i64 nd.to_,.int .i64 nd.num,.int .i64 nd.mn,.int .i64 nd.mx,.int .i64 nd.mode,As.str nd.name,.slice A8 nd.set.length cap8,.slice A9 nd.kids.length cap9]
     have x0:(wr.alloc (.cells #[.int .i64 2,.int .i64 nd.from_,.int .i64 nd.to_,.int .i64 nd.num,.int .i64 nd.mn,.int .i64 nd.mx,.int .i64 nd.mode,As.str nd.name,.slice A8 nd.set.length cap8,.slice A9 nd.kids.length cap9] 34)).cell? ⟨wr.heap.size,0,none⟩=some (.int .i64 2):=hkx.cell 0
     have x8:(wr.alloc (.cells #[.int .i64 2,.int .i64 nd.from_,.int .i64 nd.to_,.int .i64 nd.num,.int .i64 nd.mn,.int .i64 nd.mx,.int .i64 nd.mode,As.str nd.name,.slice A8 nd.set.length cap8,.slice A9 nd.kids.length cap9] 34)).cell? ⟨wr.heap.size,8,none⟩=some (.slice A8 nd.set.length cap8):=hkx.cell 8
     clear h0 g1 g2 g3 g4 g5 g6 g7 g8 g9 up hset hk2 his hx hbw
     have HB2K:=hide hb2
     have HLS:=hide hls
     have HHAS:=hide hhas
     have HBX:=hide hbx
     have HKX:=hide hkx
     clear hb2 hls hhas hbx hkx
     have hb5:Below (wr.alloc (.cells #[.int .i64 2,.int .i64 nd.from_,.int .i64 nd.to_,.int .i64 nd.num,.int .i64 nd.mn,.int .i64 nd.mx,.int .i64 nd.mode,As.str nd.name,.slice A8 nd.set.length cap8,.slice A9 nd.kids.length cap9] 34)).heap.size (wr.alloc (.cells #[.int .i64 2,.int .i64 nd.from_,.int .i64 nd.to_,.int .i64 nd.num,.int .i64 nd.mn,.int .i64 nd.mx,.int .i64 nd.mode,As.str nd.name,.slice A8 nd.set.length cap8,.slice A9 nd.kids.length cap9] 34)) (wr.alloc (.cells #[.int .i64 2,.int .i64 nd.from_,.int .i64 nd.to_,.int .i64 nd.num,.int .i64 nd.mn,.int .i64 nd.mx,.int .i64 nd.mode,As.str nd.name,.slice A8 nd.set.length cap8,.slice A9 nd.kids.length cap9] 34)):=Below.refl _ _
     have HB5:=hide (HBX.1.trans (hb5.mono HBX.1.size))
     have HK5:=hide (HKX.1.below hb5 HKX.1.lt)
     have hl5:Lst (wr.alloc (.cells #[.int .i64 2,.int .i64 nd.from_,.int .i64 nd.to_,.int .i64 nd.num,.int .i64 nd.mn,.int .i64 nd.mx,.int .i64 nd.mode,As.str nd.name,.slice A8 nd.set.length cap8,.slice A9 nd.kids.length cap9] 34)) (wr.alloc (.cells #[.int .i64 2,.int .i64 nd.from_,.int .i64 nd.to_,.int .i64 nd.num,.int .i64 nd.mn,.int .i64 nd.mx,.int .i64 nd.mode,As.str nd.name,.slice A8 nd.set.length cap8,.slice A9 nd.kids.length cap9] 34)).heap.size A8 nd.set:=(HLS.1.below (HB2K.1.trans (HB5.1.mono HB2K.1.size))).more (Nat.le_trans HB2K.1.size HB5.1.size)
     have CH:=hide (Rs.has_any nd.set (m:Int) A8 cap8 (wr.alloc (.cells #[.int .i64 2,.int .i64 nd.from_,.int .i64 nd.to_,.int .i64 nd.num,.int .i64 nd.mn,.int .i64 nd.mx,.int .i64 nd.mode,As.str nd.name,.slice A8 nd.set.length cap8,.slice A9 nd.kids.length cap9] 34)) (by omega) hl5)
     rw [HHAS.1] at CH
     have HL5:=hide hl5
     have HCNT:=hide hcnt
     clear hb5 hl5 hcnt x0 x8
     have x0:(wr.alloc (.cells #[.int .i64 2,.int .i64 nd.from_,.int .i64 nd.to_,.int .i64 nd.num,.int .i64 nd.mn,.int .i64 nd.mx,.int .i64 nd.mode,As.str nd.name,.slice A8 nd.set.length cap8,.slice A9 nd.kids.length cap9] 34)).cell? ⟨wr.heap.size,0,none⟩=some (.int .i64 2):=HK5.1.cell 0
     have x8:(wr.alloc (.cells #[.int .i64 2,.int .i64 nd.from_,.int .i64 nd.to_,.int .i64 nd.num,.int .i64 nd.mn,.int .i64 nd.mx,.int .i64 nd.mode,As.str nd.name,.slice A8 nd.set.length cap8,.slice A9 nd.kids.length cap9] 34)).cell? ⟨wr.heap.size,8,none⟩=some (.slice A8 nd.set.length cap8):=HK5.1.cell 8
     go_wp2_with fail
     refine CH.1.mono ?_
     rintro e w6 ⟨rfl,hb6⟩
     have HB6:=hide (HB5.1.trans (hb6.mono HB5.1.size))
     have HK6:=hide (HK5.1.below hb6 HK5.1.lt)
     have CC:=hide (Rs.count_any nd.set A8 cap8 w6 hlen hl8 ((HL5.1.below hb6).more hb6.size))
     rw [HCNT.1] at CC
     clear hb6 x0 x8 CH
     have x8:w6.cell? ⟨wr.heap.size,8,none⟩=some (.slice A8 nd.set.length cap8):=HK6.1.cell 8
     go_wp2_with fail
     refine CC.1.mono ?_
     rintro e w7 ⟨rfl,hb7⟩
     have hR:NRel xs.length X (.int .i64 ((j+1:Nat):Int)) w7:=⟨j+1,rfl,hin2,HBK.1.trans ((HB6.1.trans (hb7.mono HB6.1.size)).mono HBK.1.size)⟩
     have HR:=hide hR
     have e3:((1:Int) != 1)=false:=by simp
     have hme:xs.length-(intOf (.int .i64 ((j+1:Nat):Int))).toNat<xs.length-(intOf (.int .i64 (j:Int))).toNat:=by show xs.length-((j+1:Nat):Int).toNat<xs.length-(j:Int).toNat;omega
     clear hR hb7 x8 CC
     go_wp2_with fail
     first|exact ⟨HR.1,hme⟩|exact ⟨by simpa using HR.1,by simpa using hme⟩|(go_roundw;all_goals first|exact HR.1|exact hme|omega)
    ·have hjn:j=xs.length:=by omega
     have hd:decide ((j:Int)<(xs.length:Int))=false:=decide_eq_false (by omega)
     have hnot:¬ ((j:Int)<(xs.length:Int)):=by omega
     clear hb2 hbw
     go_wp2_with fail
     go_ret
     exact ⟨rfl,HXK.1⟩
theorem nums_true (b0 off0 cap0:Nat) (xs:List Int) (w:World) (hG:Gl w) (hlt:b0<w.heap.size) (hcap:xs.length≤cap0) (hm0:cap0≤9223372036854775807) (hc:∀ k x,xs[k]?=some x→w.cell? ⟨b0,off0+k,none⟩=some (.int .i64 x)) (h2:2≤xs.length) (h3:xs.length≤100) :
  Calls Tryz.prog 5 #[.slice (some ⟨b0,off0,none⟩) xs.length cap0,.bool true] w fun e w'=>e=.returned (.bool true)∧Below w.heap.size w w':=by
 have CA:=hide (anchor_any w hG)
 have HG:=hide hG
 have HC:=hide hc
 have HLT:=hide hlt
 have HX2:=hide h2
 have HX3:=hide h3
 have d2:decide ((xs.length:Int)<2)=false:=decide_eq_false (by omega)
 have d2':decide (xs.length<2)=false:=decide_eq_false (by omega)
 have d3:decide ((100:Int)<(xs.length:Int))=false:=decide_eq_false (by omega)
 have d3':decide (100<xs.length)=false:=decide_eq_false (by omega)
 clear hG hc hlt
 go_enter Tryz.func5,Tryz.ntmps5
 go_wp2_with fail
 refine CA.1.mono ?_
 rintro e w1 ⟨rfl,hB⟩
 have HB:=hide hB
 have HG1:=hide (HG.1.below hB)
 clear hB CA HG
 go_wp2_with fail
 go_loopw [28,5] (fun i v wr=>SRel true xs w1 i v wr) (fun i _ _=>xs.length-(intOf i).toNat)
 case atStart=>exact ⟨0,[],_,rfl,Nat.zero_le _,rfl,rfl,by simp,by simp,rfl⟩
 case round=>
  obtain ⟨k,L,B,rfl,hk,rfl,hBe,hwL,hmL,hw⟩:=hrel
  subst hw
  go_hideQ
  have HBE:=hide hBe
  have HWL:=hide hwL
  have HML:=hide hmL
  clear hBe hwL hmL
  by_cases hin:k<xs.length
  ·have hki:(k:Int)<(xs.length:Int):=by omega
   have hd:decide ((k:Int)<(xs.length:Int))=true:=decide_eq_true hki
   obtain ⟨x,hx⟩:∃ x,xs[k]?=some x:=⟨_,List.getElem?_eq_getElem hin⟩
   have c0:wr.cell? ⟨b0,off0+k,none⟩=some (.int .i64 x):=(HB.1.cell (p:=⟨b0,off0+k,none⟩) HLT.1).trans (HC.1 k x hx)
   have hw3:IntKind.i64.wrap ((k:Int)+1)=(k:Int)+1:=Rs.wrap_id _ (by omega) (by omega)
   have HX:=hide hx
   clear hx
   go_wp2_with fail
   refine (refis_any x wr).mono ?_
   rintro e wq ⟨rfl,hwq⟩
   have hwq:=hwq.symm
   subst hwq
   cases his:isS x with
   | false=>
    go_wp2_with fail
    go_ret
    exact ⟨rfl,HB.1⟩
   | true=>
    obtain ⟨m,rfl⟩:∃ m:Nat,x=(m:Int):=⟨x.toNat,by unfold isS at his;rw [decide_eq_true_eq] at his;omega⟩
    have CH:=hide (hexes_any m wr his)
    clear his
    go_wp2_with fail
    refine CH.1.mono ?_
    rintro e wq ⟨hwq,s,rfl,hws⟩
    have hwq:=hwq.symm
    subst hwq
    have hlB:B.length≤1004:=by
     have h1:=flat_len L HWL.1
     have h2:=congrArg List.length HML.1
     rw [List.length_map,List.length_take] at h2
     have hp:(preB true).length≤4:=by decide
     have h4:=HX3.1
     rw [HBE.1,List.length_append];omega
    have h6:=hws.six
    have hq:¬ (9223372036854775807<B.length+(wrs s).length):=by rw [wrs_len];omega
    have hR:SRel true xs wr (.int .i64 ((k:Int)+1)) (.string ⟨(B++wrs s).toArray⟩) wr:=⟨k+1,L++[(s,m)],B++wrs s,by push_cast;rfl,hin,rfl,by rw [HBE.1,flat_snoc,List.append_assoc],fun p hp=>by
     rcases List.mem_append.1 hp with h|h
     ·exact HWL.1 p h
     ·rw [List.mem_singleton] at h;subst h;exact hws,by
     rw [List.map_append,HML.1,List.take_add_one,HX.1];rfl,rfl⟩
    have HR:=hide hR
    have hme:xs.length-(intOf (.int .i64 ((k:Int)+1))).toNat<xs.length-(intOf (.int .i64 (k:Int))).toNat:=by show xs.length-((k:Int)+1).toNat<xs.length-(k:Int).toNat;omega
    clear hR hws hlB h6 CH
    go_wp2_with fail
    first|exact ⟨HR.1,hme⟩|(go_roundw;all_goals first|exact HR.1|exact hme|omega)
  ·have hkn:k=xs.length:=by omega
   have hd:decide ((k:Int)<(xs.length:Int))=false:=decide_eq_false (by omega)
   have hnot:¬ ((k:Int)<(xs.length:Int)):=by omega
   have CP:=hide (nums_any true xs L B HBE.1 HWL.1 (by rw [HML.1,hkn,List.take_length]) HX2.1 HX3.1 wr HG1.1)
   clear hkn
   go_wp2_with fail
   refine CP.1.mono ?_
   rintro e w2 ⟨hB2,b,off,cap,An,cn,rfl,hlt2,hcp1,hcp2,h5,hns⟩
   have HB2:=hide (HB.1.trans (hB2.mono HB.1.size))
   have HB3:=hide (HB2.1.alloc HB2.1.size (.cells #[.slice (some ⟨b,off,none⟩) (xs.length+1) cap,.int .i64 0,.slice An 1 cn] 27))
   have HKT:=hide (Blk.new w2 27 #[.slice (some ⟨b,off,none⟩) (xs.length+1) cap,.int .i64 0,.slice An 1 cn])
   have HNS:=hide hns
   have HL2:=hide hlt2
   have h5':=(World.cell?_alloc_lt w2 (.cells #[.slice (some ⟨b,off,none⟩) (xs.length+1) cap,.int .i64 0,.slice An 1 cn] 27) ⟨b,off,none⟩ hlt2).trans h5
   have hw4:IntKind.i64.wrap ((xs.length:Int)+1)=(xs.length:Int)+1:=Rs.wrap_id _ (by omega) (by omega)
   have e1:(((xs.length+1:Nat):Int) != (xs.length:Int)+1)=false:=by push_cast;simp
   have e2:((xs.length:Int)+1 != (xs.length:Int)+1)=false:=by simp
   have hpos:(0:Int)<((xs.length+1:Nat):Int):=by omega
   have hpos':(0:Int)<(xs.length:Int)+1:=by omega
   have hpos2:0<xs.length+1:=by omega
   obtain ⟨⟨a0,a1,a2⟩,-⟩:=cells3 HKT.1
   clear hB2 h5 hns hlt2 CP HB2
   go_wp2_with fail
   have HBT:=hide ((Below.refl w2.heap.size w2).alloc (Nat.le_refl _) (.cells #[.slice (some ⟨b,off,none⟩) (xs.length+1) cap,.int .i64 0,.slice An 1 cn] 27))
   have HS2:=hide (show w2.heap.size<(w2.alloc (.cells #[.slice (some ⟨b,off,none⟩) (xs.length+1) cap,.int .i64 0,.slice An 1 cn] 27)).heap.size by simp)
   generalize w2.alloc (.cells #[.slice (some ⟨b,off,none⟩) (xs.length+1) cap,.int .i64 0,.slice An 1 cn] 27)=X at *
   clear a0 a1 a2 h5' hd hnot
   go_loopw [68] (fun i wr2=>NRel xs.length X i wr2) (fun i _=>xs.length-(intOf i).toNat)
   case atStart=>exact ⟨0,rfl,Nat.zero_le _,Below.refl _ _⟩
   case round=>
    obtain ⟨j,rfl,hj,hbk⟩:=hrel
    go_hideQ
    have hbw:=HB3.1.trans (hbk.mono HB3.1.size)
    have HXK:=hide hbw
    have hkt:=HKT.1.below hbk HKT.1.lt
    have hb2:=HBT.1.trans (hbk.mono HBT.1.size)
    have HBK:=hide hbk
    obtain ⟨⟨a0,a1,a2⟩,-⟩:=cells3 hkt
    clear hbk hkt
    by_cases hin2:j<xs.length
    ·have hki:(j:Int)<(xs.length:Int):=by omega
     have hd:decide ((j:Int)<(xs.length:Int))=true:=decide_eq_true hki
     obtain ⟨x,hx⟩:∃ x,xs[j]?=some x:=⟨_,List.getElem?_eq_getElem hin2⟩
     have c0:wr.cell? ⟨b0,off0+j,none⟩=some (.int .i64 x):=(hbw.cell (p:=⟨b0,off0+j,none⟩) HLT.1).trans (HC.1 j x hx)
     obtain ⟨nd,m,rfl,his,hk2,hset,h0,g1,g2,g3,g4,g5,g6,g7,⟨v8,g8,A8,cap8,rfl,hl8,hm8,hls⟩,v9,g9,A9,cap9,rfl,-⟩:=HNS.1 j x hx
     have hhas:hasL nd.set (m:Int)=true:=by rw [hset];exact has_case _ his
     have hcnt:cntL nd.set=((orb (m:Int)).length:Int):=by rw [hset,cnt_case _ his];rfl
     have hlen:nd.set.length≤100000:=by rw [hset];exact case_len _ m
     rw [hk2] at h0
     have up:∀ i u,w2.cell? ⟨b,off+(j+1)*10+i,none⟩=some u→wr.cell? ⟨b,off+(j+1)*10+i,none⟩=some u:=fun i u h=>(hb2.cell (p:=⟨b,off+(j+1)*10+i,none⟩) HL2.1).trans h
     have n0:wr.cell? ⟨b,off+(j+1)*10,none⟩=some (.int .i64 2):=up 0 _ h0
     have n1:=up 1 _ g1
     have n2:=up 2 _ g2
     have n3:=up 3 _ g3
     have n4:=up 4 _ g4
     have n5:=up 5 _ g5
     have n6:=up 6 _ g6
     have n7:=up 7 _ g7
     have n8:=up 8 _ g8
     have n9:=up 9 _ g9
     have hw3:IntKind.i64.wrap ((j:Int)+1)=((j+1:Nat):Int):=by rw [Rs.wrap_id _ (by omega) (by omega)];push_cast;rfl
     have hj0:(0:Int)≤((j+1:Nat):Int):=by omega
     have hj1:((j+1:Nat):Int)<((xs.length+1:Nat):Int):=by omega
     have hj2:(j:Int)+1<(xs.length:Int)+1:=by omega
     have hj3:j+1<xs.length+1:=by omega
     have hbx:Below wr.heap.size wr (wr.alloc (.cells #[.int .i64 2,.int .i64 nd.from_,.int .i64 nd.to_,.int .i64 nd.num,.int .i64 nd.mn,.int .i64 nd.mx,.int .i64 nd.mode,As.str nd.name,.slice A8 nd.set.length cap8,.slice A9 nd.kids.length cap9] 34)):=(Below.refl _ _).alloc (Nat.le_refl _) _
     have hkx:=Blk.new wr 34 #[.int .i64 2,.int .i64 nd.from_,.int .i64 nd.to_,.int .i64 nd.num,.int .i64 nd.mn,.int .i64 nd.mx,.int .i64 nd.mode,As.str nd.name,.slice A8 nd.set.length cap8,.slice A9 nd.kids.length cap9]
     have x0:(wr.alloc (.cells #[.int .i64 2,.int .i64 nd.from_,.int .i64 nd.to_,.int .i64 nd.num,.int .i64 nd.mn,.int .i64 nd.mx,.int .i64 nd.mode,As.str nd.name,.slice A8 nd.set.length cap8,.slice A9 nd.kids.length cap9] 34)).cell? ⟨wr.heap.size,0,none⟩=some (.int .i64 2):=hkx.cell 0
     have x8:(wr.alloc (.cells #[.int .i64 2,.int .i64 nd.from_,.int .i64 nd.to_,.int .i64 nd.num,.int .i64 nd.mn,.int .i64 nd.mx,.int .i64 nd.mode,As.str nd.name,.slice A8 nd.set.length cap8,.slice A9 nd.kids.length cap9] 34)).cell? ⟨wr.heap.size,8,none⟩=some (.slice A8 nd.set.length cap8):=hkx.cell 8
     clear h0 g1 g2 g3 g4 g5 g6 g7 g8 g9 up hset hk2 his hx hbw
     have HB2K:=hide hb2
     have HLS:=hide hls
     have HHAS:=hide hhas
     have HBX:=hide hbx
     have HKX:=hide hkx
     clear hb2 hls hhas hbx hkx
     go_wp2_with fail
     refine (Fo.orbit_any (m:Int) (wr.alloc (.cells #[.int .i64 2,.int .i64 nd.from_,.int .i64 nd.to_,.int .i64 nd.num,.int .i64 nd.mn,.int .i64 nd.mx,.int .i64 nd.mode,As.str nd.name,.slice A8 nd.set.length cap8,.slice A9 nd.kids.length cap9] 34))).mono ?_
     rintro e w5 ⟨v5,l5,rfl,ho5,-,hcut⟩
     rw [Fo.orb_unique ho5] at hcut
     obtain ⟨C5,cc5,rfl,-,-⟩:=Fo.own_reads hcut.1
     have hb5:=hcut.2
     obtain ⟨q,hq⟩:∃ q:Nat,(orb (m:Int)).length=q:=⟨_,rfl⟩
     rw [hq] at hcnt ⊢
     clear hcut ho5 x0 x8
     have HB5:=hide (HBX.1.trans (hb5.mono HBX.1.size))
     have HK5:=hide (HKX.1.below hb5 HKX.1.lt)
     have hl5:Lst w5 w5.heap.size A8 nd.set:=(HLS.1.below (HB2K.1.trans (HB5.1.mono HB2K.1.size))).more (Nat.le_trans HB2K.1.size HB5.1.size)
     have CH:=hide (Rs.has_any nd.set (m:Int) A8 cap8 w5 (by omega) hl5)
     rw [HHAS.1] at CH
     have HL5:=hide hl5
     have HCNT:=hide hcnt
     clear hb5 hl5 hcnt
     have x0:w5.cell? ⟨wr.heap.size,0,none⟩=some (.int .i64 2):=HK5.1.cell 0
     have x8:w5.cell? ⟨wr.heap.size,8,none⟩=some (.slice A8 nd.set.length cap8):=HK5.1.cell 8
     go_wp2_with fail
     refine CH.1.mono ?_
     rintro e w6 ⟨rfl,hb6⟩
     have HB6:=hide (HB5.1.trans (hb6.mono HB5.1.size))
     have HK6:=hide (HK5.1.below hb6 HK5.1.lt)
     have CC:=hide (Rs.count_any nd.set A8 cap8 w6 hlen hl8 ((HL5.1.below hb6).more hb6.size))
     rw [HCNT.1] at CC
     clear hb6 x0 x8 CH
     have x8:w6.cell? ⟨wr.heap.size,8,none⟩=some (.slice A8 nd.set.length cap8):=HK6.1.cell 8
     go_wp2_with fail
     refine CC.1.mono ?_
     rintro e w7 ⟨rfl,hb7⟩
     have hR:NRel xs.length X (.int .i64 ((j+1:Nat):Int)) w7:=⟨j+1,rfl,hin2,HBK.1.trans ((HB6.1.trans (hb7.mono HB6.1.size)).mono HBK.1.size)⟩
     have HR:=hide hR
     have e3:(((q:Int):Int) != (q:Int))=false:=by simp
     have hme:xs.length-(intOf (.int .i64 ((j+1:Nat):Int))).toNat<xs.length-(intOf (.int .i64 (j:Int))).toNat:=by show xs.length-((j+1:Nat):Int).toNat<xs.length-(j:Int).toNat;omega
     clear hR hb7 x8 CC
     go_wp2_with fail
     first|exact ⟨HR.1,hme⟩|exact ⟨by simpa using HR.1,by simpa using hme⟩|(go_roundw;all_goals first|exact HR.1|exact hme|omega)
    ·have hjn:j=xs.length:=by omega
     have hd:decide ((j:Int)<(xs.length:Int))=false:=decide_eq_false (by omega)
     have hnot:¬ ((j:Int)<(xs.length:Int)):=by omega
     clear hb2 hbw
     go_wp2_with fail
     go_ret
     exact ⟨rfl,HXK.1⟩
theorem walkNumbers (A:Option Addr) (cap:Nat) (xs:List Int) (fb:Bool) (w:World) (hG:Gl w) (hcap:xs.length≤cap) (hm:cap≤9223372036854775807) (hr:Reads w w.heap.size 1 A xs.length (xs.map Mem.i64)) :
  Calls Tryz.prog 5 #[.slice A xs.length cap,.bool fb] w fun e w'=>e=.returned (.bool true)∧Below w.heap.size w w':=by
 by_cases hs:2≤xs.length∧xs.length≤100
 ·obtain ⟨b,off,rfl,hlt,hc⟩:=hr.flat (by omega)
  have hc':∀ k x,xs[k]?=some x→w.cell? ⟨b,off+k,none⟩=some (.int .i64 x):=fun k x h=>hc k _ (by rw [List.getElem?_map,h];rfl)
  cases fb with
  | false=>exact nums_false b off cap xs w hG hlt hcap hm hc' hs.1 hs.2
  | true=>exact nums_true b off cap xs w hG hlt hcap hm hc' hs.1 hs.2
 ·have CA:=hide (anchor_any w hG)
  have hcap2:xs.length≤9223372036854775807:=Nat.le_trans hcap hm
  clear hr hG
  by_cases h1:xs.length<2
  ·have d2:decide ((xs.length:Int)<2)=true:=decide_eq_true (by omega)
   have d2':decide (xs.length<2)=true:=decide_eq_true h1
   clear hs h1
   go_enter Tryz.func5,Tryz.ntmps5
   go_wp2_with fail
   refine CA.1.mono ?_
   rintro e w1 ⟨rfl,hB⟩
   have HB:=hide hB
   clear hB CA
   go_wp2_with fail
   go_ret
   exact ⟨rfl,HB.1⟩
  ·have d2:decide ((xs.length:Int)<2)=false:=decide_eq_false (by omega)
   have d2':decide (xs.length<2)=false:=decide_eq_false h1
   have d3:decide ((100:Int)<(xs.length:Int))=true:=decide_eq_true (by omega)
   have d3':decide (100<xs.length)=true:=decide_eq_true (by omega)
   clear hs h1
   go_enter Tryz.func5,Tryz.ntmps5
   go_wp2_with fail
   refine CA.1.mono ?_
   rintro e w1 ⟨rfl,hB⟩
   have HB:=hide hB
   clear hB CA
   go_wp2_with fail
   go_ret
   exact ⟨rfl,HB.1⟩
end
end Go.Proofs.YtmphmddmfcaldaaGreatDoor.Pa
namespace Go.Proofs.YtmphmddmfcaldaaGreatDoor.PaLawNumbers
open Go.ChangeShapes Go.WideShapes Go.ChangeAt Go.RowKit Go.ChangeMaps Sc Pa
theorem lifted (os:Os) (started:os.Started) (H:Type) (enc:TypeId×Value→H) :
  ReturnsInHanded {} Tryz.checked os 5 .any (fun w args=>(Rows.parseNumbersSpec.pre enc Tryz.prog Tryz.f5 [] false w args∧laidMetH Tryz.prog list w)∧sizedMet enc Tryz.prog Tryz.f5 (OpenSpec.ofChange Rows.parseNumbersSpec) false w args)
   (Rows.parseNumbersSpec.post enc Tryz.prog Tryz.f5 false true false false):=by
 refine bothG list Gl (fun _ h hs=>gl_of h hs) started (by kernel_rfl) Tryz.func5
  (ChangeSpec.witness_shaped (enc:=enc) (C:=Tryz.checked) (os:=os) (X:=fun w _=>laidMetH Tryz.prog list w) false (World.laidAll Tryz.prog os list) #[.slice none 0 0,.bool false] 8 (World.laidAll_os _ _ _)
   (World.shaped_of_ZipB (by kernel_rfl) (by kernel_rfl)) (by kernel_rfl) (by kernel_rfl) (by kernel_rfl)
   (by rw [MakeChecks.laidMetH_plain _ _ _ (by kernel_rfl)];exact laidMet_laidAll _ (by kernel_rfl) (by kernel_rfl))) ?_
 intro W base args ds gs before hval0 hW hGl
 have hval:∀ (j:Nat) t v,Tryz.f5.params[j]?=some t→args[j]?=some v→Value.okWide Tryz.prog W .any base t v:=hval0
 have hW':=hW
 obtain ⟨p,q,hA0,hV,rfl,hfz,hnd⟩:=hW
 have hA:DataW.TrodAll enc Tryz.prog W 0 (fun _=>true) true Tryz.f5.params.toList args.toList ds p:=hA0
 rw [Tryz.params5] at hA hval
 obtain ⟨v0,vs0,d0,ds0,p0,q0,hargs,rfl,rfl,h0,r0⟩:=trodAll_cons hA
 obtain ⟨v1,vs1,d1,ds1,p1,q1,rfl,rfl,rfl,h1,r1⟩:=trodAll_cons r0
 obtain ⟨rfl,rfl,rfl⟩:=trodAll_nil r1
 obtain rfl:args=#[v0,v1]:=by cases args;simp_all
 obtain ⟨rfl,rfl⟩:=trodVars_none hV
 obtain ⟨a0,len0,cap0,rfl⟩:=okWide_slice Tryz.underlying32 (hval 0 32 v0 rfl rfl)
 have k0:=h0
 have lt0:∀ x∈p0,x.block<W.heap.size:=by obtain ⟨m,hm⟩:=k0;exact DataW.trod_lt m _ _ _ hm
 obtain ⟨z0,w0⟩:∃ zs,Laid.IsRow .i64 W a0 len0 cap0 zs:=by
  obtain ⟨fuel,hf⟩:=h0
  rcases open_ints Tryz.underlying32 Tryz.underlying3 (by kernel_rfl) hf with ⟨hcs,_⟩|⟨x,l,c,zs,hcs,_,hl,hm,hz,_,hcell,hwz⟩
  ·simp [Value.cells] at hcs
   obtain ⟨rfl,rfl,rfl⟩:=hcs
   exact ⟨[],.inl ⟨rfl,rfl,rfl,rfl⟩⟩
  ·simp [Value.cells] at hcs
   obtain ⟨rfl,rfl,rfl⟩:=hcs
   exact ⟨zs,.inr ⟨x,rfl,hl,hm,by simpa using hz,hcell,hwz⟩⟩
 obtain ⟨ys0,rfl,hl0,hm0,-,hr0⟩:=Laid.ints_of w0
 obtain ⟨x1,rfl,rfl,rfl⟩:=open_bool Tryz.underlying4 (hval 1 4 v1 rfl rfl) h1
 clear hA0 hval0
 simp only [List.append_nil,List.nil_append] at hW'
 refine (walkNumbers a0 cap0 ys0 x1 W hGl hl0 hm0 hr0).mono fun e W' ⟨he,bel⟩=>?_
 subst he
 exact ⟨_,rfl,_,_,_,[],_,[],hW',trodAll_mk1 (shut_bool Tryz.underlying4 _),(trodAll_cons_mk (Below.trod laidOut (by kernel_rfl) (of_decide_eq_true (by kernel_rfl)) k0 bel lt0) (trodAll_cons_mk (shut_bool Tryz.underlying4 _) trodAll_mk0)),rfl,bel.frame _,fun h=>by cases h⟩
theorem said:Rows.ParseNumbersSaid:=
 OpenClaim.holds_of_wide 5 Tryz.f5 rfl rfl rfl rfl rfl rfl rfl ⟨rfl,rfl,rfl,rfl,rfl⟩ rfl rfl rfl rfl rfl (by kernel_rfl) Tryz.func5 (by kernel_rfl)
  (of_decide_eq_true (by kernel_rfl)) (by unfold Func.isWrapper;first|(rw [if_pos (by decide +kernel)];kernel_rfl)|(rw [if_neg (by decide +kernel)];exact ⟨rfl,rfl⟩))
  (fun os started H enc _=>lifted os started H enc)
theorem plain (f:FuncId) (fn:Func) (hf:Tryz.pinned.checked.prog.funcNamed "clew/clewlaw08.ParseNumbers"=some f) (hfn:Tryz.pinned.checked.prog.funcs[f]?=some fn) :
  false=Tryz.pinned.checked.prog.looks []∧∀ (j:Nat) t,fn.params[j]?=some t→Tryz.pinned.checked.prog.wantsStandIn t=false:=by
 obtain rfl:f=5:=Option.some.inj ((show Tryz.prog.funcNamed "clew/clewlaw08.ParseNumbers"=some 5 by kernel_rfl).symm.trans hf) |>.symm
 obtain rfl:fn=Tryz.f5:=(Option.some.inj (Tryz.func5.symm.trans hfn)).symm
 refine ⟨by kernel_rfl,fun j t ht=>?_⟩
 rw [Tryz.params5] at ht
 have hm:t∈[32,4]:=by simpa using Array.mem_of_getElem? ht
 have hall:([32,4].all fun u=>!Tryz.prog.wantsStandIn u)=true:=by kernel_rfl
 exact (show Tryz.prog.wantsStandIn t=false by simpa using List.all_eq_true.1 hall t hm)
theorem card:Rows.ParseNumbersCardSaid:=
 Claim7.holds_tied_plain_at .later [] _ _ _ _ said (fun _ h=>by cases h) (by kernel_rfl) (fun _ h=>by cases h) parseNumbers_row_tie rfl ⟨rfl,rfl⟩ (by kernel_rfl) rfl plain (by kernel_rfl)
end Go.Proofs.YtmphmddmfcaldaaGreatDoor.PaLawNumbers
