/-
  lay, walked.
-/
import Derived.Test.YtmlbklcmblofkaaGreatDoorMPaF
set_option linter.unusedSimpArgs false
set_option linter.unusedVariables false
set_option maxHeartbeats 8000000
set_option maxRecDepth 100000
namespace Go.Proofs.YtmlbklcmblofkaaGreatDoor.Pa
open Go.RowKit Mem
open Sy (g)
open As (Nd)
attribute [local go_sem] build_pz build_fl build_f0
variable {base n i cap rb nest:Nat} {xs:List Value} {w w0:World} {bs:List UInt8} {A:Option Addr} {st:St} {nv:Value}
def LayG (names:List (List UInt8)) (P:Nat→Prop) (base:Nat) (l:List Nd) (i:Nat) (v:Value) (kb:List (Option Nat)) (x:Pt) (w:World) (e:Ending) (w':World):Prop:=
 ∃ v' xs' kb',e=.returned v'∧w'.ownsRow base 49 10 v' (i+(1+x.kids.size)) xs'∧NL P base w' (l++layF names (.one x) i) xs' kb'∧Diff kb'∧Kp v kb w v' kb' w'
def LayR (names:List (List UInt8)) (P:Nat→Prop) (base:Nat) (l:List Nd) (i:Nat) (x:Pt) (v0:Value) (kb0:List (Option Nat)) (W0:World) (bx:Nat) (C:Array Value) (cnt v:Value) (wr:World):Prop:=
 ∃ (j n:Nat) (xs:List Value) (kb:List (Option Nat)),cnt=.int .i64 (j:Int)∧j≤x.kids.len∧n=i+(1+(x.kids.take j).size)∧wr.ownsRow base 49 10 v n xs ∧
  NL P base wr (l++{ fixN names x.nd with kids:=(x.kids.take j).idx (i+1) } :: layF names (x.kids.take j) (i+1)) xs kb∧Diff kb∧Kp v0 kb0 W0 v kb wr∧Blk wr bx 78 C
def LayC (bs:List UInt8) (A:Option Addr) (cap:Nat) (w0:World) (rb nest:Nat) (st:St) (nv:Value) (P:Nat→Prop) (base:Nat) (m:Nat):Prop:=
 ∀ (x:Pt),1+x.kids.size≤m→∀ (W:World) (xv:Value) (l:List Nd) (i:Nat) (v:Value) (xs:List Value) (kb:List (Option Nat)),l.length=i→Rd bs A cap w0 rb nest st nv W→base≤W.heap.size→PtV P W x xv→W.ownsRow base 49 10 v i xs→NL P base W l xs kb→Diff kb→i+(1+x.kids.size)≤20000 →
  Calls Tryz.prog 33 #[Value.pointer (some ⟨rb,0,none⟩),v,xv] W (LayG st.names P base l i v kb x W)
theorem own_cells3 {W:World} {e b c:Nat} (ho:W.ownsRow base e 10 (.slice (some ⟨b,0,none⟩) n c) n xs) (hi:i<n):(∃ u,W.cell? ⟨b,i*10+3,none⟩=some u)∧W.frozen? ⟨b,i*10+3,none⟩=false:=by
 obtain ⟨b',c',e2,-,-,-,-,hc⟩:=own_cellsG ho (by omega)
 injection e2 with e3 e4 e5
 injection e3 with e6
 injection e6 with e7
 subst e7
 have hl:i*10+3<xs.length:=by rw [ho.1];omega
 exact ⟨⟨_,(hc _ _ (List.getElem?_eq_getElem hl)).1⟩,(hc _ _ (List.getElem?_eq_getElem hl)).2⟩
theorem kp_blk {g:Nat} {P:Nat→Prop} {v v':Value} {l:List Nd} {kb kb':List (Option Nat)} {w':World} {C:Array Value} (ho:w.ownsRow base 49 10 v n xs) (hN:NL P base w l xs kb) (hk:Kp v kb w v' kb' w') (hb:Blk w g 78 C):Blk w' g 78 C:=
 (hk.block g hb.lt (own_blk_ne ho hb (by decide)) (NL.blk hb (by decide) hN)).trans hb
theorem take_zero (l:F):l.take 0=.nil:=by cases l<;>rfl
theorem lrel_start {names:List (List UInt8)} {P:Nat→Prop} {l:List Nd} {x:Pt} {v0 v:Value} {kb0 kb:List (Option Nat)} {W0 w1:World} {bx:Nat} {C:Array Value} {nd:Nd} (ho:w1.ownsRow base 49 10 v (i+1) xs) (hN:NL P base w1 (l++[nd]) xs kb) (hd:Diff kb) (hk:Kp v0 kb0 W0 v kb w1) (hb:Blk w1 bx 78 C) (hnd:nd={ fixN names x.nd with kids:=[] }):LayR names P base l i x v0 kb0 W0 bx C (.int .i64 0) v w1:=by
 refine ⟨0,i+1,xs,kb,rfl,Nat.zero_le _,?_,ho,?_,hd,hk,hb⟩
 ·rw [take_zero];rfl
 ·rw [take_zero,← show nd={ fixN names x.nd with kids:=F.nil.idx (i+1) } from hnd]
  exact hN
theorem len_size:∀ l:F,l.len≤l.size
 | .nil=>Nat.le_refl _
 | .cons nd ks r=>by have:=len_size r;show r.len+1≤1+ks.size+r.size;omega
theorem lay_one' (names:List (List UInt8)) (x:Pt) (i:Nat):layF names (.one x) i={ fixN names x.nd with kids:=x.kids.idx (i+1) } :: layF names x.kids (i+1):=layF_one names x i
theorem own_cellsG_at {W:World} {e b c:Nat} (ho:W.ownsRow base e 10 (.slice (some ⟨b,0,none⟩) n c) n xs) (hi:i<n):(∃ u,W.cell? ⟨b,i*10+9,none⟩=some u)∧W.frozen? ⟨b,i*10+9,none⟩=false:=by
 obtain ⟨b',c',e2,-,-,-,-,hc⟩:=own_cellsG ho (by omega)
 injection e2 with e3 e4 e5
 injection e3 with e6
 injection e6 with e7
 subst e7
 have hl:i*10+9<xs.length:=by rw [ho.1];omega
 exact ⟨⟨_,(hc _ _ (List.getElem?_eq_getElem hl)).1⟩,(hc _ _ (List.getElem?_eq_getElem hl)).2⟩
theorem lay_plain (h:Rd bs A cap w0 rb nest st nv w) (base:Nat) (hrb:rb<base) (hnv:∀ k,nv.ownBlock=some k→k<base) (hbase:base≤w.heap.size) (P:Nat→Prop) (hP:∀ k,P k→k<base) (x:Pt) (xv:Value) (hx:PtV P w x xv)
  (l:List Nd) (i:Nat) (hil:l.length=i) (v:Value) (xs:List Value) (kb:List (Option Nat)) (ho:w.ownsRow base 49 10 v i xs) (hN:NL P base w l xs kb) (hd:Diff kb) (h4:x.nd.kind≠4) (hlen:i+(1+x.kids.size)≤20000)
  (CL:LayC bs A cap w0 rb nest st nv P base x.kids.size) :
  Calls Tryz.prog 33 #[Value.pointer (some ⟨rb,0,none⟩),v,xv] w (LayG st.names P base l i v kb x w):=by
 obtain ⟨L,lc,K,kc,rfl,hset,hkv⟩:=hx
 obtain ⟨An,cn,rfl⟩:∃ An cn,v=.slice An i cn:=by
  rcases ho.2 with ⟨e,h0⟩|⟨b,c,cur,e,-⟩
  ·rw [h0];exact ⟨_,_,e⟩
  ·exact ⟨_,_,e⟩
 unfold ptN ptC
 have hb0:Below w.heap.size w (w.alloc (.cells (pu x.nd.kind x.nd.from_ x.nd.to_ x.nd.num x.nd.mn x.nd.mx x.nd.mode x.nd.name L x.nd.set.length lc K x.kids.len kc) 78)):=(Below.refl w.heap.size w).alloc (Nat.le_refl _) _
 have HB0:=hide hb0
 have H:=hide h
 have HS:=hide hset
 have HKV:=hide hkv
 have HO:=hide (ho.alloc (.cells (pu x.nd.kind x.nd.from_ x.nd.to_ x.nd.num x.nd.mn x.nd.mx x.nd.mode x.nd.name L x.nd.set.length lc K x.kids.len kc) 78))
 have HBX:=hide (Blk.new w 78 (pu x.nd.kind x.nd.from_ x.nd.to_ x.nd.num x.nd.mn x.nd.mx x.nd.mode x.nd.name L x.nd.set.length lc K x.kids.len kc))
 have HNX:=hide (NL.keep (Q:=P) (w':=(w.alloc (.cells (pu x.nd.kind x.nd.from_ x.nd.to_ x.nd.num x.nd.mn x.nd.mx x.nd.mode x.nd.name L x.nd.set.length lc K x.kids.len kc) 78))) hb0.size (fun k hk hP=>⟨hb0.block k hk,hP⟩) (fun k hm=>hb0.block k (NL.lt hN k hm)) hN)
 have HD:=hide hd
 have HVN:=hide (show ∀ k,(Value.slice An i cn).ownBlock=some k→base≤k∧k<w.heap.size from fun k e=>own_lt ho e)
 have HKB:=hide (show ∀ k,some k∈kb→base≤k∧k<w.heap.size from fun k e=>⟨NL.ge hN k e,NL.lt hN k e⟩)
 have HIL:=hide hil
 have CL:=hide CL
 have HNV:=hide hnv
 have HP:=hide hP
 have hk4:(x.nd.kind==4)=false:=by rw [beq_eq_false_iff_ne];exact h4
 have HF:=hide (show fixN st.names x.nd=x.nd by unfold fixN;rw [if_neg (fun e=>h4 e.1)])
 clear h4
 clear h hset hkv ho hN hd hb0 hil hnv hP
 go_enter Tryz.func33,Tryz.ntmps33
 go_wp2_with (at_builtin;refine wp_app_nd (base:=base) (n:=i) (xs:=xs) (v:=.slice An i cn) rfl (by simp [Value.oneCell']) rfl rfl rfl rfl (by simp) HO.1 (by simp;omega) (by omega) ?_;intro v1 w1 hv1 ho1 ha1 hb1;have HV1:=hide hv1;have HO1:=hide ho1;have HA1:=hide ha1;have HB1:=hide hb1;have hbx1:Blk w1 w.heap.size 78 (pu x.nd.kind x.nd.from_ x.nd.to_ x.nd.num x.nd.mn x.nd.mx x.nd.mode x.nd.name L x.nd.set.length lc K x.kids.len kc):=(ha1.block w.heap.size (by simp) (fun e=>by have:=HVN.1 _ e;omega)).trans HBX.1;have HBX1:=hide hbx1;obtain ⟨⟨p0,p1,p2,p3,p4,p5,p6,p7,p8,p9,p10⟩,-⟩:=cells11 hbx1;clear hv1 ho1 ha1 hb1 hbx1)
 have HKP1:=hide (Kp.of_app (kb:=kb) HA1.1 HB1.1)
 have hsz1:=HA1.1.size
 have hszw:w.heap.size+1≤w1.heap.size:=by rw [World.size_alloc] at hsz1;exact hsz1
 have hbel1:Below base w w1:=(HB0.1.mono hbase).trans (HKP1.1.below (fun k e=>(HVN.1 k e).1) (fun k e=>(HKB.1 k e).1) (by rw [World.size_alloc];omega))
 have HN1:=hide (show NL P base w1 (l++[{ x.nd with kids:=[] }]) _ (kb++[none]) from NL.app (nd:={ x.nd with kids:=[] }) (kv:=.slice none 0 0) (HS.1.keep hbel1.size (fun k hk hP=>⟨hbel1.block k (HP.1 k hP),hP⟩)) ⟨rfl,.inl ⟨rfl,rfl⟩⟩ (NL.keep (Q:=P) hsz1 (fun k hk hP=>⟨HA1.1.block k hk (fun e=>by have:=(HVN.1 k e).1;have:=HP.1 k hP;omega),hP⟩) (fun k hm=>HA1.1.block k (Nat.lt_of_lt_of_le (HKB.1 k hm).2 (by rw [World.size_alloc];omega)) (NL.two HO.1 HNX.1 k hm)) HNX.1))
 have HD1:=hide HD.1.app
 obtain ⟨g1,c1,rfl⟩:=HV1.1
 have HSTART:=hide (show LayR st.names P base l i x (.slice An i cn) kb (w.alloc (.cells (pu x.nd.kind x.nd.from_ x.nd.to_ x.nd.num x.nd.mn x.nd.mx x.nd.mode x.nd.name L x.nd.set.length lc K x.kids.len kc) 78)) w.heap.size #[.int .i64 x.nd.kind,.int .i64 x.nd.from_,.int .i64 x.nd.to_,.int .i64 x.nd.num,.int .i64 x.nd.mn,.int .i64 x.nd.mx,.int .i64 x.nd.mode,.string ⟨x.nd.name.toArray⟩,.slice L x.nd.set.length lc,.slice none 0 0,.slice K x.kids.len kc] (.int .i64 0) (.slice (some ⟨g1,0,none⟩) (i+1) c1) w1 from lrel_start HO1.1 HN1.1 HD1.1 HKP1.1 HBX1.1 (by rw [HF.1]))
 clear HA1 HB1 HNX HO HBX
 clear p0 p1 p2 p3 p4 p5 p6 p7 p8 p9 p10
 go_loopw [43,1] (fun cnt v wr=>LayR st.names P base l i x (.slice An i cn) kb (w.alloc (.cells (pu x.nd.kind x.nd.from_ x.nd.to_ x.nd.num x.nd.mn x.nd.mx x.nd.mode x.nd.name L x.nd.set.length lc K x.kids.len kc) 78)) w.heap.size #[.int .i64 x.nd.kind,.int .i64 x.nd.from_,.int .i64 x.nd.to_,.int .i64 x.nd.num,.int .i64 x.nd.mn,.int .i64 x.nd.mx,.int .i64 x.nd.mode,.string ⟨x.nd.name.toArray⟩,.slice L x.nd.set.length lc,.slice none 0 0,.slice K x.kids.len kc] cnt v wr) (fun cnt _ _=>x.kids.len-(intOf cnt).toNat)
 case atStart=>exact HSTART.1
 case round=>
  obtain ⟨j,n,xs,kb',hcnt,hj,hn,ho,hN,hd,hk,hb⟩:=hrel
  subst hcnt
  go_hideQ
  have hbw:Below base w wr:=(HB0.1.mono hbase).trans (hk.below (fun k e=>(HVN.1 k e).1) (fun k e=>(HKB.1 k e).1) (by rw [World.size_alloc];omega))
  have hkW:=hk.size
  have hwS:w.heap.size+1≤wr.heap.size:=by rw [World.size_alloc] at hkW;exact hkW
  have HKR:=hide hk
  have HBW:=hide hbw
  have HBR:=hide hb
  have HOR:=hide ho
  have HNR:=hide hN
  have HDR:=hide hd
  have HNN:=hide hn
  clear HSTART
  by_cases hin:j<x.kids.len
  ·obtain ⟨y,hy⟩:=F.at_some x.kids j hin
   have HY:=hide hy
   have hys:=F.at_size x.kids j y hy
   have hsm:=F.take_next x.kids j y hy
   have hts:=F.take_size x.kids (j+1)
   have hsz:(x.kids.take (j+1)).size=(x.kids.take j).size+(1+y.kids.size):=by rw [hsm,F.app_size]
   have hKW:=HKV.1.keep hbw.size (fun k hk hP=>⟨hbw.block k (HP.1 k hP),hP⟩)
   obtain ⟨b',o',hKe,hPb,hbl,hrow⟩:∃ b' o',K=some ⟨b',o',none⟩∧P b'∧b'<wr.heap.size∧Row P wr x.kids b' o':=by
    rcases hKW.2.2 with ⟨e,-,-⟩|e
    ·rw [e] at hin;exact absurd hin (by simp [F.len])
    ·exact e
   subst hKe
   obtain ⟨L2,lc2,K2,kc2,hat,hset2,hkv2⟩:=hrow.at hy
   have HS2:=hide hset2
   have HK2:=hide hkv2
   have k0:=hat 0 (.int .i64 y.nd.kind) rfl
   have k1:=hat 1 (.int .i64 y.nd.from_) rfl
   have k2:=hat 2 (.int .i64 y.nd.to_) rfl
   have k3:=hat 3 (.int .i64 y.nd.num) rfl
   have k4:=hat 4 (.int .i64 y.nd.mn) rfl
   have k5:=hat 5 (.int .i64 y.nd.mx) rfl
   have k6:=hat 6 (.int .i64 y.nd.mode) rfl
   have k7:=hat 7 (.string ⟨y.nd.name.toArray⟩) rfl
   have k8:=hat 8 (.slice L2 y.nd.set.length lc2) rfl
   have k9:=hat 9 (.slice none 0 0) rfl
   have k10:=hat 10 (.slice K2 y.kids.len kc2) rfl
   rw [Nat.add_zero] at k0
   obtain ⟨b,c,hv,hbb,hbge,hnc,hcm,hcs⟩:=own_cellsG ho (by omega)
   subst hv
   obtain ⟨kv,hxk,hkbk,hko,hstep⟩:=NL.kid (Q:=P) hN hd
   rw [HIL.1] at hxk
   have HSTEP:=hide hstep
   have HKBK:=hide hkbk
   have HKO:=hide hko
   obtain ⟨e9,f9⟩:=hcs _ _ hxk
   have hb1:Below wr.heap.size wr (wr.alloc (.cells (pu y.nd.kind y.nd.from_ y.nd.to_ y.nd.num y.nd.mn y.nd.mx y.nd.mode y.nd.name L2 y.nd.set.length lc2 K2 y.kids.len kc2) 78)):=(Below.refl wr.heap.size wr).alloc (Nat.le_refl _) _
   have HB1W:=hide hb1
   have e9':(wr.alloc (.cells (pu y.nd.kind y.nd.from_ y.nd.to_ y.nd.num y.nd.mn y.nd.mx y.nd.mode y.nd.name L2 y.nd.set.length lc2 K2 y.kids.len kc2) 78)).cell? ⟨b,i*10+9,none⟩=some kv:=(World.cell?_alloc_lt wr _ ⟨b,i*10+9,none⟩ hbb).trans e9
   have HGY:=hide (Blk.new wr 78 (pu y.nd.kind y.nd.from_ y.nd.to_ y.nd.num y.nd.mn y.nd.mx y.nd.mode y.nd.name L2 y.nd.set.length lc2 K2 y.kids.len kc2))
   have hin1:(j:Int)<(x.kids.len:Int):=by omega
   have hdec:decide ((j:Int)<(x.kids.len:Int))=true:=decide_eq_true hin1
   have hii:(i:Int)<(n:Int):=by omega
   have hii':i<n:=by omega
   have hkl:x.kids.len≤kc:=hKW.1
   have hjn:n≤20000:=by omega
   have hkvl:(x.kids.take j).len=j:=F.take_len x.kids j hj
   have hjj:j≤20000:=by
    have:=F.idx_len (x.kids.take j) 0
    have:=len_size x.kids
    omega
   have hw1:IntKind.i64.wrap ((j:Int)+1)=(j:Int)+1:=Rs.wrap_id _ (by omega) (by omega)
   have HKO1:=hide (HKO.1.alloc (.cells (pu y.nd.kind y.nd.from_ y.nd.to_ y.nd.num y.nd.mn y.nd.mx y.nd.mode y.nd.name L2 y.nd.set.length lc2 K2 y.kids.len kc2) 78))
   have HJ:=hide (show j+1≤x.kids.len from hin)
   have HNUM:=hide (show n+(1+y.kids.size)=i+(1+(x.kids.take (j+1)).size)∧n+(1+y.kids.size)≤20000 from by omega)
   have HYS:=hide hys
   have HKL:=hide hkvl
   have HSM:=hide hsm
   have hklm:({ fixN st.names x.nd with kids:=(x.kids.take j).idx (i+1) }:Nd).kids.length=j:=(show ((x.kids.take j).idx (i+1)).length=j from (F.idx_len _ _).trans hkvl)
   rw [hklm] at HKO1
   clear hk hb ho hN hd hn hbw hKW hrow hat hset2 hkv2 hcs hxk hstep hkbk hko e9 f9 hb1 hy hys hsm hts hsz hkvl hklm
   go_wp2_with (at_builtin;refine wp_app_ki (base:=base) (n:=j) (xs:=((x.kids.take j).idx (i+1)).map Mem.i64) (v:=kv) rfl (by simp [Value.oneCell']) rfl rfl rfl rfl (by simp) HKO1.1 (by simp;omega) (by omega) ?_;intro v5 w5 hv5 ho5 ha5 hb5;obtain ⟨g5,c5,rfl⟩:=hv5;have hst:=kid_step (W1:=(wr.alloc (.cells (pu y.nd.kind y.nd.from_ y.nd.to_ y.nd.num y.nd.mn y.nd.mx y.nd.mode y.nd.name L2 y.nd.set.length lc2 K2 y.kids.len kc2) 78))) (W2:=w5) (kv:=kv) (z:=(n:Int)) HP.1 (Nat.le_trans hbase HBW.1.size) HNR.1 HDR.1 HKBK.1 HSTEP.1 HOR.1 rfl HB1W.1 ha5 (show w5.ownsRow base 3 1 _ (((x.kids.take j).idx (i+1)).length+1) _ from by rw [F.idx_len,HKL.1];exact ho5) hb5;rw [HIL.1] at hst;have HST:=hide hst;obtain ⟨⟨u9,s9⟩,s9f⟩:=own_cellsG_at hst.2.2.2.2.2 hii';obtain ⟨⟨m0,m1,m2,m3,m4,m5,m6,m7,m8,m9,m10⟩,-⟩:=cells11 (hst.2.2.2.2.1 _ _ _ HGY.1 (Nat.le_refl _));clear hst ho5 ha5 hb5 e9')
   have hb3:Below base wr (w5.setCell ⟨b,i*10+9,none⟩ (.slice (some ⟨g5,0,none⟩) (j+1) c5)):=HST.1.2.2.1.below (fun k e=>(own_lt HOR.1 e).1) (fun k e=>NL.ge HNR.1 k e) (Nat.le_trans hbase HBW.1.size)
   have hbw3:=HBW.1.trans hb3
   have hln:(l++{ fixN st.names x.nd with kids:=(x.kids.take j).idx (i+1)++[(n:Int)] } :: layF st.names (x.kids.take j) (i+1)).length=n:=by
    rw [List.length_append,List.length_cons,layF_size,HIL.1,HNN.1];omega
   have hpt:PtV P (w5.setCell ⟨b,i*10+9,none⟩ (.slice (some ⟨g5,0,none⟩) (j+1) c5)) y (.agg #[.int .i64 y.nd.kind,.int .i64 y.nd.from_,.int .i64 y.nd.to_,.int .i64 y.nd.num,.int .i64 y.nd.mn,.int .i64 y.nd.mx,.int .i64 y.nd.mode,.string ⟨y.nd.name.toArray⟩,.slice L2 y.nd.set.length lc2,.slice none 0 0,.slice K2 y.kids.len kc2]):=⟨L2,lc2,K2,kc2,rfl,HS2.1.keep hb3.size (fun k hk hp=>⟨hb3.block k (HP.1 k hp),hp⟩),HK2.1.keep hb3.size (fun k hk hp=>⟨hb3.block k (HP.1 k hp),hp⟩)⟩
   have hrd:Rd bs A cap w0 rb nest st nv (w5.setCell ⟨b,i*10+9,none⟩ (.slice (some ⟨g5,0,none⟩) (j+1) c5)):=H.1.on hbw3 hrb HNV.1
   clear s9 s9f m0 m1 m2 m3 m4 m5 m6 m7 m8 m9 m10
   refine (CL.1 y HYS.1 _ _ (l++{ fixN st.names x.nd with kids:=(x.kids.take j).idx (i+1)++[(n:Int)] } :: layF st.names (x.kids.take j) (i+1)) n _ _ _ hln hrd (Nat.le_trans hbase hbw3.size) hpt HST.1.2.2.2.1 HST.1.1 HST.1.2.1 HNUM.1.2).mono ?_
   rintro e w4 ⟨v4,xs4,kb4,rfl,ho4,hN4,hd4,hk4⟩
   have hR:LayR st.names P base l i x (.slice An i cn) kb (w.alloc (.cells (pu x.nd.kind x.nd.from_ x.nd.to_ x.nd.num x.nd.mn x.nd.mx x.nd.mode x.nd.name L x.nd.set.length lc (some ⟨b',o',none⟩) x.kids.len kc) 78)) w.heap.size #[.int .i64 x.nd.kind,.int .i64 x.nd.from_,.int .i64 x.nd.to_,.int .i64 x.nd.num,.int .i64 x.nd.mn,.int .i64 x.nd.mx,.int .i64 x.nd.mode,.string ⟨x.nd.name.toArray⟩,.slice L x.nd.set.length lc,.slice none 0 0,.slice (some ⟨b',o',none⟩) x.kids.len kc] (.int .i64 ((j:Int)+1)) v4 w4:=by
    refine ⟨j+1,n+(1+y.kids.size),xs4,kb4,by push_cast;rfl,HJ.1,HNUM.1.1,ho4,?_,hd4,(HKR.1.trans HST.1.2.2.1).trans hk4,kp_blk HST.1.2.2.2.1 HST.1.1 hk4 (kp_blk HOR.1 HNR.1 HST.1.2.2.1 HBR.1)⟩
    have e1:i+1+(x.kids.take j).size=n:=by have:=HNN.1;omega
    rw [HSM.1,F.app_idx,layF_app,e1,← List.cons_append,← List.append_assoc]
    exact hN4
   have HR:=hide hR
   clear hR ho4 hN4 hd4 hk4 hb3 hbw3 hln hpt hrd HST CL
   go_wp2_with fail
   have hR:=HR.1
   have hme:x.kids.len-(intOf (.int .i64 ((j:Int)+1))).toNat<x.kids.len-(intOf (.int .i64 (j:Int))).toNat:=by show x.kids.len-((j:Int)+1).toNat<x.kids.len-(j:Int).toNat;omega
   first|exact ⟨hR,hme⟩|(go_roundw;all_goals first|exact hR|exact hme|omega)
  ·have hjl:j=x.kids.len:=by omega
   have hnot:decide ((j:Int)<(x.kids.len:Int))=false:=decide_eq_false (by omega)
   have hnot2:¬ ((j:Int)<(x.kids.len:Int)):=by omega
   have HTA:=hide (show x.kids.take j=x.kids from by rw [hjl];exact F.take_all _)
   clear hk hb ho hN hd hn hbw hjl
   go_wp2_with fail
   go_ret
   have hta:=HTA.1
   have hn:=HNN.1
   have ho:=HOR.1
   have hN:=HNR.1
   rw [hta] at hn hN
   rw [hn] at ho
   have hkk:Kp (.slice An i cn) kb w _ kb' wr:=(Kp.of_below HB0.1).trans HKR.1
   refine ⟨_,xs,kb',rfl,ho,?_,HDR.1,hkk⟩
   rw [lay_one']
   exact hN
theorem lay_nameless (h:Rd bs A cap w0 rb nest st nv w) (base:Nat) (hrb:rb<base) (hnv:∀ k,nv.ownBlock=some k→k<base) (hbase:base≤w.heap.size) (P:Nat→Prop) (hP:∀ k,P k→k<base) (x:Pt) (xv:Value) (hx:PtV P w x xv)
  (l:List Nd) (i:Nat) (hil:l.length=i) (v:Value) (xs:List Value) (kb:List (Option Nat)) (ho:w.ownsRow base 49 10 v i xs) (hN:NL P base w l xs kb) (hd:Diff kb) (h4:x.nd.kind=4∧x.nd.name=[]) (hlen:i+(1+x.kids.size)≤20000)
  (CL:LayC bs A cap w0 rb nest st nv P base x.kids.size) :
  Calls Tryz.prog 33 #[Value.pointer (some ⟨rb,0,none⟩),v,xv] w (LayG st.names P base l i v kb x w):=by
 obtain ⟨L,lc,K,kc,rfl,hset,hkv⟩:=hx
 obtain ⟨An,cn,rfl⟩:∃ An cn,v=.slice An i cn:=by
  rcases ho.2 with ⟨e,h0⟩|⟨b,c,cur,e,-⟩
  ·rw [h0];exact ⟨_,_,e⟩
  ·exact ⟨_,_,e⟩
 unfold ptN ptC
 have hb0:Below w.heap.size w (w.alloc (.cells (pu x.nd.kind x.nd.from_ x.nd.to_ x.nd.num x.nd.mn x.nd.mx x.nd.mode x.nd.name L x.nd.set.length lc K x.kids.len kc) 78)):=(Below.refl w.heap.size w).alloc (Nat.le_refl _) _
 have HB0:=hide hb0
 have H:=hide h
 have HS:=hide hset
 have HKV:=hide hkv
 have HO:=hide (ho.alloc (.cells (pu x.nd.kind x.nd.from_ x.nd.to_ x.nd.num x.nd.mn x.nd.mx x.nd.mode x.nd.name L x.nd.set.length lc K x.kids.len kc) 78))
 have HBX:=hide (Blk.new w 78 (pu x.nd.kind x.nd.from_ x.nd.to_ x.nd.num x.nd.mn x.nd.mx x.nd.mode x.nd.name L x.nd.set.length lc K x.kids.len kc))
 have HNX:=hide (NL.keep (Q:=P) (w':=(w.alloc (.cells (pu x.nd.kind x.nd.from_ x.nd.to_ x.nd.num x.nd.mn x.nd.mx x.nd.mode x.nd.name L x.nd.set.length lc K x.kids.len kc) 78))) hb0.size (fun k hk hP=>⟨hb0.block k hk,hP⟩) (fun k hm=>hb0.block k (NL.lt hN k hm)) hN)
 have HD:=hide hd
 have HVN:=hide (show ∀ k,(Value.slice An i cn).ownBlock=some k→base≤k∧k<w.heap.size from fun k e=>own_lt ho e)
 have HKB:=hide (show ∀ k,some k∈kb→base≤k∧k<w.heap.size from fun k e=>⟨NL.ge hN k e,NL.lt hN k e⟩)
 have HIL:=hide hil
 have CL:=hide CL
 have HNV:=hide hnv
 have HP:=hide hP
 have hk4:(x.nd.kind==4)=true:=by rw [beq_iff_eq];exact h4.1
 have hnm:x.nd.name.isEmpty=true:=by rw [h4.2];rfl
 have hnm2:(x.nd.name==[])=true:=by rw [h4.2];rfl
 have HF:=hide (show fixN st.names x.nd=x.nd by unfold fixN;rw [if_neg (fun e=>e.2 h4.2)])
 clear h4
 clear h hset hkv ho hN hd hb0 hil hnv hP
 go_enter Tryz.func33,Tryz.ntmps33
 go_wp2_with (at_builtin;refine wp_app_nd (base:=base) (n:=i) (xs:=xs) (v:=.slice An i cn) rfl (by simp [Value.oneCell']) rfl rfl rfl rfl (by simp) HO.1 (by simp;omega) (by omega) ?_;intro v1 w1 hv1 ho1 ha1 hb1;have HV1:=hide hv1;have HO1:=hide ho1;have HA1:=hide ha1;have HB1:=hide hb1;have hbx1:Blk w1 w.heap.size 78 (pu x.nd.kind x.nd.from_ x.nd.to_ x.nd.num x.nd.mn x.nd.mx x.nd.mode x.nd.name L x.nd.set.length lc K x.kids.len kc):=(ha1.block w.heap.size (by simp) (fun e=>by have:=HVN.1 _ e;omega)).trans HBX.1;have HBX1:=hide hbx1;obtain ⟨⟨p0,p1,p2,p3,p4,p5,p6,p7,p8,p9,p10⟩,-⟩:=cells11 hbx1;clear hv1 ho1 ha1 hb1 hbx1)
 have HKP1:=hide (Kp.of_app (kb:=kb) HA1.1 HB1.1)
 have hsz1:=HA1.1.size
 have hszw:w.heap.size+1≤w1.heap.size:=by rw [World.size_alloc] at hsz1;exact hsz1
 have hbel1:Below base w w1:=(HB0.1.mono hbase).trans (HKP1.1.below (fun k e=>(HVN.1 k e).1) (fun k e=>(HKB.1 k e).1) (by rw [World.size_alloc];omega))
 have HN1:=hide (show NL P base w1 (l++[{ x.nd with kids:=[] }]) _ (kb++[none]) from NL.app (nd:={ x.nd with kids:=[] }) (kv:=.slice none 0 0) (HS.1.keep hbel1.size (fun k hk hP=>⟨hbel1.block k (HP.1 k hP),hP⟩)) ⟨rfl,.inl ⟨rfl,rfl⟩⟩ (NL.keep (Q:=P) hsz1 (fun k hk hP=>⟨HA1.1.block k hk (fun e=>by have:=(HVN.1 k e).1;have:=HP.1 k hP;omega),hP⟩) (fun k hm=>HA1.1.block k (Nat.lt_of_lt_of_le (HKB.1 k hm).2 (by rw [World.size_alloc];omega)) (NL.two HO.1 HNX.1 k hm)) HNX.1))
 have HD1:=hide HD.1.app
 obtain ⟨g1,c1,rfl⟩:=HV1.1
 have HSTART:=hide (show LayR st.names P base l i x (.slice An i cn) kb (w.alloc (.cells (pu x.nd.kind x.nd.from_ x.nd.to_ x.nd.num x.nd.mn x.nd.mx x.nd.mode x.nd.name L x.nd.set.length lc K x.kids.len kc) 78)) w.heap.size #[.int .i64 x.nd.kind,.int .i64 x.nd.from_,.int .i64 x.nd.to_,.int .i64 x.nd.num,.int .i64 x.nd.mn,.int .i64 x.nd.mx,.int .i64 x.nd.mode,.string ⟨x.nd.name.toArray⟩,.slice L x.nd.set.length lc,.slice none 0 0,.slice K x.kids.len kc] (.int .i64 0) (.slice (some ⟨g1,0,none⟩) (i+1) c1) w1 from lrel_start HO1.1 HN1.1 HD1.1 HKP1.1 HBX1.1 (by rw [HF.1]))
 clear HA1 HB1 HNX HO HBX
 clear p0 p1 p2 p3 p4 p5 p6 p7 p8 p9 p10
 go_loopw [43,1] (fun cnt v wr=>LayR st.names P base l i x (.slice An i cn) kb (w.alloc (.cells (pu x.nd.kind x.nd.from_ x.nd.to_ x.nd.num x.nd.mn x.nd.mx x.nd.mode x.nd.name L x.nd.set.length lc K x.kids.len kc) 78)) w.heap.size #[.int .i64 x.nd.kind,.int .i64 x.nd.from_,.int .i64 x.nd.to_,.int .i64 x.nd.num,.int .i64 x.nd.mn,.int .i64 x.nd.mx,.int .i64 x.nd.mode,.string ⟨x.nd.name.toArray⟩,.slice L x.nd.set.length lc,.slice none 0 0,.slice K x.kids.len kc] cnt v wr) (fun cnt _ _=>x.kids.len-(intOf cnt).toNat)
 case atStart=>exact HSTART.1
 case round=>
  obtain ⟨j,n,xs,kb',hcnt,hj,hn,ho,hN,hd,hk,hb⟩:=hrel
  subst hcnt
  go_hideQ
  have hbw:Below base w wr:=(HB0.1.mono hbase).trans (hk.below (fun k e=>(HVN.1 k e).1) (fun k e=>(HKB.1 k e).1) (by rw [World.size_alloc];omega))
  have hkW:=hk.size
  have hwS:w.heap.size+1≤wr.heap.size:=by rw [World.size_alloc] at hkW;exact hkW
  have HKR:=hide hk
  have HBW:=hide hbw
  have HBR:=hide hb
  have HOR:=hide ho
  have HNR:=hide hN
  have HDR:=hide hd
  have HNN:=hide hn
  clear HSTART
  by_cases hin:j<x.kids.len
  ·obtain ⟨y,hy⟩:=F.at_some x.kids j hin
   have HY:=hide hy
   have hys:=F.at_size x.kids j y hy
   have hsm:=F.take_next x.kids j y hy
   have hts:=F.take_size x.kids (j+1)
   have hsz:(x.kids.take (j+1)).size=(x.kids.take j).size+(1+y.kids.size):=by rw [hsm,F.app_size]
   have hKW:=HKV.1.keep hbw.size (fun k hk hP=>⟨hbw.block k (HP.1 k hP),hP⟩)
   obtain ⟨b',o',hKe,hPb,hbl,hrow⟩:∃ b' o',K=some ⟨b',o',none⟩∧P b'∧b'<wr.heap.size∧Row P wr x.kids b' o':=by
    rcases hKW.2.2 with ⟨e,-,-⟩|e
    ·rw [e] at hin;exact absurd hin (by simp [F.len])
    ·exact e
   subst hKe
   obtain ⟨L2,lc2,K2,kc2,hat,hset2,hkv2⟩:=hrow.at hy
   have HS2:=hide hset2
   have HK2:=hide hkv2
   have k0:=hat 0 (.int .i64 y.nd.kind) rfl
   have k1:=hat 1 (.int .i64 y.nd.from_) rfl
   have k2:=hat 2 (.int .i64 y.nd.to_) rfl
   have k3:=hat 3 (.int .i64 y.nd.num) rfl
   have k4:=hat 4 (.int .i64 y.nd.mn) rfl
   have k5:=hat 5 (.int .i64 y.nd.mx) rfl
   have k6:=hat 6 (.int .i64 y.nd.mode) rfl
   have k7:=hat 7 (.string ⟨y.nd.name.toArray⟩) rfl
   have k8:=hat 8 (.slice L2 y.nd.set.length lc2) rfl
   have k9:=hat 9 (.slice none 0 0) rfl
   have k10:=hat 10 (.slice K2 y.kids.len kc2) rfl
   rw [Nat.add_zero] at k0
   obtain ⟨b,c,hv,hbb,hbge,hnc,hcm,hcs⟩:=own_cellsG ho (by omega)
   subst hv
   obtain ⟨kv,hxk,hkbk,hko,hstep⟩:=NL.kid (Q:=P) hN hd
   rw [HIL.1] at hxk
   have HSTEP:=hide hstep
   have HKBK:=hide hkbk
   have HKO:=hide hko
   obtain ⟨e9,f9⟩:=hcs _ _ hxk
   have hb1:Below wr.heap.size wr (wr.alloc (.cells (pu y.nd.kind y.nd.from_ y.nd.to_ y.nd.num y.nd.mn y.nd.mx y.nd.mode y.nd.name L2 y.nd.set.length lc2 K2 y.kids.len kc2) 78)):=(Below.refl wr.heap.size wr).alloc (Nat.le_refl _) _
   have HB1W:=hide hb1
   have e9':(wr.alloc (.cells (pu y.nd.kind y.nd.from_ y.nd.to_ y.nd.num y.nd.mn y.nd.mx y.nd.mode y.nd.name L2 y.nd.set.length lc2 K2 y.kids.len kc2) 78)).cell? ⟨b,i*10+9,none⟩=some kv:=(World.cell?_alloc_lt wr _ ⟨b,i*10+9,none⟩ hbb).trans e9
   have HGY:=hide (Blk.new wr 78 (pu y.nd.kind y.nd.from_ y.nd.to_ y.nd.num y.nd.mn y.nd.mx y.nd.mode y.nd.name L2 y.nd.set.length lc2 K2 y.kids.len kc2))
   have hin1:(j:Int)<(x.kids.len:Int):=by omega
   have hdec:decide ((j:Int)<(x.kids.len:Int))=true:=decide_eq_true hin1
   have hii:(i:Int)<(n:Int):=by omega
   have hii':i<n:=by omega
   have hkl:x.kids.len≤kc:=hKW.1
   have hjn:n≤20000:=by omega
   have hkvl:(x.kids.take j).len=j:=F.take_len x.kids j hj
   have hjj:j≤20000:=by
    have:=F.idx_len (x.kids.take j) 0
    have:=len_size x.kids
    omega
   have hw1:IntKind.i64.wrap ((j:Int)+1)=(j:Int)+1:=Rs.wrap_id _ (by omega) (by omega)
   have HKO1:=hide (HKO.1.alloc (.cells (pu y.nd.kind y.nd.from_ y.nd.to_ y.nd.num y.nd.mn y.nd.mx y.nd.mode y.nd.name L2 y.nd.set.length lc2 K2 y.kids.len kc2) 78))
   have HJ:=hide (show j+1≤x.kids.len from hin)
   have HNUM:=hide (show n+(1+y.kids.size)=i+(1+(x.kids.take (j+1)).size)∧n+(1+y.kids.size)≤20000 from by omega)
   have HYS:=hide hys
   have HKL:=hide hkvl
   have HSM:=hide hsm
   have hklm:({ fixN st.names x.nd with kids:=(x.kids.take j).idx (i+1) }:Nd).kids.length=j:=(show ((x.kids.take j).idx (i+1)).length=j from (F.idx_len _ _).trans hkvl)
   rw [hklm] at HKO1
   clear hk hb ho hN hd hn hbw hKW hrow hat hset2 hkv2 hcs hxk hstep hkbk hko e9 f9 hb1 hy hys hsm hts hsz hkvl hklm
   go_wp2_with (at_builtin;refine wp_app_ki (base:=base) (n:=j) (xs:=((x.kids.take j).idx (i+1)).map Mem.i64) (v:=kv) rfl (by simp [Value.oneCell']) rfl rfl rfl rfl (by simp) HKO1.1 (by simp;omega) (by omega) ?_;intro v5 w5 hv5 ho5 ha5 hb5;obtain ⟨g5,c5,rfl⟩:=hv5;have hst:=kid_step (W1:=(wr.alloc (.cells (pu y.nd.kind y.nd.from_ y.nd.to_ y.nd.num y.nd.mn y.nd.mx y.nd.mode y.nd.name L2 y.nd.set.length lc2 K2 y.kids.len kc2) 78))) (W2:=w5) (kv:=kv) (z:=(n:Int)) HP.1 (Nat.le_trans hbase HBW.1.size) HNR.1 HDR.1 HKBK.1 HSTEP.1 HOR.1 rfl HB1W.1 ha5 (show w5.ownsRow base 3 1 _ (((x.kids.take j).idx (i+1)).length+1) _ from by rw [F.idx_len,HKL.1];exact ho5) hb5;rw [HIL.1] at hst;have HST:=hide hst;obtain ⟨⟨u9,s9⟩,s9f⟩:=own_cellsG_at hst.2.2.2.2.2 hii';obtain ⟨⟨m0,m1,m2,m3,m4,m5,m6,m7,m8,m9,m10⟩,-⟩:=cells11 (hst.2.2.2.2.1 _ _ _ HGY.1 (Nat.le_refl _));clear hst ho5 ha5 hb5 e9')
   have hb3:Below base wr (w5.setCell ⟨b,i*10+9,none⟩ (.slice (some ⟨g5,0,none⟩) (j+1) c5)):=HST.1.2.2.1.below (fun k e=>(own_lt HOR.1 e).1) (fun k e=>NL.ge HNR.1 k e) (Nat.le_trans hbase HBW.1.size)
   have hbw3:=HBW.1.trans hb3
   have hln:(l++{ fixN st.names x.nd with kids:=(x.kids.take j).idx (i+1)++[(n:Int)] } :: layF st.names (x.kids.take j) (i+1)).length=n:=by
    rw [List.length_append,List.length_cons,layF_size,HIL.1,HNN.1];omega
   have hpt:PtV P (w5.setCell ⟨b,i*10+9,none⟩ (.slice (some ⟨g5,0,none⟩) (j+1) c5)) y (.agg #[.int .i64 y.nd.kind,.int .i64 y.nd.from_,.int .i64 y.nd.to_,.int .i64 y.nd.num,.int .i64 y.nd.mn,.int .i64 y.nd.mx,.int .i64 y.nd.mode,.string ⟨y.nd.name.toArray⟩,.slice L2 y.nd.set.length lc2,.slice none 0 0,.slice K2 y.kids.len kc2]):=⟨L2,lc2,K2,kc2,rfl,HS2.1.keep hb3.size (fun k hk hp=>⟨hb3.block k (HP.1 k hp),hp⟩),HK2.1.keep hb3.size (fun k hk hp=>⟨hb3.block k (HP.1 k hp),hp⟩)⟩
   have hrd:Rd bs A cap w0 rb nest st nv (w5.setCell ⟨b,i*10+9,none⟩ (.slice (some ⟨g5,0,none⟩) (j+1) c5)):=H.1.on hbw3 hrb HNV.1
   clear s9 s9f m0 m1 m2 m3 m4 m5 m6 m7 m8 m9 m10
   refine (CL.1 y HYS.1 _ _ (l++{ fixN st.names x.nd with kids:=(x.kids.take j).idx (i+1)++[(n:Int)] } :: layF st.names (x.kids.take j) (i+1)) n _ _ _ hln hrd (Nat.le_trans hbase hbw3.size) hpt HST.1.2.2.2.1 HST.1.1 HST.1.2.1 HNUM.1.2).mono ?_
   rintro e w4 ⟨v4,xs4,kb4,rfl,ho4,hN4,hd4,hk4⟩
   have hR:LayR st.names P base l i x (.slice An i cn) kb (w.alloc (.cells (pu x.nd.kind x.nd.from_ x.nd.to_ x.nd.num x.nd.mn x.nd.mx x.nd.mode x.nd.name L x.nd.set.length lc (some ⟨b',o',none⟩) x.kids.len kc) 78)) w.heap.size #[.int .i64 x.nd.kind,.int .i64 x.nd.from_,.int .i64 x.nd.to_,.int .i64 x.nd.num,.int .i64 x.nd.mn,.int .i64 x.nd.mx,.int .i64 x.nd.mode,.string ⟨x.nd.name.toArray⟩,.slice L x.nd.set.length lc,.slice none 0 0,.slice (some ⟨b',o',none⟩) x.kids.len kc] (.int .i64 ((j:Int)+1)) v4 w4:=by
    refine ⟨j+1,n+(1+y.kids.size),xs4,kb4,by push_cast;rfl,HJ.1,HNUM.1.1,ho4,?_,hd4,(HKR.1.trans HST.1.2.2.1).trans hk4,kp_blk HST.1.2.2.2.1 HST.1.1 hk4 (kp_blk HOR.1 HNR.1 HST.1.2.2.1 HBR.1)⟩
    have e1:i+1+(x.kids.take j).size=n:=by have:=HNN.1;omega
    rw [HSM.1,F.app_idx,layF_app,e1,← List.cons_append,← List.append_assoc]
    exact hN4
   have HR:=hide hR
   clear hR ho4 hN4 hd4 hk4 hb3 hbw3 hln hpt hrd HST CL
   go_wp2_with fail
   have hR:=HR.1
   have hme:x.kids.len-(intOf (.int .i64 ((j:Int)+1))).toNat<x.kids.len-(intOf (.int .i64 (j:Int))).toNat:=by show x.kids.len-((j:Int)+1).toNat<x.kids.len-(j:Int).toNat;omega
   first|exact ⟨hR,hme⟩|(go_roundw;all_goals first|exact hR|exact hme|omega)
  ·have hjl:j=x.kids.len:=by omega
   have hnot:decide ((j:Int)<(x.kids.len:Int))=false:=decide_eq_false (by omega)
   have hnot2:¬ ((j:Int)<(x.kids.len:Int)):=by omega
   have HTA:=hide (show x.kids.take j=x.kids from by rw [hjl];exact F.take_all _)
   clear hk hb ho hN hd hn hbw hjl
   go_wp2_with fail
   go_ret
   have hta:=HTA.1
   have hn:=HNN.1
   have ho:=HOR.1
   have hN:=HNR.1
   rw [hta] at hn hN
   rw [hn] at ho
   have hkk:Kp (.slice An i cn) kb w _ kb' wr:=(Kp.of_below HB0.1).trans HKR.1
   refine ⟨_,xs,kb',rfl,ho,?_,HDR.1,hkk⟩
   rw [lay_one']
   exact hN
theorem lay_named (h:Rd bs A cap w0 rb nest st nv w) (base:Nat) (hrb:rb<base) (hnv:∀ k,nv.ownBlock=some k→k<base) (hbase:base≤w.heap.size) (P:Nat→Prop) (hP:∀ k,P k→k<base) (x:Pt) (xv:Value) (hx:PtV P w x xv)
  (l:List Nd) (i:Nat) (hil:l.length=i) (v:Value) (xs:List Value) (kb:List (Option Nat)) (ho:w.ownsRow base 49 10 v i xs) (hN:NL P base w l xs kb) (hd:Diff kb) (h4:x.nd.kind=4∧x.nd.name≠[]) (hlen:i+(1+x.kids.size)≤20000)
  (CL:LayC bs A cap w0 rb nest st nv P base x.kids.size) :
  Calls Tryz.prog 33 #[Value.pointer (some ⟨rb,0,none⟩),v,xv] w (LayG st.names P base l i v kb x w):=by
 obtain ⟨L,lc,K,kc,rfl,hset,hkv⟩:=hx
 obtain ⟨An,cn,rfl⟩:∃ An cn,v=.slice An i cn:=by
  rcases ho.2 with ⟨e,h0⟩|⟨b,c,cur,e,-⟩
  ·rw [h0];exact ⟨_,_,e⟩
  ·exact ⟨_,_,e⟩
 unfold ptN ptC
 have hb0:Below w.heap.size w (w.alloc (.cells (pu x.nd.kind x.nd.from_ x.nd.to_ x.nd.num x.nd.mn x.nd.mx x.nd.mode x.nd.name L x.nd.set.length lc K x.kids.len kc) 78)):=(Below.refl w.heap.size w).alloc (Nat.le_refl _) _
 have HB0:=hide hb0
 have H:=hide h
 have HS:=hide hset
 have HKV:=hide hkv
 have HO:=hide (ho.alloc (.cells (pu x.nd.kind x.nd.from_ x.nd.to_ x.nd.num x.nd.mn x.nd.mx x.nd.mode x.nd.name L x.nd.set.length lc K x.kids.len kc) 78))
 have HBX:=hide (Blk.new w 78 (pu x.nd.kind x.nd.from_ x.nd.to_ x.nd.num x.nd.mn x.nd.mx x.nd.mode x.nd.name L x.nd.set.length lc K x.kids.len kc))
 have HNX:=hide (NL.keep (Q:=P) (w':=(w.alloc (.cells (pu x.nd.kind x.nd.from_ x.nd.to_ x.nd.num x.nd.mn x.nd.mx x.nd.mode x.nd.name L x.nd.set.length lc K x.kids.len kc) 78))) hb0.size (fun k hk hP=>⟨hb0.block k hk,hP⟩) (fun k hm=>hb0.block k (NL.lt hN k hm)) hN)
 have HD:=hide hd
 have HVN:=hide (show ∀ k,(Value.slice An i cn).ownBlock=some k→base≤k∧k<w.heap.size from fun k e=>own_lt ho e)
 have HKB:=hide (show ∀ k,some k∈kb→base≤k∧k<w.heap.size from fun k e=>⟨NL.ge hN k e,NL.lt hN k e⟩)
 have HIL:=hide hil
 have CL:=hide CL
 have HNV:=hide hnv
 have HP:=hide hP
 have hk4:(x.nd.kind==4)=true:=by rw [beq_iff_eq];exact h4.1
 have hnm:x.nd.name.isEmpty=false:=by cases hq:x.nd.name with
  | nil=>exact absurd hq h4.2
  | cons a b=>rfl
 have hnm2:(x.nd.name==[])=false:=by rw [beq_eq_false_iff_ne];exact h4.2
 have HF:=hide (show fixN st.names x.nd={ x.nd with num:=(idxOf x.nd.name st.names 0:Int) } by unfold fixN;rw [if_pos h4])
 clear h4
 clear h hset hkv ho hN hd hb0 hil hnv hP
 go_enter Tryz.func33,Tryz.ntmps33
 go_wp2_with (at_builtin;refine wp_app_nd (base:=base) (n:=i) (xs:=xs) (v:=.slice An i cn) rfl (by simp [Value.oneCell']) rfl rfl rfl rfl (by simp) HO.1 (by simp;omega) (by omega) ?_;intro v1 w1 hv1 ho1 ha1 hb1;have HV1:=hide hv1;have HO1:=hide ho1;have HA1:=hide ha1;have HB1:=hide hb1;have hbx1:Blk w1 w.heap.size 78 (pu x.nd.kind x.nd.from_ x.nd.to_ x.nd.num x.nd.mn x.nd.mx x.nd.mode x.nd.name L x.nd.set.length lc K x.kids.len kc):=(ha1.block w.heap.size (by simp) (fun e=>by have:=HVN.1 _ e;omega)).trans HBX.1;have HBX1:=hide hbx1;obtain ⟨⟨p0,p1,p2,p3,p4,p5,p6,p7,p8,p9,p10⟩,-⟩:=cells11 hbx1;clear hv1 ho1 ha1 hb1 hbx1)
 have HKP1:=hide (Kp.of_app (kb:=kb) HA1.1 HB1.1)
 have hsz1:=HA1.1.size
 have hszw:w.heap.size+1≤w1.heap.size:=by rw [World.size_alloc] at hsz1;exact hsz1
 have hbel1:Below base w w1:=(HB0.1.mono hbase).trans (HKP1.1.below (fun k e=>(HVN.1 k e).1) (fun k e=>(HKB.1 k e).1) (by rw [World.size_alloc];omega))
 have HN1:=hide (show NL P base w1 (l++[{ x.nd with kids:=[] }]) _ (kb++[none]) from NL.app (nd:={ x.nd with kids:=[] }) (kv:=.slice none 0 0) (HS.1.keep hbel1.size (fun k hk hP=>⟨hbel1.block k (HP.1 k hP),hP⟩)) ⟨rfl,.inl ⟨rfl,rfl⟩⟩ (NL.keep (Q:=P) hsz1 (fun k hk hP=>⟨HA1.1.block k hk (fun e=>by have:=(HVN.1 k e).1;have:=HP.1 k hP;omega),hP⟩) (fun k hm=>HA1.1.block k (Nat.lt_of_lt_of_le (HKB.1 k hm).2 (by rw [World.size_alloc];omega)) (NL.two HO.1 HNX.1 k hm)) HNX.1))
 have HD1:=hide HD.1.app
 obtain ⟨g1,c1,rfl⟩:=HV1.1
 have hr1:=H.1.on hbel1 hrb HNV.1
 obtain ⟨gn,cnn,hnvq,hcnn⟩:=hr1.cells
 have q7:=(hr1.blk.cell 7).trans (show (RdC A bs.length cap st nest nv)[7]?=some nv from rfl)
 rw [hnvq] at q7
 have CI:=hide (index_any st.names x.nd.name gn cnn w1.drew hr1.many.2 hcnn)
 have HIX:=hide (ixF_max x.nd.name st.names 0)
 have HLN:=hide hr1.many
 obtain ⟨⟨u3,s3⟩,s3f⟩:=own_cells3 HO1.1 (show i<i+1 by omega)
 have HO2:=hide (show w1.drew.ownsRow base 49 10 (.slice (some ⟨g1,0,none⟩) (i+1) c1) (i+1) _ from own_keepN HO1.1 (fun _ _ _=>rfl))
 have HNUMZ:=hide (fun z=>NL.num HN1.1 z)
 have hix:i<i+1:=by omega
 have hix2:(i:Int)<((i+1:Nat):Int):=by omega
 have hix3:(i:Int)<(i:Int)+1:=by omega
 clear hr1 hcnn
 generalize hz:ixF x.nd.name st.names 0=z at *
 obtain ⟨zz,hzz⟩:∃ zz:Int,max 0 z=zz:=⟨_,rfl⟩
 have HZZ:=hide ((hzz.symm.trans HIX.1):zz=(idxOf x.nd.name st.names 0:Int))
 go_still_tail 13,(by kernel_rfl)
 still_call CI.1
 repeat still_step
 refine wpStill_nil ?_
 change wpList _ _ _ _ _ w1.drew
 clear CI
 have hbk1:(Value.slice (some ⟨g1,0,none⟩) (i+1) c1).ownBlock≠some w.heap.size:=own_blk_ne HO1.1 HBX1.1 (by decide)
 have hgne:w.heap.size≠g1:=fun e=>hbk1 (by rw [e];rfl)
 have hgb:=own_lt HO1.1 (k:=g1) rfl
 have hset:∀ k,k≠g1→(w1.setCell ⟨g1,i*10+3,none⟩ (.int .i64 zz)).drew.heap[k]?=w1.heap[k]?:=fun k hk=>Below.heap_setCell w1 ⟨g1,i*10+3,none⟩ _ k hk
 have hbx2:Blk (w1.setCell ⟨g1,i*10+3,none⟩ (.int .i64 zz)).drew w.heap.size 78 (pu x.nd.kind x.nd.from_ x.nd.to_ x.nd.num x.nd.mn x.nd.mx x.nd.mode x.nd.name L x.nd.set.length lc K x.kids.len kc):=(hset _ hgne).trans HBX1.1
 have HOX:=hide (show (w1.setCell ⟨g1,i*10+3,none⟩ (.int .i64 zz)).drew.ownsRow base 49 10 (.slice (some ⟨g1,0,none⟩) (i+1) c1) (i+1) _ from own_keepN (own_setG HO1.1 rfl (i*10+3) (.int .i64 zz)) (fun _ _ _=>rfl))
 have hN2:=HNUMZ.1 zz
 rw [HIL.1] at hN2
 have HNX2:=hide (NL.keep (Q:=P) (w:=w1) (w':=(w1.setCell ⟨g1,i*10+3,none⟩ (.int .i64 zz)).drew) (show w1.heap.size≤(w1.setCell ⟨g1,i*10+3,none⟩ (.int .i64 zz)).heap.size by simp [World.setCell]) (fun k hk hP=>⟨hset k (fun e=>by have:=HP.1 k hP;omega),hP⟩) (fun k hm=>hset k (fun e=>NL.two HO1.1 HN1.1 k hm (by rw [e];rfl))) hN2)
 have HKX:=hide ((HKP1.1.set (i:=i*10+3) rfl (.int .i64 zz)).trans (Kp.of_below (Below.refl _ _).drew))
 have HST2:=hide (show LayR st.names P base l i x (.slice An i cn) kb (w.alloc (.cells (pu x.nd.kind x.nd.from_ x.nd.to_ x.nd.num x.nd.mn x.nd.mx x.nd.mode x.nd.name L x.nd.set.length lc K x.kids.len kc) 78)) w.heap.size #[.int .i64 x.nd.kind,.int .i64 x.nd.from_,.int .i64 x.nd.to_,.int .i64 x.nd.num,.int .i64 x.nd.mn,.int .i64 x.nd.mx,.int .i64 x.nd.mode,.string ⟨x.nd.name.toArray⟩,.slice L x.nd.set.length lc,.slice none 0 0,.slice K x.kids.len kc] (.int .i64 0) (.slice (some ⟨g1,0,none⟩) (i+1) c1) (w1.setCell ⟨g1,i*10+3,none⟩ (.int .i64 zz)).drew from lrel_start HOX.1 HNX2.1 HD1.1 HKX.1 hbx2 (by rw [HF.1,← HZZ.1]))
 clear p0 p1 p2 p3 p4 p5 p6 p7 p8 p9 p10 hN2 hset
 obtain ⟨⟨p0,p1,p2,p3,p4,p5,p6,p7,p8,p9,p10⟩,-⟩:=cells11 hbx2
 have HBX3:=hide hbx2
 clear hbx2 HA1 HB1 HNX HO HBX HNX2 HOX HKX HO2 HNUMZ
 go_wp2_with fail
 have HSTART:=hide HST2.1
 clear HST2 s3 s3f q7
 clear p0 p1 p2 p3 p4 p5 p6 p7 p8 p9 p10
 go_loopw [43,1] (fun cnt v wr=>LayR st.names P base l i x (.slice An i cn) kb (w.alloc (.cells (pu x.nd.kind x.nd.from_ x.nd.to_ x.nd.num x.nd.mn x.nd.mx x.nd.mode x.nd.name L x.nd.set.length lc K x.kids.len kc) 78)) w.heap.size #[.int .i64 x.nd.kind,.int .i64 x.nd.from_,.int .i64 x.nd.to_,.int .i64 x.nd.num,.int .i64 x.nd.mn,.int .i64 x.nd.mx,.int .i64 x.nd.mode,.string ⟨x.nd.name.toArray⟩,.slice L x.nd.set.length lc,.slice none 0 0,.slice K x.kids.len kc] cnt v wr) (fun cnt _ _=>x.kids.len-(intOf cnt).toNat)
 case atStart=>exact HSTART.1
 case round=>
  obtain ⟨j,n,xs,kb',hcnt,hj,hn,ho,hN,hd,hk,hb⟩:=hrel
  subst hcnt
  go_hideQ
  have hbw:Below base w wr:=(HB0.1.mono hbase).trans (hk.below (fun k e=>(HVN.1 k e).1) (fun k e=>(HKB.1 k e).1) (by rw [World.size_alloc];omega))
  have hkW:=hk.size
  have hwS:w.heap.size+1≤wr.heap.size:=by rw [World.size_alloc] at hkW;exact hkW
  have HKR:=hide hk
  have HBW:=hide hbw
  have HBR:=hide hb
  have HOR:=hide ho
  have HNR:=hide hN
  have HDR:=hide hd
  have HNN:=hide hn
  clear HSTART
  by_cases hin:j<x.kids.len
  ·obtain ⟨y,hy⟩:=F.at_some x.kids j hin
   have HY:=hide hy
   have hys:=F.at_size x.kids j y hy
   have hsm:=F.take_next x.kids j y hy
   have hts:=F.take_size x.kids (j+1)
   have hsz:(x.kids.take (j+1)).size=(x.kids.take j).size+(1+y.kids.size):=by rw [hsm,F.app_size]
   have hKW:=HKV.1.keep hbw.size (fun k hk hP=>⟨hbw.block k (HP.1 k hP),hP⟩)
   obtain ⟨b',o',hKe,hPb,hbl,hrow⟩:∃ b' o',K=some ⟨b',o',none⟩∧P b'∧b'<wr.heap.size∧Row P wr x.kids b' o':=by
    rcases hKW.2.2 with ⟨e,-,-⟩|e
    ·rw [e] at hin;exact absurd hin (by simp [F.len])
    ·exact e
   subst hKe
   obtain ⟨L2,lc2,K2,kc2,hat,hset2,hkv2⟩:=hrow.at hy
   have HS2:=hide hset2
   have HK2:=hide hkv2
   have k0:=hat 0 (.int .i64 y.nd.kind) rfl
   have k1:=hat 1 (.int .i64 y.nd.from_) rfl
   have k2:=hat 2 (.int .i64 y.nd.to_) rfl
   have k3:=hat 3 (.int .i64 y.nd.num) rfl
   have k4:=hat 4 (.int .i64 y.nd.mn) rfl
   have k5:=hat 5 (.int .i64 y.nd.mx) rfl
   have k6:=hat 6 (.int .i64 y.nd.mode) rfl
   have k7:=hat 7 (.string ⟨y.nd.name.toArray⟩) rfl
   have k8:=hat 8 (.slice L2 y.nd.set.length lc2) rfl
   have k9:=hat 9 (.slice none 0 0) rfl
   have k10:=hat 10 (.slice K2 y.kids.len kc2) rfl
   rw [Nat.add_zero] at k0
   obtain ⟨b,c,hv,hbb,hbge,hnc,hcm,hcs⟩:=own_cellsG ho (by omega)
   subst hv
   obtain ⟨kv,hxk,hkbk,hko,hstep⟩:=NL.kid (Q:=P) hN hd
   rw [HIL.1] at hxk
   have HSTEP:=hide hstep
   have HKBK:=hide hkbk
   have HKO:=hide hko
   obtain ⟨e9,f9⟩:=hcs _ _ hxk
   have hb1:Below wr.heap.size wr (wr.alloc (.cells (pu y.nd.kind y.nd.from_ y.nd.to_ y.nd.num y.nd.mn y.nd.mx y.nd.mode y.nd.name L2 y.nd.set.length lc2 K2 y.kids.len kc2) 78)):=(Below.refl wr.heap.size wr).alloc (Nat.le_refl _) _
   have HB1W:=hide hb1
   have e9':(wr.alloc (.cells (pu y.nd.kind y.nd.from_ y.nd.to_ y.nd.num y.nd.mn y.nd.mx y.nd.mode y.nd.name L2 y.nd.set.length lc2 K2 y.kids.len kc2) 78)).cell? ⟨b,i*10+9,none⟩=some kv:=(World.cell?_alloc_lt wr _ ⟨b,i*10+9,none⟩ hbb).trans e9
   have HGY:=hide (Blk.new wr 78 (pu y.nd.kind y.nd.from_ y.nd.to_ y.nd.num y.nd.mn y.nd.mx y.nd.mode y.nd.name L2 y.nd.set.length lc2 K2 y.kids.len kc2))
   have hin1:(j:Int)<(x.kids.len:Int):=by omega
   have hdec:decide ((j:Int)<(x.kids.len:Int))=true:=decide_eq_true hin1
   have hii:(i:Int)<(n:Int):=by omega
   have hii':i<n:=by omega
   have hkl:x.kids.len≤kc:=hKW.1
   have hjn:n≤20000:=by omega
   have hkvl:(x.kids.take j).len=j:=F.take_len x.kids j hj
   have hjj:j≤20000:=by
    have:=F.idx_len (x.kids.take j) 0
    have:=len_size x.kids
    omega
   have hw1:IntKind.i64.wrap ((j:Int)+1)=(j:Int)+1:=Rs.wrap_id _ (by omega) (by omega)
   have HKO1:=hide (HKO.1.alloc (.cells (pu y.nd.kind y.nd.from_ y.nd.to_ y.nd.num y.nd.mn y.nd.mx y.nd.mode y.nd.name L2 y.nd.set.length lc2 K2 y.kids.len kc2) 78))
   have HJ:=hide (show j+1≤x.kids.len from hin)
   have HNUM:=hide (show n+(1+y.kids.size)=i+(1+(x.kids.take (j+1)).size)∧n+(1+y.kids.size)≤20000 from by omega)
   have HYS:=hide hys
   have HKL:=hide hkvl
   have HSM:=hide hsm
   have hklm:({ fixN st.names x.nd with kids:=(x.kids.take j).idx (i+1) }:Nd).kids.length=j:=(show ((x.kids.take j).idx (i+1)).length=j from (F.idx_len _ _).trans hkvl)
   rw [hklm] at HKO1
   clear hk hb ho hN hd hn hbw hKW hrow hat hset2 hkv2 hcs hxk hstep hkbk hko e9 f9 hb1 hy hys hsm hts hsz hkvl hklm
   go_wp2_with (at_builtin;refine wp_app_ki (base:=base) (n:=j) (xs:=((x.kids.take j).idx (i+1)).map Mem.i64) (v:=kv) rfl (by simp [Value.oneCell']) rfl rfl rfl rfl (by simp) HKO1.1 (by simp;omega) (by omega) ?_;intro v5 w5 hv5 ho5 ha5 hb5;obtain ⟨g5,c5,rfl⟩:=hv5;have hst:=kid_step (W1:=(wr.alloc (.cells (pu y.nd.kind y.nd.from_ y.nd.to_ y.nd.num y.nd.mn y.nd.mx y.nd.mode y.nd.name L2 y.nd.set.length lc2 K2 y.kids.len kc2) 78))) (W2:=w5) (kv:=kv) (z:=(n:Int)) HP.1 (Nat.le_trans hbase HBW.1.size) HNR.1 HDR.1 HKBK.1 HSTEP.1 HOR.1 rfl HB1W.1 ha5 (show w5.ownsRow base 3 1 _ (((x.kids.take j).idx (i+1)).length+1) _ from by rw [F.idx_len,HKL.1];exact ho5) hb5;rw [HIL.1] at hst;have HST:=hide hst;obtain ⟨⟨u9,s9⟩,s9f⟩:=own_cellsG_at hst.2.2.2.2.2 hii';obtain ⟨⟨m0,m1,m2,m3,m4,m5,m6,m7,m8,m9,m10⟩,-⟩:=cells11 (hst.2.2.2.2.1 _ _ _ HGY.1 (Nat.le_refl _));clear hst ho5 ha5 hb5 e9')
   have hb3:Below base wr (w5.setCell ⟨b,i*10+9,none⟩ (.slice (some ⟨g5,0,none⟩) (j+1) c5)):=HST.1.2.2.1.below (fun k e=>(own_lt HOR.1 e).1) (fun k e=>NL.ge HNR.1 k e) (Nat.le_trans hbase HBW.1.size)
   have hbw3:=HBW.1.trans hb3
   have hln:(l++{ fixN st.names x.nd with kids:=(x.kids.take j).idx (i+1)++[(n:Int)] } :: layF st.names (x.kids.take j) (i+1)).length=n:=by
    rw [List.length_append,List.length_cons,layF_size,HIL.1,HNN.1];omega
   have hpt:PtV P (w5.setCell ⟨b,i*10+9,none⟩ (.slice (some ⟨g5,0,none⟩) (j+1) c5)) y (.agg #[.int .i64 y.nd.kind,.int .i64 y.nd.from_,.int .i64 y.nd.to_,.int .i64 y.nd.num,.int .i64 y.nd.mn,.int .i64 y.nd.mx,.int .i64 y.nd.mode,.string ⟨y.nd.name.toArray⟩,.slice L2 y.nd.set.length lc2,.slice none 0 0,.slice K2 y.kids.len kc2]):=⟨L2,lc2,K2,kc2,rfl,HS2.1.keep hb3.size (fun k hk hp=>⟨hb3.block k (HP.1 k hp),hp⟩),HK2.1.keep hb3.size (fun k hk hp=>⟨hb3.block k (HP.1 k hp),hp⟩)⟩
   have hrd:Rd bs A cap w0 rb nest st nv (w5.setCell ⟨b,i*10+9,none⟩ (.slice (some ⟨g5,0,none⟩) (j+1) c5)):=H.1.on hbw3 hrb HNV.1
   clear s9 s9f m0 m1 m2 m3 m4 m5 m6 m7 m8 m9 m10
   refine (CL.1 y HYS.1 _ _ (l++{ fixN st.names x.nd with kids:=(x.kids.take j).idx (i+1)++[(n:Int)] } :: layF st.names (x.kids.take j) (i+1)) n _ _ _ hln hrd (Nat.le_trans hbase hbw3.size) hpt HST.1.2.2.2.1 HST.1.1 HST.1.2.1 HNUM.1.2).mono ?_
   rintro e w4 ⟨v4,xs4,kb4,rfl,ho4,hN4,hd4,hk4⟩
   have hR:LayR st.names P base l i x (.slice An i cn) kb (w.alloc (.cells (pu x.nd.kind x.nd.from_ x.nd.to_ x.nd.num x.nd.mn x.nd.mx x.nd.mode x.nd.name L x.nd.set.length lc (some ⟨b',o',none⟩) x.kids.len kc) 78)) w.heap.size #[.int .i64 x.nd.kind,.int .i64 x.nd.from_,.int .i64 x.nd.to_,.int .i64 x.nd.num,.int .i64 x.nd.mn,.int .i64 x.nd.mx,.int .i64 x.nd.mode,.string ⟨x.nd.name.toArray⟩,.slice L x.nd.set.length lc,.slice none 0 0,.slice (some ⟨b',o',none⟩) x.kids.len kc] (.int .i64 ((j:Int)+1)) v4 w4:=by
    refine ⟨j+1,n+(1+y.kids.size),xs4,kb4,by push_cast;rfl,HJ.1,HNUM.1.1,ho4,?_,hd4,(HKR.1.trans HST.1.2.2.1).trans hk4,kp_blk HST.1.2.2.2.1 HST.1.1 hk4 (kp_blk HOR.1 HNR.1 HST.1.2.2.1 HBR.1)⟩
    have e1:i+1+(x.kids.take j).size=n:=by have:=HNN.1;omega
    rw [HSM.1,F.app_idx,layF_app,e1,← List.cons_append,← List.append_assoc]
    exact hN4
   have HR:=hide hR
   clear hR ho4 hN4 hd4 hk4 hb3 hbw3 hln hpt hrd HST CL
   go_wp2_with fail
   have hR:=HR.1
   have hme:x.kids.len-(intOf (.int .i64 ((j:Int)+1))).toNat<x.kids.len-(intOf (.int .i64 (j:Int))).toNat:=by show x.kids.len-((j:Int)+1).toNat<x.kids.len-(j:Int).toNat;omega
   first|exact ⟨hR,hme⟩|(go_roundw;all_goals first|exact hR|exact hme|omega)
  ·have hjl:j=x.kids.len:=by omega
   have hnot:decide ((j:Int)<(x.kids.len:Int))=false:=decide_eq_false (by omega)
   have hnot2:¬ ((j:Int)<(x.kids.len:Int)):=by omega
   have HTA:=hide (show x.kids.take j=x.kids from by rw [hjl];exact F.take_all _)
   clear hk hb ho hN hd hn hbw hjl
   go_wp2_with fail
   go_ret
   have hta:=HTA.1
   have hn:=HNN.1
   have ho:=HOR.1
   have hN:=HNR.1
   rw [hta] at hn hN
   rw [hn] at ho
   have hkk:Kp (.slice An i cn) kb w _ kb' wr:=(Kp.of_below HB0.1).trans HKR.1
   refine ⟨_,xs,kb',rfl,ho,?_,HDR.1,hkk⟩
   rw [lay_one']
   exact hN
theorem lay_all {bs:List UInt8} {A:Option Addr} {cap:Nat} {w0:World} {rb nest:Nat} {st:St} {nv:Value} {P:Nat→Prop} {base:Nat} (hrb:rb<base) (hnv:∀ k,nv.ownBlock=some k→k<base) (hP:∀ k,P k→k<base):∀ m,LayC bs A cap w0 rb nest st nv P base m
 | 0=>fun x hx=>absurd hx (by omega)
 | m+1=>fun x hx W xv l i v xs kb hil h hbase hpt ho hN hd hlen=>by
  have CL:LayC bs A cap w0 rb nest st nv P base x.kids.size:=fun y hy=>lay_all hrb hnv hP m y (by omega)
  by_cases h4:x.nd.kind=4
  ·by_cases hn:x.nd.name=[]
   ·exact lay_nameless h base hrb hnv hbase P hP x xv hpt l i hil v xs kb ho hN hd ⟨h4,hn⟩ hlen CL
   ·exact lay_named h base hrb hnv hbase P hP x xv hpt l i hil v xs kb ho hN hd ⟨h4,hn⟩ hlen CL
  ·exact lay_plain h base hrb hnv hbase P hP x xv hpt l i hil v xs kb ho hN hd h4 hlen CL
end Go.Proofs.YtmlbklcmblofkaaGreatDoor.Pa
