/-
  ParseWrapped: in a group that is none a pattern has the same tree, three bytes further on: the given statement, its row and its card.
-/
import Derived.Test.YtmphmddmfcaldaaGreatDoorMPaW
import Derived.Test.YtmphmddmfcaldaaGreatDoorMPaFull
import Derived.Test.YtmphmddmfcaldaaGreatDoorMAsS
import Derived.Test.YtmphmddmfcaldaaGreatDoorMLdA
set_option linter.unusedSimpArgs false
set_option linter.unusedVariables false
set_option maxHeartbeats 8000000
set_option maxRecDepth 100000
namespace Go.Proofs.YtmphmddmfcaldaaGreatDoor.Pa
open Go.RowKit Mem
open Sc (PV Gl)
open As (Nd Tr TreeV NodesV sameT alikeL alikeN psame_any NdIn in64)
theorem ParsedG.form {bs:List UInt8} {w:World} {e:Ending} {w':World} (h:ParsedG bs w e w'):Below w.heap.size w w'∧∃ (S0:Option Addr) (n0 c0:Nat) (g0:Int) (S2:Option Addr) (n2 c2:Nat) (c pl:Int),e=.returned (.tuple #[.agg #[.slice S0 n0 c0,.int .i64 g0,.slice S2 n2 c2],.int .i64 c,.int .i64 pl]) ∧
  ((c≠0∧∃ n m:Nat,parseP bs=.error (n,m)∧c=(n:Int))∨(c=0∧∃ t,parseP bs=.ok t∧TreeV w' w'.heap.size t (.agg #[.slice S0 n0 c0,.int .i64 g0,.slice S2 n2 c2])∧NodesV w' w'.heap.size t.nodes (.slice S0 n0 c0))):=by
 obtain ⟨hb,h⟩:=h
 refine ⟨hb,?_⟩
 cases hr:parseP bs with
 | error q=>
  obtain ⟨c,pl⟩:=q
  rw [hr] at h
  exact ⟨_,_,_,_,_,_,_,c,pl,h.2,.inl ⟨by have:=h.1;omega,c,pl,rfl,rfl⟩⟩
 | ok t=>
  rw [hr] at h
  obtain ⟨v,rfl,ht⟩:=h
  obtain ⟨a,c,rfl,hn,hc⟩:=ht
  obtain ⟨A,ca,rfl,-⟩:=id hn
  obtain ⟨C,cc,rfl,-⟩:=id hc
  exact ⟨_,_,_,_,_,_,_,0,0,rfl,.inr ⟨rfl,t,rfl,⟨_,_,rfl,hn,hc⟩,hn⟩⟩
theorem alike_sh:∀ l:List Nd,alikeL l (l.map ndS)=true
 | []=>rfl
 | nd :: l=>by
  show (alikeN nd (ndS nd)&&alikeL l (l.map ndS))=true
  rw [alike_sh l,Bool.and_true]
  simp [alikeN,ndS]
theorem same_sh (t:Tr):sameT t ⟨t.nodes.map ndS,t.groups,t.names⟩=true:=by
 unfold sameT
 simp [alike_sh]
theorem wrap_len (p:List UInt8):(wrapB p).length=3+p.length+1:=by unfold wrapB;simp;omega
theorem wrap_cells (p:List UInt8):[.int .u8 40,.int .u8 63,.int .u8 58]++p.map u8++[.int .u8 41]=(wrapB p).map u8:=by
 unfold wrapB
 rw [List.append_assoc]
 simp [u8]
def WRel (n:Nat) (W:World) (i:Value) (wr:World):Prop:=∃ k:Nat,i=.int .i64 (k:Int)∧k≤n∧Below W.heap.size W wr
theorem walkWrapped (A:Option Addr) (cap:Nat) (bs:List UInt8) (w:World) (hG:Gl w) (hP:PV bs A cap w) :
  Calls Tryz.prog 4 #[.slice A bs.length cap] w fun e w'=>e=.returned (.bool true)∧Below w.heap.size w w':=by
 have CA:=hide (anchor_any w hG)
 have hcap:bs.length≤9223372036854775807:=Nat.le_trans hP.room hP.top
 by_cases hl:2000<bs.length
 ·have d0:decide ((2000:Int)<(bs.length:Int))=true:=decide_eq_true (by omega)
  have d1:decide (2000<bs.length)=true:=decide_eq_true hl
  clear hG hP
  go_enter Tryz.func4,Tryz.ntmps4
  go_wp2_with fail
  refine CA.1.mono ?_
  rintro e w1 ⟨rfl,hB⟩
  have HB:=hide hB
  clear hB CA
  go_wp2_with fail
  go_ret
  exact ⟨rfl,HB.1⟩
 ·have d0:decide ((2000:Int)<(bs.length:Int))=false:=decide_eq_false (by omega)
  have d1:decide (2000<bs.length)=false:=decide_eq_false hl
  have CP:=hide (fun W (hb:Below w.heap.size w W)=>parse_any bs A cap W (hP.below hb) (hG.below hb))
  have CQ:=hide (fun W A' c' (hb:Below w.heap.size w W) (hp:PV (wrapB bs) A' c' W)=>(wrap_len bs ▸ parse_any (wrapB bs) A' c' W hp (hG.below hb):Calls Tryz.prog 8 #[.slice A' (3+bs.length+1) c'] W (ParsedG (wrapB bs) W)))
  have kc:=fun (w:World) (C:Array Value) (n c:Nat)=>Lib.run_convert_bytes_const (P:=Tryz.prog) w 22 5 C n c Tryz.underlying22 Tryz.underlying5
  have HP:=hide hP
  have HL:=hide hl
  clear hG hP hl
  go_enter Tryz.func4,Tryz.ntmps4
  go_wp2_with fail
  refine CA.1.mono ?_
  rintro e w1 ⟨rfl,hB⟩
  have CP:=hide (CP.1 w1 hB)
  have HB:=hide hB
  clear hB CA
  go_wp2_with fail
  refine CP.1.mono ?_
  rintro e w2 hp2
  obtain ⟨hB2,S0,n0,c0,g0,S2,n2,c2,c,pl,rfl,hc⟩:=hp2.form
  have HC:=hide hc
  have hb2:=HB.1.trans (hB2.mono HB.1.size)
  have HX:=hide (hb2.alloc hb2.size (.cells #[.slice S0 n0 c0,.int .i64 g0,.slice S2 n2 c2] 27))
  have HKT:=hide (Blk.new w2 27 #[.slice S0 n0 c0,.int .i64 g0,.slice S2 n2 c2])
  have HBT:=hide ((Below.refl w2.heap.size w2).alloc (Nat.le_refl _) (.cells #[.slice S0 n0 c0,.int .i64 g0,.slice S2 n2 c2] 27))
  clear hB2 hb2 hp2 hc CP HB
  have kc1:Sem.run Tryz.prog (convert 22 22 (.slice (some ⟨w2.heap.size+1,0,none⟩) 3 3)) ((w2.alloc (.cells #[.slice S0 n0 c0,.int .i64 g0,.slice S2 n2 c2] 27)).alloc (.cells #[.int .u8 40,.int .u8 63,.int .u8 58] 5))=.ok (.slice (some ⟨w2.heap.size+1,0,none⟩) 3 3) ((w2.alloc (.cells #[.slice S0 n0 c0,.int .i64 g0,.slice S2 n2 c2] 27)).alloc (.cells #[.int .u8 40,.int .u8 63,.int .u8 58] 5 (3,4))):=by
   have h:=kc (w2.alloc (.cells #[.slice S0 n0 c0,.int .i64 g0,.slice S2 n2 c2] 27)) #[.int .u8 40,.int .u8 63,.int .u8 58] 3 3
   rw [World.size_alloc] at h
   exact h
  have HFO:=hide (show FO (w2.alloc (.cells #[.slice S0 n0 c0,.int .i64 g0,.slice S2 n2 c2] 27)) ((w2.alloc (.cells #[.slice S0 n0 c0,.int .i64 g0,.slice S2 n2 c2] 27)).alloc (.cells #[.int .u8 40,.int .u8 63,.int .u8 58] 5 (3,4))) (.slice (some ⟨w2.heap.size+1,0,none⟩) 3 3) 3 [.int .u8 40,.int .u8 63,.int .u8 58] from
   ⟨(Below.refl _ _).alloc (Nat.le_refl _) _,.inr ⟨w2.heap.size+1,rfl,by simp,by simp,rfl,fun j u hu=>by
    rw [show w2.heap.size+1=(w2.alloc (.cells #[.slice S0 n0 c0,.int .i64 g0,.slice S2 n2 c2] 27)).heap.size by simp,World.cell?_alloc_mark];simpa using hu⟩⟩)
  have HPR:=hide ((HP.1.below (HX.1.alloc HX.1.size (.cells #[.int .u8 40,.int .u8 63,.int .u8 58] 5 (3,4)))).reads)
  have h1p:∀ u∈bs.map u8,u.oneCell'=true:=by intro u hu;obtain ⟨b,_,rfl⟩:=List.mem_map.1 hu;rfl
  have hle:3+bs.length≤4096:=by have:=HL.1;omega
  have hle1:3+bs.length+1≤4096:=by have:=HL.1;omega
  go_wp2_with (at_builtin;first|(refine wpList_append_fo rfl (.tmp 24) (.tmp 25) (w2.alloc (.cells #[.slice S0 n0 c0,.int .i64 g0,.slice S2 n2 c2] 27)) rfl _ _ _ rfl HFO.1 _ _ _ _ _ rfl HPR.1 h1p hle ?_;intro v2 w4 hf2 _;have HF2:=hide (FO.alloc hf2 (.cells #[.int .u8 41] 5));have HR41:=hide (show Reads (w4.alloc (.cells #[.int .u8 41] 5)) (w4.alloc (.cells #[.int .u8 41] 5)).heap.size 1 (some ⟨w4.heap.size,0,none⟩) 1 [.int .u8 41] from by have h:=Rs.reads_new w4 #[.int .u8 41] 5 1 1 rfl;simpa using h);clear hf2 HFO HPR h1p)|(refine wpList_append_fo rfl (.tmp 26) (.tmp 27) (w2.alloc (.cells #[.slice S0 n0 c0,.int .i64 g0,.slice S2 n2 c2] 27)) rfl _ _ _ rfl HF2.1 _ _ _ _ _ rfl HR41.1 (by intro u hu;rw [List.mem_singleton] at hu;subst hu;rfl) hle1 ?_;intro v3 w5 hf3 ho3;have HF3:=hide hf3;have HO3:=hide (ho3 (by decide));clear hf3 ho3 HF2 HR41))
  obtain ⟨A5,c5,rfl,hn5,hc5,hr5⟩:=own_sliceP HO3.1
  have HX5:=hide (HX.1.trans (HF3.1.1.mono HX.1.size))
  have CQ5:=hide (CQ.1 w5 A5 c5 HX5.1 ⟨by rw [wrap_len];exact hn5,hc5,by rw [wrap_len,← wrap_cells];exact hr5⟩)
  clear hn5 hc5 hr5 HO3 CQ HP
  refine CQ5.1.mono ?_
  rintro e w6 hp6
  obtain ⟨hB6,T0,m0,d0,k0,T2,m2,d2,c',pl',rfl,hc'⟩:=hp6.form
  have hb6:Below (w2.alloc (.cells #[.slice S0 n0 c0,.int .i64 g0,.slice S2 n2 c2] 27)).heap.size (w2.alloc (.cells #[.slice S0 n0 c0,.int .i64 g0,.slice S2 n2 c2] 27)) w6:=HF3.1.1.trans (hB6.mono HF3.1.1.size)
  have HC':=hide hc'
  have HX6:=hide ((HX.1.trans (hb6.mono HX.1.size)).alloc (HX.1.trans (hb6.mono HX.1.size)).size (.cells #[.slice T0 m0 d0,.int .i64 k0,.slice T2 m2 d2] 27))
  have HKT6:=hide ((HKT.1.below hb6 HKT.1.lt).alloc (.cells #[.slice T0 m0 d0,.int .i64 k0,.slice T2 m2 d2] 27))
  have HKU:=hide (Blk.new w6 27 #[.slice T0 m0 d0,.int .i64 k0,.slice T2 m2 d2])
  have HBX:=hide (hb6.alloc hb6.size (.cells #[.slice T0 m0 d0,.int .i64 k0,.slice T2 m2 d2] 27))
  have HBU:=hide ((Below.refl w6.heap.size w6).alloc (Nat.le_refl _) (.cells #[.slice T0 m0 d0,.int .i64 k0,.slice T2 m2 d2] 27))
  clear hB6 hp6 hc' hb6 HX5 CQ5 HF3 HX
  obtain ⟨⟨a0,a1,a2⟩,-⟩:=cells3 HKT6.1
  obtain ⟨⟨u0,u1,u2⟩,-⟩:=cells3 HKU.1
  rcases HC.1 with ⟨hc0,-⟩|⟨rfl,t,ht0,htv,htn⟩
  ·have e0:(c != 0)=true:=by rw [bne_iff_ne];exact hc0
   clear hc0 HC
   go_wp2_with fail
   go_ret
   exact ⟨rfl,HX6.1⟩
  ·have hw:=wrap_parse (by have:=HL.1;omega) ht0
   rcases HC'.1 with ⟨-,n,m,he',hcn⟩|⟨rfl,t',ht',hutv,hutn⟩
   ·have h39:c'=30∨c'=39:=by
     rcases hw with ⟨q,h|h⟩|h
     ·rw [he'] at h;injection h with h;injection h with h _;exact .inl (by omega)
     ·rw [he'] at h;injection h with h;injection h with h _;exact .inr (by omega)
     ·rw [he'] at h;cases h
    clear hw hcn he' htv htn ht0 HC HC'
    rcases h39 with rfl|rfl
    ·go_wp2_with fail
     go_ret
     exact ⟨rfl,HX6.1⟩
    ·go_wp2_with fail
     go_ret
     exact ⟨rfl,HX6.1⟩
   ·obtain rfl:t'=⟨t.nodes.map ndS,t.groups,t.names⟩:=by
     rcases hw with ⟨q,h|h⟩|h
     ·rw [ht'] at h;cases h
     ·rw [ht'] at h;cases h
     ·rw [ht'] at h;injection h
    have HFIT:=hide (parse_fit ht').2.2.1
    clear hw ht0 ht' HC HC'
    have hs2:w6.heap.size≤(w6.alloc (.cells #[.slice T0 m0 d0,.int .i64 k0,.slice T2 m2 d2] 27)).heap.size:=HBU.1.size
    have hbt:Below w2.heap.size w2 (w6.alloc (.cells #[.slice T0 m0 d0,.int .i64 k0,.slice T2 m2 d2] 27)):=HBT.1.trans (HBX.1.mono HBT.1.size)
    have htv2:=htv.below hbt
    have hutv2:=hutv.below HBU.1
    have CS:=hide (psame_any t ⟨t.nodes.map ndS,t.groups,t.names⟩ (.agg #[.slice S0 n0 c0,.int .i64 g0,.slice S2 n2 c2]) (.agg #[.slice T0 m0 d0,.int .i64 k0,.slice T2 m2 d2]) (w6.alloc (.cells #[.slice T0 m0 d0,.int .i64 k0,.slice T2 m2 d2] 27)).heap.size (w6.alloc (.cells #[.slice T0 m0 d0,.int .i64 k0,.slice T2 m2 d2] 27)) (Nat.le_refl _) (htv2.more hbt.size) (hutv2.more hs2))
    rw [same_sh] at CS
    have HTN:=hide (htn.keep fun _ hp=>hbt.cell hp)
    have HUN:=hide (hutn.keep fun _ hp=>HBU.1.cell hp)
    have HT2:=hide hbt.size
    have HS2:=hide hs2
    clear htv hutv htv2 hutv2 htn hutn hbt hs2 HBT HBX HBU
    go_wp2_with fail
    refine CS.1.mono ?_
    rintro e w9 ⟨rfl,hB9⟩
    generalize w6.alloc (.cells #[.slice T0 m0 d0,.int .i64 k0,.slice T2 m2 d2] 27)=X2 at *
    have HX9:=hide (HX6.1.trans (hB9.mono HX6.1.size))
    have HKT9:=hide (HKT6.1.below hB9 HKT6.1.lt)
    have HKU9:=hide (HKU.1.below hB9 HKU.1.lt)
    obtain ⟨A1,cp1,ea,hcap1,hcap2,hn1⟩:=HTN.1
    obtain ⟨A2,cp2,eb,hcup1,hcup2,hn2⟩:=HUN.1
    injection ea with ea1 ea2 ea3
    injection eb with eb1 eb2 eb3
    subst ea1 ea2 ea3 eb1 eb2 eb3
    have HN1:=hide hn1
    have HN2:=hide hn2
    have HB9:=hide hB9
    clear a0 a1 a2 u0 u1 u2 CS hn1 hn2 hB9 HTN HUN HX6 HKT6 HKU
    obtain ⟨⟨a0,a1,a2⟩,-⟩:=cells3 HKT9.1
    have hlm:(t.nodes.map ndS).length=t.nodes.length:=List.length_map _
    have HLM:=hide hlm
    rw [hlm] at hcup1 HKU9
    clear hlm
    go_wp2_with fail
    go_loopw [54] (fun i wr=>WRel t.nodes.length w9 i wr) (fun i _=>t.nodes.length-(intOf i).toNat)
    case atStart=>exact ⟨0,rfl,Nat.zero_le _,Below.refl _ _⟩
    case round=>
     obtain ⟨k,rfl,hk,hbk⟩:=hrel
     go_hideQ
     have HBK:=hide hbk
     have HXK:=hide (HX9.1.trans (hbk.mono HX9.1.size))
     have hkt:=HKT9.1.below hbk HKT9.1.lt
     have hku:=HKU9.1.below hbk HKU9.1.lt
     have h9k:=HB9.1.trans (hbk.mono HB9.1.size)
     clear a0 a1 a2 hbk
     by_cases hin:k<t.nodes.length
     ·have hki:(k:Int)<(t.nodes.length:Int):=by omega
      have hd:decide ((k:Int)<(t.nodes.length:Int))=true:=decide_eq_true hki
      obtain ⟨nd,hnd⟩:∃ nd,t.nodes[k]?=some nd:=⟨_,List.getElem?_eq_getElem hin⟩
      obtain ⟨b1,off1,rfl,hlt1,hc1⟩:=HN1.1 (by omega)
      obtain ⟨b2,off2,rfl,hlt2,hc2⟩:=HN2.1 (by rw [HLM.1];omega)
      obtain ⟨h0,h1,h2,h3,h4,h5,h6,h7,⟨v8,h8,A8,cap8,rfl,-⟩,v9,h9,A9,cap9,rfl,-⟩:=hc1 k nd hnd
      obtain ⟨-,g1,g2,-⟩:=hc2 k (ndS nd) (by rw [List.getElem?_map,hnd];rfl)
      have hin3:NdIn (ndS nd):=HFIT.1 (ndS nd) (List.mem_map_of_mem (List.mem_of_getElem? hnd))
      obtain ⟨-,q1,q2,-⟩:=hin3
      unfold in64 at q1 q2
      have hw1:IntKind.i64.wrap (nd.from_+3)=nd.from_+3:=Rs.wrap_id _ (show -9223372036854775808≤nd.from_+3 from q1.1) (show nd.from_+3≤9223372036854775807 from q1.2)
      have hw2:IntKind.i64.wrap (nd.to_+3)=nd.to_+3:=Rs.wrap_id _ (show -9223372036854775808≤nd.to_+3 from q2.1) (show nd.to_+3≤9223372036854775807 from q2.2)
      have hw3:IntKind.i64.wrap ((k:Int)+1)=(k:Int)+1:=Rs.wrap_id _ (by omega) (by omega)
      have e1:(nd.from_+3 != nd.from_+3)=false:=by simp
      have e2:(nd.to_+3 != nd.to_+3)=false:=by simp
      have up1:∀ j u,X2.cell? ⟨b1,off1+k*10+j,none⟩=some u→wr.cell? ⟨b1,off1+k*10+j,none⟩=some u:=fun j u h=>(h9k.cell (p:=⟨b1,off1+k*10+j,none⟩) (by have:=HT2.1;show b1<_;omega)).trans h
      have up2:∀ j u,X2.cell? ⟨b2,off2+k*10+j,none⟩=some u→(wr.alloc (.cells #[.int .i64 nd.kind,.int .i64 nd.from_,.int .i64 nd.to_,.int .i64 nd.num,.int .i64 nd.mn,.int .i64 nd.mx,.int .i64 nd.mode,As.str nd.name,.slice A8 nd.set.length cap8,.slice A9 nd.kids.length cap9] 34)).cell? ⟨b2,off2+k*10+j,none⟩=some u:=fun j u h=>(World.cell?_alloc_lt wr _ ⟨b2,off2+k*10+j,none⟩ (by have:=HS2.1;have:=h9k.size;show b2<_;omega)).trans ((h9k.cell (p:=⟨b2,off2+k*10+j,none⟩) (by have:=HS2.1;show b2<_;omega)).trans h)
      have u1:(wr.alloc (.cells #[.int .i64 nd.kind,.int .i64 nd.from_,.int .i64 nd.to_,.int .i64 nd.num,.int .i64 nd.mn,.int .i64 nd.mx,.int .i64 nd.mode,As.str nd.name,.slice A8 nd.set.length cap8,.slice A9 nd.kids.length cap9] 34)).cell? ⟨b2,off2+k*10+1,none⟩=some (.int .i64 (nd.from_+3)):=up2 1 _ g1
      have u2:(wr.alloc (.cells #[.int .i64 nd.kind,.int .i64 nd.from_,.int .i64 nd.to_,.int .i64 nd.num,.int .i64 nd.mn,.int .i64 nd.mx,.int .i64 nd.mode,As.str nd.name,.slice A8 nd.set.length cap8,.slice A9 nd.kids.length cap9] 34)).cell? ⟨b2,off2+k*10+2,none⟩=some (.int .i64 (nd.to_+3)):=up2 2 _ g2
      have n0:wr.cell? ⟨b1,off1+k*10,none⟩=some (.int .i64 nd.kind):=up1 0 _ h0
      have n1:=up1 1 _ h1
      have n2:=up1 2 _ h2
      have n3:=up1 3 _ h3
      have n4:=up1 4 _ h4
      have n5:=up1 5 _ h5
      have n6:=up1 6 _ h6
      have n7:=up1 7 _ h7
      have n8:=up1 8 _ h8
      have n9:=up1 9 _ h9
      have hkx:=Blk.new wr 34 #[.int .i64 nd.kind,.int .i64 nd.from_,.int .i64 nd.to_,.int .i64 nd.num,.int .i64 nd.mn,.int .i64 nd.mx,.int .i64 nd.mode,As.str nd.name,.slice A8 nd.set.length cap8,.slice A9 nd.kids.length cap9]
      have x1:(wr.alloc (.cells #[.int .i64 nd.kind,.int .i64 nd.from_,.int .i64 nd.to_,.int .i64 nd.num,.int .i64 nd.mn,.int .i64 nd.mx,.int .i64 nd.mode,As.str nd.name,.slice A8 nd.set.length cap8,.slice A9 nd.kids.length cap9] 34)).cell? ⟨wr.heap.size,1,none⟩=some (.int .i64 nd.from_):=hkx.cell 1
      have x2:(wr.alloc (.cells #[.int .i64 nd.kind,.int .i64 nd.from_,.int .i64 nd.to_,.int .i64 nd.num,.int .i64 nd.mn,.int .i64 nd.mx,.int .i64 nd.mode,As.str nd.name,.slice A8 nd.set.length cap8,.slice A9 nd.kids.length cap9] 34)).cell? ⟨wr.heap.size,2,none⟩=some (.int .i64 nd.to_):=hkx.cell 2
      have hku2:=hku.alloc (.cells #[.int .i64 nd.kind,.int .i64 nd.from_,.int .i64 nd.to_,.int .i64 nd.num,.int .i64 nd.mn,.int .i64 nd.mx,.int .i64 nd.mode,As.str nd.name,.slice A8 nd.set.length cap8,.slice A9 nd.kids.length cap9] 34)
      obtain ⟨⟨y0,-,-⟩,-⟩:=cells3 hku2
      have HBE:=hide (HBK.1.alloc HBK.1.size (.cells #[.int .i64 nd.kind,.int .i64 nd.from_,.int .i64 nd.to_,.int .i64 nd.num,.int .i64 nd.mn,.int .i64 nd.mx,.int .i64 nd.mode,As.str nd.name,.slice A8 nd.set.length cap8,.slice A9 nd.kids.length cap9] 34))
      clear h0 h1 h2 h3 h4 h5 h6 h7 h8 h9 g1 g2 up1 up2 hc1 hc2 hnd q1 q2 hkx hku2 hkt hku h9k hlt1 hlt2
      go_wp2_with fail
      go_quiet (fail)
      go_wp2_with fail
      have hb:=HBE.1
      exact ⟨⟨k+1,by push_cast;rfl,hin,⟨hb.os,hb.tape,hb.output,hb.size,hb.block⟩⟩,by simp [intOf];omega⟩
     ·have hkn:k=t.nodes.length:=by omega
      have hd:decide ((k:Int)<(t.nodes.length:Int))=false:=decide_eq_false (by omega)
      have hnot:¬ ((k:Int)<(t.nodes.length:Int)):=by omega
      clear hkt hku h9k
      go_wp2_with fail
      go_ret
      exact ⟨rfl,HXK.1⟩
end Go.Proofs.YtmphmddmfcaldaaGreatDoor.Pa
namespace Go.Proofs.YtmphmddmfcaldaaGreatDoor.PaLawWrapped
open Go.ChangeShapes Go.WideShapes Go.ChangeAt Go.RowKit Go.ChangeMaps Sc Pa
theorem lifted (os:Os) (started:os.Started) (H:Type) (enc:TypeId×Value→H) :
  ReturnsInHanded {} Tryz.checked os 4 .any (fun w args=>(Rows.parseWrappedSpec.pre enc Tryz.prog Tryz.f4 [] false w args∧laidMetH Tryz.prog list w)∧sizedMet enc Tryz.prog Tryz.f4 (OpenSpec.ofChange Rows.parseWrappedSpec) false w args)
   (Rows.parseWrappedSpec.post enc Tryz.prog Tryz.f4 false true false false):=by
 refine bothG list Gl (fun _ h hs=>gl_of h hs) started (by kernel_rfl) Tryz.func4
  (ChangeSpec.witness_shaped (enc:=enc) (C:=Tryz.checked) (os:=os) (X:=fun w _=>laidMetH Tryz.prog list w) false (World.laidAll Tryz.prog os list) #[.slice none 0 0] 8 (World.laidAll_os _ _ _)
   (World.shaped_of_ZipB (by kernel_rfl) (by kernel_rfl)) (by kernel_rfl) (by kernel_rfl) (by kernel_rfl)
   (by rw [MakeChecks.laidMetH_plain _ _ _ (by kernel_rfl)];exact laidMet_laidAll _ (by kernel_rfl) (by kernel_rfl))) ?_
 intro W base args ds gs before hval0 hW hGl
 have hval:∀ (j:Nat) t v,Tryz.f4.params[j]?=some t→args[j]?=some v→Value.okWide Tryz.prog W .any base t v:=hval0
 have hW':=hW
 obtain ⟨p,q,hA0,hV,rfl,hfz,hnd⟩:=hW
 have hA:DataW.TrodAll enc Tryz.prog W 0 (fun _=>true) true Tryz.f4.params.toList args.toList ds p:=hA0
 rw [Tryz.params4] at hA hval
 obtain ⟨v0,vs0,d0,ds0,p0,q0,hargs,rfl,rfl,h0,r0⟩:=trodAll_cons hA
 obtain ⟨rfl,rfl,rfl⟩:=trodAll_nil r0
 obtain rfl:args=#[v0]:=by cases args;simp_all
 obtain ⟨rfl,rfl⟩:=trodVars_none hV
 obtain ⟨a0,len0,cap0,rfl⟩:=okWide_slice Tryz.underlying22 (hval 0 22 v0 rfl rfl)
 have k0:=h0
 have lt0:∀ x∈p0,x.block<W.heap.size:=by obtain ⟨m,hm⟩:=k0;exact DataW.trod_lt m _ _ _ hm
 obtain ⟨z0,w0⟩:∃ zs,Laid.IsRow .u8 W a0 len0 cap0 zs:=by
  obtain ⟨fuel,hf⟩:=h0
  rcases open_ints Tryz.underlying22 Tryz.underlying5 (by kernel_rfl) hf with ⟨hcs,_⟩|⟨x,l,c,zs,hcs,_,hl,hm,hz,_,hcell,hwz⟩
  ·simp [Value.cells] at hcs
   obtain ⟨rfl,rfl,rfl⟩:=hcs
   exact ⟨[],.inl ⟨rfl,rfl,rfl,rfl⟩⟩
  ·simp [Value.cells] at hcs
   obtain ⟨rfl,rfl,rfl⟩:=hcs
   exact ⟨zs,.inr ⟨x,rfl,hl,hm,hz,hcell,hwz⟩⟩
 obtain ⟨bs0,rfl,hl0,hm0,hr0⟩:=Laid.bytes_of w0
 clear hA0 hval0
 simp only [List.append_nil,List.nil_append] at hW'
 refine (walkWrapped a0 cap0 bs0 W hGl ⟨hl0,hm0,hr0⟩).mono fun e W' ⟨he,bel⟩=>?_
 subst he
 exact ⟨_,rfl,_,_,_,[],_,[],hW',trodAll_mk1 (shut_bool Tryz.underlying4 _),(trodAll_cons_mk (Below.trod laidOut (by kernel_rfl) (of_decide_eq_true (by kernel_rfl)) k0 bel lt0) trodAll_mk0),rfl,bel.frame _,fun h=>by cases h⟩
theorem said:Rows.ParseWrappedSaid:=
 OpenClaim.holds_of_wide 4 Tryz.f4 rfl rfl rfl rfl rfl rfl rfl ⟨rfl,rfl,rfl,rfl,rfl⟩ rfl rfl rfl rfl rfl (by kernel_rfl) Tryz.func4 (by kernel_rfl)
  (of_decide_eq_true (by kernel_rfl)) (by unfold Func.isWrapper;first|(rw [if_pos (by decide +kernel)];kernel_rfl)|(rw [if_neg (by decide +kernel)];exact ⟨rfl,rfl⟩))
  (fun os started H enc _=>lifted os started H enc)
theorem plain (f:FuncId) (fn:Func) (hf:Tryz.pinned.checked.prog.funcNamed "clew/clewlaw08.ParseWrapped"=some f) (hfn:Tryz.pinned.checked.prog.funcs[f]?=some fn) :
  false=Tryz.pinned.checked.prog.looks []∧∀ (j:Nat) t,fn.params[j]?=some t→Tryz.pinned.checked.prog.wantsStandIn t=false:=by
 obtain rfl:f=4:=Option.some.inj ((show Tryz.prog.funcNamed "clew/clewlaw08.ParseWrapped"=some 4 by kernel_rfl).symm.trans hf) |>.symm
 obtain rfl:fn=Tryz.f4:=(Option.some.inj (Tryz.func4.symm.trans hfn)).symm
 refine ⟨by kernel_rfl,fun j t ht=>?_⟩
 rw [Tryz.params4] at ht
 have hm:t∈[22]:=by simpa using Array.mem_of_getElem? ht
 have hall:([22].all fun u=>!Tryz.prog.wantsStandIn u)=true:=by kernel_rfl
 exact (show Tryz.prog.wantsStandIn t=false by simpa using List.all_eq_true.1 hall t hm)
theorem card:Rows.ParseWrappedCardSaid:=
 Claim7.holds_tied_plain_at .later [] _ _ _ _ said (fun _ h=>by cases h) (by kernel_rfl) (fun _ h=>by cases h) parseWrapped_row_tie rfl ⟨rfl,rfl⟩ (by kernel_rfl) rfl plain (by kernel_rfl)
end Go.Proofs.YtmphmddmfcaldaaGreatDoor.PaLawWrapped
