/-
  The reader's leaf, walked: a node without kids from its place up to another one.
-/
import Derived.Laws.Runes
import Derived.Test.YtmlbklcmblofkaaGreatDoorMPaPu
import Derived.Test.YtmlbklcmblofkaaGreatDoorMScE
import Derived.StillTailTactics
set_option linter.unusedSimpArgs false
set_option linter.unusedVariables false
set_option maxHeartbeats 4000000
set_option maxRecDepth 100000
namespace Go.Proofs.YtmlbklcmblofkaaGreatDoor.Sc
open Go.RowKit Mem
def strC (bs:List UInt8) (W:World):Nat:=grownCap W bs.length 0 5
def strW (bs:List UInt8) (W:World):World:=W.drew.alloc (.cells (bytesRow ⟨bs.toArray⟩ (strC bs W)) 5 ((bytesRow ⟨bs.toArray⟩ (strC bs W)).size,(bytesRow ⟨bs.toArray⟩ (strC bs W)).size+1))
theorem conv_txt (s:List UInt8) (W:World):(convert 9 43 (.string ⟨s.toArray⟩)).run Tryz.prog W=.ok (.slice (some ⟨W.heap.size,0,none⟩) s.length (strC s W)) (strW s W):=by
 rw [run_bytes_of_string (P:=Tryz.prog) W _ _ _ _ Tryz.underlying9 Tryz.underlying43 Tryz.underlying5]
 have hs:(⟨s.toArray⟩:ByteArray).size=s.length:=by show s.toArray.size=_;simp
 rw [hs]
 rfl
theorem strW_below (bs:List UInt8) (W:World):Below W.heap.size W (strW bs W):=((Below.refl _ W).drew).alloc (Nat.le_refl _) _
theorem strW_size (bs:List UInt8) (W:World):(strW bs W).heap.size=W.heap.size+1:=by
 unfold strW
 rw [World.size_alloc]
 rfl
theorem strW_pv (bs:List UInt8) (W:World) (hl:bs.length≤4096):PV bs (some ⟨W.heap.size,0,none⟩) (strC bs W) (strW bs W):=by
 have h1:=grownCap_ge W bs.length 0 5
 have h2:=grownCap_le_maxLen W bs.length 0 5 (by unfold maxLen;omega)
 unfold maxLen at h2
 have hsz:=strW_size bs W
 refine ⟨h1,by unfold strC;omega,by rw [List.length_map,Nat.mul_one],fun _=>⟨_,rfl,by rw [hsz];simp,fun j u hu=>?_⟩⟩
 unfold strW
 rw [Go.WideShapes.add_plain,Nat.zero_add,show W.heap.size=W.drew.heap.size from rfl,World.cell?_alloc_mark]
 unfold bytesRow
 rw [Array.getElem?_append_left (by
  have:=(List.getElem?_eq_some_iff.1 hu).1
  simpa using this)]
 rw [← Array.getElem?_toList]
 simpa using hu
end Go.Proofs.YtmlbklcmblofkaaGreatDoor.Sc
namespace Go.Proofs.YtmlbklcmblofkaaGreatDoor.Pa
section
open Go.RowKit Mem
open Sy (g g_of)
open Sc (PV tailA tail_str)
def stB (bs:List UInt8) (k:Nat) (q:List UInt8):Bool:=decide ((bs.drop k).take q.length=q)
theorem stB_is:∀ (q:List UInt8) (bs:List UInt8) (k:Nat),(∀ c∈q,c.toNat≠0)→stB bs k q=stA bs k (q.map (·.toNat))
 | [],bs,k,_=>by simp [stB,stA]
 | c :: q,bs,k,h=>by
  have ih:=stB_is q bs (k+1) fun x hx=>h x (List.mem_cons_of_mem _ hx)
  have hc:=h c List.mem_cons_self
  show _=(decide (g bs k=c.toNat)&&stA bs (k+1) (q.map (·.toNat)))
  rw [← ih]
  unfold stB
  rcases Nat.lt_or_ge k bs.length with hk|hk
  ·rw [List.drop_eq_getElem_cons hk,List.length_cons,List.take_succ_cons,g_of (List.getElem?_eq_getElem hk)]
   by_cases e:bs[k]=c
   ·subst e;simp
   ·have e2:¬ bs[k].toNat=c.toNat:=fun h2=>e (UInt8.toNat_inj.1 h2)
    simp [e,e2]
  ·rw [List.drop_eq_nil_of_le hk,Sc.g_out hk]
   have:¬ (0=c.toNat):=fun e=>hc e.symm
   simp [this]
theorem equal_any (xs ys:List UInt8) (A C:Option Addr) (n m a c:Nat) (w:World)
  (k1:(convert 43 9 (.slice A n a)).run Tryz.prog w=.ok (.string ⟨xs.toArray⟩) w)
  (k2:(convert 43 9 (.slice C m c)).run Tryz.prog w=.ok (.string ⟨ys.toArray⟩) w) :
  Calls Tryz.prog 46 #[.slice A n a,.slice C m c] w fun e w'=>e=.returned (.bool (decide (xs=ys)))∧w'=w:=by
 by_cases h:xs=ys
 ·subst h
  rw [decide_eq_true rfl]
  have e1:(xs==xs)=true:=by simp
  go_enter Tryz.func46,Tryz.ntmps46
  go_wp2
  go_ret
  exact ⟨rfl,rfl⟩
 ·rw [decide_eq_false h]
  have e1:(xs==ys)=false:=by simpa using h
  go_enter Tryz.func46,Tryz.ntmps46
  go_wp2
  go_ret
  exact ⟨rfl,rfl⟩
theorem prefix_any (bs:List UInt8) (b off m cap G c:Nat) (q:List UInt8) (w:World) (hP:PV bs (some ⟨b,off,none⟩) cap w) (hm:m≤bs.length) (hQ:PV q (some ⟨G,0,none⟩) c w) (hq0:0<q.length) (hq8:q.length≤8) :
  Calls Tryz.prog 41 #[.slice (tailA b off cap m) (bs.length-m) (cap-m),.slice (some ⟨G,0,none⟩) q.length c] w fun e w'=>e=.returned (.bool (stB bs m q))∧w'=w:=by
 have hroom:=hP.room
 have htop:=hP.top
 have hr2:=hQ.room
 by_cases hlen:q.length≤bs.length-m
 ·have k1:=fun c=>tail_str (m:=m) (o:=q.length) hP (by omega) c
  have k2:=Str.conv_str q w.heap.size q.length c (some ⟨G,0,none⟩) w rfl hQ.reads
  have CE:=hide (fun a=>equal_any ((bs.drop m).take q.length) q (tailA b off cap m) (some ⟨G,0,none⟩) q.length q.length a c w (k1 a) k2)
  have hli:(q.length:Int)≤(bs.length:Int)-(m:Int):=by omega
  have hlc:(q.length:Int)≤(cap:Int)-(m:Int):=by omega
  have hl2:(q.length:Int)≤((bs.length-m:Nat):Int):=by omega
  have hl3:(q.length:Int)≤((cap-m:Nat):Int):=by omega
  have hl4:q.length≤cap-m:=by omega
  rw [show stB bs m q=decide ((bs.drop m).take q.length=q) from rfl]
  generalize tailA b off cap m=T at *
  generalize decide ((bs.drop m).take q.length=q)=z at *
  generalize bs.length-m=n1 at *
  generalize cap-m=n2 at *
  clear k1 k2 hP hQ
  go_enter Tryz.func41,Tryz.ntmps41
  go_wp2_with fail
  refine (CE.1 _).mono ?_
  rintro e w1 ⟨rfl,hw1⟩
  obtain rfl:_=w1:=hw1.symm
  go_wp2_with fail
  go_ret
  exact ⟨rfl,rfl⟩
 ·have hz:stB bs m q=false:=by
   unfold stB
   rw [decide_eq_false]
   intro e
   have:=congrArg List.length e
   rw [List.length_take,List.length_drop] at this
   omega
  rw [hz]
  have hli:((bs.length-m:Nat):Int)<(q.length:Int):=by omega
  generalize tailA b off cap m=T at *
  generalize bs.length-m=n1 at *
  generalize cap-m=n2 at *
  clear hP hQ hz
  go_enter Tryz.func41,Tryz.ntmps41
  go_wp2_with fail
  go_ret
  exact ⟨rfl,rfl⟩
end
section
open Go.RowKit Mem
open Sc (PV Gl)
open As (str)
variable {w w0:World} {bs:List UInt8} {A:Option Addr} {cap rb nest:Nat} {st:St} {nv:Value}
def RdC (A:Option Addr) (n cap:Nat) (st:St) (nest:Nat) (nv:Value):Array Value:=
 #[.slice A n cap,.int .i64 (st.pos:Int),.bool st.fl.i,.bool st.fl.m,.bool st.fl.s,.bool st.fl.x,.int .i64 (nest:Int),nv]
def simB (bs:List UInt8):Bool:=(List.range bs.length).all fun k=>!([91,92,94,36,46].contains (Sy.g bs k))&&(Sy.g bs k != 40||(Sy.g bs (k+1)==63&&Sy.g bs (k+1+1)==60&&Sy.g bs (k+1+1+1)==61))
structure PVS (bs:List UInt8) (A:Option Addr) (cap:Nat) (w:World):Prop where
 pv:PV bs A cap w
 sim:simB bs=true
theorem PVS.below {bs:List UInt8} {A:Option Addr} {cap:Nat} {w w':World} (h:PVS bs A cap w) (hb:Below w.heap.size w w'):PVS bs A cap w':=⟨h.pv.below hb,h.sim⟩
theorem PVS.no (h:PVS bs A cap w) {k:Nat} (hk:k<bs.length) {n:Nat} (e:Sy.g bs k=n) (hn:[91,92,94,36,46].contains n=true):False:=by
 have:=List.all_eq_true.1 h.sim k (List.mem_range.2 hk)
 rw [e,hn] at this
 simp at this
theorem PVS.lb (h:PVS bs A cap w) {k:Nat} (hk:k<bs.length) (e:Sy.g bs k=40):Sy.g bs (k+1)=63∧Sy.g bs (k+1+1)=60∧Sy.g bs (k+1+1+1)=61:=by
 have:=List.all_eq_true.1 h.sim k (List.mem_range.2 hk)
 rw [Bool.and_eq_true,Bool.or_eq_true,Bool.and_eq_true,Bool.and_eq_true] at this
 rcases this.2 with h1|⟨⟨h1,h2⟩,h3⟩
 ·rw [e] at h1;simp at h1
 ·exact ⟨beq_iff_eq.1 h1,beq_iff_eq.1 h2,beq_iff_eq.1 h3⟩
structure Rd (bs:List UInt8) (A:Option Addr) (cap:Nat) (w0:World) (rb nest:Nat) (st:St) (nv:Value) (w:World):Prop where
 blk:Blk w rb 75 (RdC A bs.length cap st nest nv)
 base:Below w0.heap.size w0 w
 above:w0.heap.size≤rb
 pv:PVS bs A cap w0
 glob:Gl w0
 pos:st.pos≤bs.length
 top:bs.length≤4096
 deep:nest≤100
 many:1≤st.names.length∧st.names.length≤100
 own:w.ownsRow w0.heap.size 9 1 nv st.names.length (st.names.map str)
theorem Rd.c0 (h:Rd bs A cap w0 rb nest st nv w):w.cell? ⟨rb,0,none⟩=some (.slice A bs.length cap):=h.blk.cell 0
theorem Rd.c1 (h:Rd bs A cap w0 rb nest st nv w):w.cell? ⟨rb,1,none⟩=some (.int .i64 (st.pos:Int)):=h.blk.cell 1
theorem Rd.c2 (h:Rd bs A cap w0 rb nest st nv w):w.cell? ⟨rb,2,none⟩=some (.bool st.fl.i):=h.blk.cell 2
theorem Rd.c3 (h:Rd bs A cap w0 rb nest st nv w):w.cell? ⟨rb,3,none⟩=some (.bool st.fl.m):=h.blk.cell 3
theorem Rd.c4 (h:Rd bs A cap w0 rb nest st nv w):w.cell? ⟨rb,4,none⟩=some (.bool st.fl.s):=h.blk.cell 4
theorem Rd.c5 (h:Rd bs A cap w0 rb nest st nv w):w.cell? ⟨rb,5,none⟩=some (.bool st.fl.x):=h.blk.cell 5
theorem Rd.c6 (h:Rd bs A cap w0 rb nest st nv w):w.cell? ⟨rb,6,none⟩=some (.int .i64 (nest:Int)):=h.blk.cell 6
theorem Rd.c7 (h:Rd bs A cap w0 rb nest st nv w):w.cell? ⟨rb,7,none⟩=some nv:=h.blk.cell 7
theorem Rd.pvW (h:Rd bs A cap w0 rb nest st nv w):PV bs A cap w:=h.pv.pv.below h.base
theorem Rd.glW (h:Rd bs A cap w0 rb nest st nv w):Gl w:=h.glob.below h.base
structure Turn (rb:Nat) (row:Option Nat) (w w':World):Prop where
 os:w'.os=w.os
 tape:w'.tape=w.tape
 output:w'.output=w.output
 size:w.heap.size≤w'.heap.size
 block:∀ k,k<w.heap.size→k≠rb→some k≠row→w'.heap[k]?=w.heap[k]?
theorem Turn.of_below {row:Option Nat} {w':World} (h:Below w.heap.size w w'):Turn rb row w w':=⟨h.os,h.tape,h.output,h.size,fun k hk _ _=>h.block k hk⟩
theorem Turn.trans {rb:Nat} {row row':Option Nat} {a b c:World} (h:Turn rb row a b) (k:Turn rb row' b c) (hr:row'=row∨∃ j,row'=some j∧a.heap.size≤j):Turn rb row a c:=
 ⟨k.os.trans h.os,k.tape.trans h.tape,k.output.trans h.output,Nat.le_trans h.size k.size,fun i hi h1 h2=>(k.block i (Nat.lt_of_lt_of_le hi h.size) h1 (by
  rcases hr with rfl|⟨j,rfl,hj⟩
  ·exact h2
  ·intro e;injection e with e;omega)).trans (h.block i hi h1 h2)⟩
theorem Turn.base {row:Option Nat} {w':World} (h:Turn rb row w w') (hb:Below w0.heap.size w0 w) (h1:w0.heap.size≤rb) (h2:∀ j,row=some j→w0.heap.size≤j):Below w0.heap.size w0 w':=
 hb.trans ⟨h.os,h.tape,h.output,h.size,fun k hk=>h.block k (Nat.lt_of_lt_of_le hk hb.size) (by omega) (fun e=>by have:=h2 k e.symm;omega)⟩
theorem Rd.below {bs:List UInt8} {A:Option Addr} {cap:Nat} {w0:World} {rb nest:Nat} {st:St} {nv:Value} {w w':World} (h:Rd bs A cap w0 rb nest st nv w) (hb:Below w.heap.size w w'):Rd bs A cap w0 rb nest st nv w':=
 { h with blk:=h.blk.below hb h.blk.lt,base:=h.base.trans (hb.mono h.base.size),own:=Rs.own_below h.own hb }
end
section
open Go.RowKit Mem
open Sc (tailA strW strC conv_txt strW_below strW_pv)
variable {rb cap nest:Nat} {w w0:World} {st:St} {nv:Value} {A:Option Addr} {bs:List UInt8}
def SS (rb:Nat) (w:World) (C:Array Value) (wx:World):Prop:=Blk wx rb 75 C∧Below w.heap.size w wx
theorem SS.below {rb:Nat} {w:World} {C:Array Value} {wx wy:World} (h:SS rb w C wx) (hb:Below wx.heap.size wx wy):SS rb w C wy:=⟨h.1.below hb h.1.lt,h.2.trans (hb.mono h.2.size)⟩
theorem SS.held {n:Nat} {wx:World} (h:SS rb w (RdC A n cap st nest nv) wx) :
  Hd (SS rb w (RdC A n cap st nest nv) wx)∧wx.cell? ⟨rb,0,none⟩=some (.slice A n cap)∧wx.cell? ⟨rb,1,none⟩=some (.int .i64 (st.pos:Int)):=⟨hide h,h.1.cell 0,h.1.cell 1⟩
theorem SS.held0 {n:Nat} {wx:World} (hp:st.pos=0) (h:SS rb w (RdC A n cap st nest nv) wx) :
  Hd (SS rb w (RdC A n cap st nest nv) wx)∧wx.cell? ⟨rb,0,none⟩=some (.slice A n cap)∧wx.cell? ⟨rb,1,none⟩=some (.int .i64 0):=⟨hide h,h.1.cell 0,(h.1.cell 1).trans (by unfold RdC;rw [hp];rfl)⟩
theorem rd_flat (h:Rd bs A cap w0 rb nest st nv w):(∃ b off,A=some ⟨b,off,none⟩)∨(bs=[]∧st.pos=0):=by
 rcases Nat.eq_zero_or_pos bs.length with h0|h0
 ·have:=h.pos
  exact .inr ⟨List.eq_nil_of_length_eq_zero h0,by omega⟩
 ·obtain ⟨b,off,e,-,-⟩:=h.pvW.cell h0
  exact .inl ⟨b,off,e⟩
theorem stB_nil {q:List UInt8} (hq0:0<q.length) (k:Nat):stB [] k q=false:=by
 unfold stB
 rw [decide_eq_false]
 intro e
 have:=congrArg List.length e
 simp at this
 omega
theorem prefix_nil (T:Option Addr) (c2:Nat) (G c:Nat) (n:Nat) (w:World) (hn:0<n) (hc:(n:Int)≤8) :
  Calls Tryz.prog 41 #[.slice T 0 c2,.slice (some ⟨G,0,none⟩) n c] w fun e w'=>e=.returned (.bool false)∧w'=w:=by
 have hni:(0:Int)<(n:Int):=by omega
 have hd:decide (n≤0)=false:=decide_eq_false (by omega)
 go_enter Tryz.func41,Tryz.ntmps41
 go_wp2_with fail
 go_ret
 exact ⟨rfl,rfl⟩
theorem stands_in {b off:Nat} (h:Rd bs (some ⟨b,off,none⟩) cap w0 rb nest st nv w) (q:List UInt8) (hq0:0<q.length) (hq8:q.length≤8) :
  Calls Tryz.prog 35 #[.pointer (some ⟨rb,0,none⟩),.string ⟨q.toArray⟩] w fun e w'=>e=.returned (.bool (stB bs st.pos q))∧Below w.heap.size w w':=by
 have hS:=hide (show SS rb w (RdC (some ⟨b,off,none⟩) bs.length cap st nest nv) w from ⟨h.blk,Below.refl _ _⟩)
 have hP:=h.pvW
 have hroom:=hP.room
 have htop:=hP.top
 have hpos:=h.pos
 have hposi:(st.pos:Int)≤(bs.length:Int):=by omega
 have hcapi:(st.pos:Int)≤(cap:Int):=by omega
 have HP:=hide hP
 have HP8:=hide hpos
 have kc:=fun (W:World)=>conv_txt q W
 have CH:=hide (fun W (hb:Below w.heap.size w W)=>prefix_any bs b off st.pos cap W.heap.size (strC q W) q (strW q W) ((HP.1.below hb).below (strW_below q W)) HP8.1 (strW_pv q W (by omega)) hq0 hq8)
 unfold tailA at CH
 obtain ⟨T,hT⟩:∃ T,(if cap=st.pos then some (⟨b,off,none⟩:Addr) else some ⟨b,off+st.pos,none⟩)=T:=⟨_,rfl⟩
 rw [hT] at CH
 generalize stB bs st.pos q=z at *
 clear hP h hpos
 go_enter Tryz.func35,Tryz.ntmps35
 go_wp2_with fail
 refine wp_region_noPanic ?_
 refine wp_region_held_drew (S:=(fun wx=>Hd (SS rb w (RdC (some ⟨b,off,none⟩) bs.length cap st nest nv) wx)∧wx.cell? ⟨rb,0,none⟩=some (.slice (some ⟨b,off,none⟩) bs.length cap)∧wx.cell? ⟨rb,1,none⟩=some (.int .i64 (st.pos:Int)))) (by kernel_rfl) (SS.held (hS.1.below (Below.refl _ _).drew)) (fun hHeld=>?_)
 refine tkH 0 (some 5) ?v0 rfl ?y0 hHeld ?r0
 case y0=>(intro w hSw;(try dsimp only at hSw);go_simp;try with_reducible rfl)
 try simp only [aP]
 refine tkH 1 (some 6) ?v1 rfl ?y1 hHeld ?r1
 case y1=>(intro w hSw;(try dsimp only at hSw);go_simp;try with_reducible rfl)
 try simp only [aP]
 refine tkH 2 (some 7) ?v2 rfl ?y2 hHeld ?r2
 case y2=>(intro w hSw;(try dsimp only at hSw);go_simp;try with_reducible rfl)
 try simp only [aP]
 refine tkH 3 (some 8) ?v3 rfl ?y3 hHeld ?r3
 case y3=>(intro w hSw;(try dsimp only at hSw);go_simp;try with_reducible rfl)
 try simp only [aP]
 refine tkH 4 (some 9) ?v4 rfl ?y4 hHeld ?r4
 case y4=>(intro w hSw;(try dsimp only at hSw);go_simp;try with_reducible rfl)
 try simp only [aP]
 refine tkH 5 (some 10) ?v5 rfl ?y5 hHeld ?r5
 case y5=>(intro w hSw;(try dsimp only at hSw);go_simp;try with_reducible rfl)
 try simp only [aP]
 refine tkH 6 (some 11) ?v6 rfl ?y6 hHeld ?r6
 case y6=>(intro w hSw;(try dsimp only at hSw);go_simp;try with_reducible rfl)
 try simp only [aP]
 refine tkH 7 (some 12) ?v7 rfl ?y7 hHeld ?r7
 case y7=>(intro w hSw;(try dsimp only at hSw);go_simp;try with_reducible rfl)
 try simp only [aP]
 refine tkH 8 (some 13) ?v8 rfl ?y8 hHeld ?r8
 case y8=>(intro w hSw;(try dsimp only at hSw);go_simp;try with_reducible rfl)
 try simp only [aP]
 refine tkH 9 (some 14) ?v9 rfl ?y9 hHeld ?r9
 case y9=>(intro w hSw;(try dsimp only at hSw);go_simp;try with_reducible rfl)
 try simp only [aP]
 refine wpAnyH_ready (rs:=[10]) (by kernel_rfl) (by simp) ?_
 refine AllReadyH.cons (o:=⟨some 15,_,_,_,_,_⟩) rfl (fun K hK=>?_) AllReadyH.nil
 go_simp
 refine hK.out _ _ (SS.held ((hS.1.below (Below.refl _ _).drew).below (strW_below _ _))) (fun hHeld2=>?_)
 clear hK K
 try simp only [aP]
 refine wpAnyH_ready (rs:=[11]) (by kernel_rfl) (by simp) ?_
 refine AllReadyH.cons (o:=⟨some 16,_,_,_,_,_⟩) rfl (fun K hK=>?_) AllReadyH.nil
 go_simp
 refine (CH.1 w.drew (Below.refl _ _).drew).mono ?_
 rintro e w5 ⟨rfl,hw5⟩
 obtain rfl:_=w5:=hw5.symm
 go_wp2_with fail
 refine hK.out _ _ hHeld2 (fun hHeld3=>?_)
 clear hK K
 try simp only [aP]
 refine tkH 12 (some 4) ?v12 rfl ?y12 hHeld3 ?r12
 case y12=>(intro w hSw;(try dsimp only at hSw);go_simp;try with_reducible rfl)
 try simp only [aP]
 refine wpAnyH_done (by kernel_rfl) ?_ _
 refine NoPanic.normal ?_
 have hB:=hide (hHeld3.1.1).2
 clear hHeld hHeld2 hHeld3
 go_wp2
 go_ret
 exact ⟨rfl,hB.1⟩
theorem stands_nil (h:Rd bs A cap w0 rb nest st nv w) (hn:bs=[]) (hp:st.pos=0) (q:List UInt8) (hq0:0<q.length) (hq8:q.length≤8) :
  Calls Tryz.prog 35 #[.pointer (some ⟨rb,0,none⟩),.string ⟨q.toArray⟩] w fun e w'=>e=.returned (.bool false)∧Below w.heap.size w w':=by
 have hn0:bs.length=0:=by rw [hn];rfl
 have hb0:=h.blk
 rw [hn0] at hb0
 have hS:=hide (show SS rb w (RdC A 0 cap st nest nv) w from ⟨hb0,Below.refl _ _⟩)
 have hP:=h.pvW
 have hroom:=hP.room
 have htop:=hP.top
 have hpos:=h.pos
 have hposi:(st.pos:Int)≤(0:Int):=by omega
 have hcapi:(st.pos:Int)≤(cap:Int):=by omega
 have HP:=hide hP
 have HP8:=hide hpos
 have hp:=hide hp
 have kc:=fun (W:World)=>conv_txt q W
 have CH:=hide (fun W (hb:Below w.heap.size w W)=>prefix_nil A cap W.heap.size (strC q W) q.length (strW q W) hq0 (by omega))
 clear hP h hpos hb0 hn hn0
 go_enter Tryz.func35,Tryz.ntmps35
 go_wp2_with fail
 refine wp_region_noPanic ?_
 refine wp_region_held_drew (S:=(fun wx=>Hd (SS rb w (RdC A 0 cap st nest nv) wx)∧wx.cell? ⟨rb,0,none⟩=some (.slice A 0 cap)∧wx.cell? ⟨rb,1,none⟩=some (.int .i64 0))) (by kernel_rfl) (SS.held0 hp.1 (hS.1.below (Below.refl _ _).drew)) (fun hHeld=>?_)
 refine tkH 0 (some 5) ?v0 rfl ?y0 hHeld ?r0
 case y0=>(intro w hSw;(try dsimp only at hSw);go_simp;try with_reducible rfl)
 try simp only [aP]
 refine tkH 1 (some 6) ?v1 rfl ?y1 hHeld ?r1
 case y1=>(intro w hSw;(try dsimp only at hSw);go_simp;try with_reducible rfl)
 try simp only [aP]
 refine tkH 2 (some 7) ?v2 rfl ?y2 hHeld ?r2
 case y2=>(intro w hSw;(try dsimp only at hSw);go_simp;try with_reducible rfl)
 try simp only [aP]
 refine tkH 3 (some 8) ?v3 rfl ?y3 hHeld ?r3
 case y3=>(intro w hSw;(try dsimp only at hSw);go_simp;try with_reducible rfl)
 try simp only [aP]
 refine tkH 4 (some 9) ?v4 rfl ?y4 hHeld ?r4
 case y4=>(intro w hSw;(try dsimp only at hSw);go_simp;try with_reducible rfl)
 try simp only [aP]
 refine tkH 5 (some 10) ?v5 rfl ?y5 hHeld ?r5
 case y5=>(intro w hSw;(try dsimp only at hSw);go_simp;try with_reducible rfl)
 try simp only [aP]
 refine tkH 6 (some 11) ?v6 rfl ?y6 hHeld ?r6
 case y6=>(intro w hSw;(try dsimp only at hSw);go_simp;try with_reducible rfl)
 try simp only [aP]
 refine tkH 7 (some 12) ?v7 rfl ?y7 hHeld ?r7
 case y7=>(intro w hSw;(try dsimp only at hSw);go_simp;try with_reducible rfl)
 try simp only [aP]
 refine tkH 8 (some 13) ?v8 rfl ?y8 hHeld ?r8
 case y8=>(intro w hSw;(try dsimp only at hSw);go_simp;try with_reducible rfl)
 try simp only [aP]
 refine tkH 9 (some 14) ?v9 rfl ?y9 hHeld ?r9
 case y9=>(intro w hSw;(try dsimp only at hSw);go_simp;try with_reducible rfl)
 try simp only [aP]
 refine wpAnyH_ready (rs:=[10]) (by kernel_rfl) (by simp) ?_
 refine AllReadyH.cons (o:=⟨some 15,_,_,_,_,_⟩) rfl (fun K hK=>?_) AllReadyH.nil
 go_simp
 refine hK.out _ _ (SS.held0 hp.1 ((hS.1.below (Below.refl _ _).drew).below (strW_below _ _))) (fun hHeld2=>?_)
 clear hK K
 try simp only [aP]
 refine wpAnyH_ready (rs:=[11]) (by kernel_rfl) (by simp) ?_
 refine AllReadyH.cons (o:=⟨some 16,_,_,_,_,_⟩) rfl (fun K hK=>?_) AllReadyH.nil
 go_simp
 refine (CH.1 w.drew (Below.refl _ _).drew).mono ?_
 rintro e w5 ⟨rfl,hw5⟩
 obtain rfl:_=w5:=hw5.symm
 go_wp2_with fail
 refine hK.out _ _ hHeld2 (fun hHeld3=>?_)
 clear hK K
 try simp only [aP]
 refine tkH 12 (some 4) ?v12 rfl ?y12 hHeld3 ?r12
 case y12=>(intro w hSw;(try dsimp only at hSw);go_simp;try with_reducible rfl)
 try simp only [aP]
 refine wpAnyH_done (by kernel_rfl) ?_ _
 refine NoPanic.normal ?_
 have hB:=hide (hHeld3.1.1).2
 clear hHeld hHeld2 hHeld3
 go_wp2
 go_ret
 exact ⟨rfl,hB.1⟩
theorem stands_any (h:Rd bs A cap w0 rb nest st nv w) (q:List UInt8) (hq0:0<q.length) (hq8:q.length≤8) :
  Calls Tryz.prog 35 #[.pointer (some ⟨rb,0,none⟩),.string ⟨q.toArray⟩] w fun e w'=>e=.returned (.bool (stB bs st.pos q))∧Below w.heap.size w w':=by
 rcases rd_flat h with ⟨b,off,rfl⟩|⟨hn,hp⟩
 ·exact stands_in h q hq0 hq8
 ·rw [show stB bs st.pos q=false by rw [hn];exact stB_nil hq0 _]
  exact stands_nil h hn hp q hq0 hq8
end
section
open Go.RowKit Mem
open Sc (blk)
variable {rb:Nat} {w:World}
theorem Rd.store {bs:List UInt8} {A:Option Addr} {cap:Nat} {w0:World} {nest nest':Nat} {st st':St} {nv:Value} (h:Rd bs A cap w0 rb nest st nv w) (i:Nat) (u:Value)
  (hC:(RdC A bs.length cap st nest nv).setIfInBounds i u=RdC A bs.length cap st' nest' nv) (hp:st'.pos≤bs.length) (hd:nest'≤100) (hn:st'.names=st.names) :
  Rd bs A cap w0 rb nest' st' nv (w.setCell ⟨rb,i,none⟩ u):=by
 have hne:=own_blk_ne h.own h.blk (by decide)
 refine { h with blk:=?_,base:=h.base.setCell (p:=⟨rb,i,none⟩) h.above u,pos:=hp,deep:=hd,many:=by rw [hn];exact h.many,own:=?_ }
 ·have:=h.blk.set_ i u
  rwa [hC] at this
 ·rw [hn]
  refine ⟨h.own.1,?_⟩
  rcases h.own.2 with h2|⟨b,c,cur,rfl,h1,h2,h3⟩
  ·exact .inl h2
  ·have hbg:b≠rb:=fun e=>hne (by rw [e];rfl)
   exact .inr ⟨b,c,cur,rfl,h1,(Below.heap_setCell w ⟨rb,i,none⟩ u b hbg).trans h2,h3⟩
theorem turn_set {i:Nat} {row:Option Nat} {w':World} (h:Turn rb row w w') (u:Value):Turn rb row w (w'.setCell ⟨rb,i,none⟩ u):=
 ⟨h.os,h.tape,h.output,by simpa [World.setCell] using h.size,fun k hk h1 h2=>(Below.heap_setCell w' ⟨rb,i,none⟩ u k h1).trans (h.block k hk h1 h2)⟩
theorem Rd.drew {bs:List UInt8} {A:Option Addr} {cap:Nat} {w0:World} {rb nest:Nat} {st:St} {nv:Value} {w:World} (h:Rd bs A cap w0 rb nest st nv w):Rd bs A cap w0 rb nest st nv w.drew:=h.below (Below.refl _ _).drew
theorem skip_any {bs:List UInt8} {A:Option Addr} {cap:Nat} {w0:World} {nest:Nat} {st:St} {nv:Value} (h:Rd bs A cap w0 rb nest st nv w) (row:Option Nat) :
  Calls Tryz.prog 37 #[.pointer (some ⟨rb,0,none⟩)] w fun e w'=>e=.returned (.tuple #[])∧Rd bs A cap w0 rb nest (skipP bs st) nv w'∧Turn rb row w w':=by
 have HH:=hide h
 have c0:w.cell? ⟨rb,0,none⟩=some (.slice A bs.length cap):=h.blk.cell 0
 have c1:w.cell? ⟨rb,1,none⟩=some (.int .i64 (st.pos:Int)):=h.blk.cell 1
 have c5:w.cell? ⟨rb,5,none⟩=some (.bool st.fl.x):=h.blk.cell 5
 have f1:=h.blk.frozen 1
 have htop:=h.top
 have hpos:=h.pos
 cases hx:st.fl.x with
 | false=>
  rw [hx] at c5
  have HQ:=hide (show skipP bs st=st by unfold skipP;rw [hx];rfl)
  clear h hx
  go_enter Tryz.func37,Tryz.ntmps37
  go_wp2_with fail
  exact bodyPost_end (v:=.tuple #[]) (by simp [results,Tryz.f37]) rfl ⟨rfl,by rw [HQ.1];exact HH.1,Turn.of_below (Below.refl _ _)⟩
 | true=>
  rw [hx] at c5
  have hz:=Sc.blk_le bs st.pos false
  have HQ:=hide (show skipP bs st={ st with pos:=blk bs st.pos false } by unfold skipP;rw [hx];rfl)
  have CB:=hide (fun W (hb:Below w.heap.size w W)=>Sc.pblank_any bs A cap (st.pos:Int) W (h.pvW.below hb) (by omega))
  rw [show Sc.blz bs (st.pos:Int)=(blk bs st.pos false:Int) by unfold Sc.blz;rw [if_pos (by omega),Int.toNat_natCast]] at CB
  have hz2:blk bs st.pos false≤bs.length:=by omega
  clear hx h
  generalize blk bs st.pos false=z at *
  have HZ:=hide hz2
  clear hz hz2
  go_enter Tryz.func37,Tryz.ntmps37
  go_wp2_with fail
  go_still_tail 12,(by kernel_rfl)
  still_call (CB.1 w.drew (Below.refl _ _).drew)
  repeat still_step
  refine wpStill_nil ?_
  change wpList _ _ _ _ _ w.drew
  have HH':=hide HH.1.drew
  go_wp2_with fail
  exact bodyPost_end (v:=.tuple #[]) (by simp [results,Tryz.f37]) rfl ⟨rfl,by rw [HQ.1];exact HH'.1.store 1 _ rfl HZ.1 HH.1.deep rfl,turn_set (Turn.of_below (Below.refl _ _).drew) _⟩
end
section
open Go.RowKit Mem
open Sc (blk)
def RB (bs:List UInt8) (A:Option Addr) (cap:Nat) (w0:World) (rb nest:Nat) (st:St) (nv:Value) (w wx:World):Prop:=Rd bs A cap w0 rb nest st nv wx∧Below w.heap.size w wx
theorem RB.below {bs:List UInt8} {A:Option Addr} {cap:Nat} {w0:World} {rb nest:Nat} {st:St} {nv:Value} {w wx wy:World} (h:RB bs A cap w0 rb nest st nv w wx) (hb:Below wx.heap.size wx wy):RB bs A cap w0 rb nest st nv w wy:=⟨h.1.below hb,h.2.trans (hb.mono h.2.size)⟩
theorem RB.held {bs:List UInt8} {A:Option Addr} {cap:Nat} {w0:World} {rb nest:Nat} {st:St} {nv:Value} {w wx:World} (h:RB bs A cap w0 rb nest st nv w wx):Hd (RB bs A cap w0 rb nest st nv w wx)∧wx.cell? ⟨rb,0,none⟩=some (.slice A bs.length cap)∧wx.cell? ⟨rb,1,none⟩=some (.int .i64 (st.pos:Int)):=⟨hide h,h.1.blk.cell 0,h.1.blk.cell 1⟩
theorem endB_is (bs:List UInt8) (st:St) (hp:st.pos≤bs.length):endB bs st.pos=(decide ((st.pos:Int)=(bs.length:Int))||(stB bs st.pos [124]||stB bs st.pos [41])):=by
 unfold endB
 rw [stB_is [124] bs st.pos (by decide),stB_is [41] bs st.pos (by decide)]
 congr 1
 rw [Bool.eq_iff_iff,decide_eq_true_eq,decide_eq_true_eq]
 omega
theorem ended_any {bs:List UInt8} {A:Option Addr} {cap:Nat} {w0:World} {rb nest:Nat} {st:St} {nv:Value} {w:World} (h:Rd bs A cap w0 rb nest st nv w) :
  Calls Tryz.prog 38 #[.pointer (some ⟨rb,0,none⟩)] w fun e w'=>e=.returned (.bool (endB bs st.pos))∧Below w.heap.size w w':=by
 rw [endB_is bs st h.pos]
 have HS:=hide (show RB bs A cap w0 rb nest st nv w w from ⟨h,Below.refl _ _⟩)
 have C1:=hide (fun W (hr:RB bs A cap w0 rb nest st nv w W)=>stands_any hr.1 [124] (by decide) (by decide))
 have C2:=hide (fun W (hr:RB bs A cap w0 rb nest st nv w W)=>stands_any hr.1 [41] (by decide) (by decide))
 generalize stB bs st.pos [124]=a at *
 generalize stB bs st.pos [41]=b at *
 have c0:w.cell? ⟨rb,0,none⟩=some (.slice A bs.length cap):=h.blk.cell 0
 have c1:w.cell? ⟨rb,1,none⟩=some (.int .i64 (st.pos:Int)):=h.blk.cell 1
 clear h
 by_cases hp:(st.pos:Int)=(bs.length:Int)
 ·rw [decide_eq_true hp,Bool.true_or]
  have e1:((st.pos:Int)==(bs.length:Int))=true:=by simpa using hp
  clear hp C1 C2
  go_enter Tryz.func38,Tryz.ntmps38
  go_wp2_with fail
  go_still_tail 10,(by kernel_rfl)
  change wpList _ _ _ _ _ w.drew
  have HSD:=hide (HS.1.below (Below.refl _ _).drew)
  have HB:=hide HSD.1.2
  go_wp2_with fail
  go_ret
  exact ⟨rfl,HB.1⟩
 ·rw [decide_eq_false hp,Bool.false_or]
  have e1:((st.pos:Int)==(bs.length:Int))=false:=by simpa using hp
  clear hp
  cases a with
  | true=>
   go_enter Tryz.func38,Tryz.ntmps38
   go_wp2_with fail
   go_still_tail 10,(by kernel_rfl)
   change wpList _ _ _ _ _ w.drew
   have HSD:=hide (HS.1.below (Below.refl _ _).drew)
   go_wp2_with fail
   refine (C1.1 _ HSD.1).mono ?_
   rintro e w5 ⟨rfl,hb⟩
   have HS5:=hide (HSD.1.below hb)
   clear hb
   have HB:=hide HS5.1.2
   go_wp2_with fail
   go_ret
   exact ⟨rfl,HB.1⟩
  | false=>
   go_enter Tryz.func38,Tryz.ntmps38
   go_wp2_with fail
   go_still_tail 10,(by kernel_rfl)
   change wpList _ _ _ _ _ w.drew
   have HSD:=hide (HS.1.below (Below.refl _ _).drew)
   go_wp2_with fail
   refine (C1.1 _ HSD.1).mono ?_
   rintro e w5 ⟨rfl,hb⟩
   have HS5:=hide (HSD.1.below hb)
   clear hb
   go_wp2_with fail
   refine (C2.1 _ HS5.1).mono ?_
   rintro e w6 ⟨rfl,hb⟩
   have HS6:=hide (HS5.1.below hb)
   clear hb
   have HB:=hide HS6.1.2
   go_wp2_with fail
   go_ret
   exact ⟨rfl,HB.1⟩
end
section
open Go.RowKit Mem
variable {w:World} {t rb:Nat} {v0 v1 v2 v3 v4 v5 v6 v7 v8 v9:Value} {cs:Array Value} {row:Option Nat}
theorem cells2 {g:Nat} (h:Blk w g t #[v0,v1]):(w.cell? ⟨g,0,none⟩=some v0∧w.cell? ⟨g,1,none⟩=some v1)∧w.frozen? ⟨g,0,none⟩=false∧w.frozen? ⟨g,1,none⟩=false:=
 ⟨⟨h.cell 0,h.cell 1⟩,h.frozen 0,h.frozen 1⟩
theorem set2 {g:Nat} (h:Blk w g t #[v0,v1]) (u0 u1:Value):Blk ((w.setCell ⟨g,0,none⟩ u0).setCell ⟨g,1,none⟩ u1) g t #[u0,u1]:=by
 have h0:Blk (w.setCell ⟨g,0,none⟩ u0) g t #[u0,v1]:=h.set_ 0 u0
 have h1:Blk ((w.setCell ⟨g,0,none⟩ u0).setCell ⟨g,1,none⟩ u1) g t #[u0,u1]:=h0.set_ 1 u1
 exact h1
theorem far2 {g b:Nat} (h:Blk w b t cs) (hg:b≠g) (u0 u1:Value):Blk ((w.setCell ⟨g,0,none⟩ u0).setCell ⟨g,1,none⟩ u1) b t cs:=((h.far (p:=⟨g,0,none⟩) hg u0).far (p:=⟨g,1,none⟩) hg u1)
theorem cells10 {g:Nat} (h:Blk w g t #[v0,v1,v2,v3,v4,v5,v6,v7,v8,v9]):(w.cell? ⟨g,0,none⟩=some v0∧w.cell? ⟨g,1,none⟩=some v1∧w.cell? ⟨g,2,none⟩=some v2∧w.cell? ⟨g,3,none⟩=some v3∧w.cell? ⟨g,4,none⟩=some v4∧w.cell? ⟨g,5,none⟩=some v5∧w.cell? ⟨g,6,none⟩=some v6∧w.cell? ⟨g,7,none⟩=some v7∧w.cell? ⟨g,8,none⟩=some v8∧w.cell? ⟨g,9,none⟩=some v9)∧w.frozen? ⟨g,0,none⟩=false∧w.frozen? ⟨g,1,none⟩=false∧w.frozen? ⟨g,2,none⟩=false∧w.frozen? ⟨g,3,none⟩=false∧w.frozen? ⟨g,4,none⟩=false∧w.frozen? ⟨g,5,none⟩=false∧w.frozen? ⟨g,6,none⟩=false∧w.frozen? ⟨g,7,none⟩=false∧w.frozen? ⟨g,8,none⟩=false∧w.frozen? ⟨g,9,none⟩=false:=
 ⟨⟨h.cell 0,h.cell 1,h.cell 2,h.cell 3,h.cell 4,h.cell 5,h.cell 6,h.cell 7,h.cell 8,h.cell 9⟩,h.frozen 0,h.frozen 1,h.frozen 2,h.frozen 3,h.frozen 4,h.frozen 5,h.frozen 6,h.frozen 7,h.frozen 8,h.frozen 9⟩
theorem cells11 {g:Nat} {v10:Value} (h:Blk w g t #[v0,v1,v2,v3,v4,v5,v6,v7,v8,v9,v10]):(w.cell? ⟨g,0,none⟩=some v0∧w.cell? ⟨g,1,none⟩=some v1∧w.cell? ⟨g,2,none⟩=some v2∧w.cell? ⟨g,3,none⟩=some v3∧w.cell? ⟨g,4,none⟩=some v4∧w.cell? ⟨g,5,none⟩=some v5∧w.cell? ⟨g,6,none⟩=some v6∧w.cell? ⟨g,7,none⟩=some v7∧w.cell? ⟨g,8,none⟩=some v8∧w.cell? ⟨g,9,none⟩=some v9∧w.cell? ⟨g,10,none⟩=some v10)∧w.frozen? ⟨g,0,none⟩=false∧w.frozen? ⟨g,1,none⟩=false∧w.frozen? ⟨g,2,none⟩=false∧w.frozen? ⟨g,3,none⟩=false∧w.frozen? ⟨g,4,none⟩=false∧w.frozen? ⟨g,5,none⟩=false∧w.frozen? ⟨g,6,none⟩=false∧w.frozen? ⟨g,7,none⟩=false∧w.frozen? ⟨g,8,none⟩=false∧w.frozen? ⟨g,9,none⟩=false∧w.frozen? ⟨g,10,none⟩=false:=
 ⟨⟨h.cell 0,h.cell 1,h.cell 2,h.cell 3,h.cell 4,h.cell 5,h.cell 6,h.cell 7,h.cell 8,h.cell 9,h.cell 10⟩,h.frozen 0,h.frozen 1,h.frozen 2,h.frozen 3,h.frozen 4,h.frozen 5,h.frozen 6,h.frozen 7,h.frozen 8,h.frozen 9,h.frozen 10⟩
theorem set11 {g:Nat} {v10:Value} (h:Blk w g t #[v0,v1,v2,v3,v4,v5,v6,v7,v8,v9,v10]) (u0 u1 u2 u3 u4 u5 u6 u7 u8 u9 u10:Value):Blk (((((((((((w.setCell ⟨g,0,none⟩ u0).setCell ⟨g,1,none⟩ u1).setCell ⟨g,2,none⟩ u2).setCell ⟨g,3,none⟩ u3).setCell ⟨g,4,none⟩ u4).setCell ⟨g,5,none⟩ u5).setCell ⟨g,6,none⟩ u6).setCell ⟨g,7,none⟩ u7).setCell ⟨g,8,none⟩ u8).setCell ⟨g,9,none⟩ u9).setCell ⟨g,10,none⟩ u10) g t #[u0,u1,u2,u3,u4,u5,u6,u7,u8,u9,u10]:=by
 have h0:Blk (w.setCell ⟨g,0,none⟩ u0) g t #[u0,v1,v2,v3,v4,v5,v6,v7,v8,v9,v10]:=h.set_ 0 u0
 have h1:Blk ((w.setCell ⟨g,0,none⟩ u0).setCell ⟨g,1,none⟩ u1) g t #[u0,u1,v2,v3,v4,v5,v6,v7,v8,v9,v10]:=h0.set_ 1 u1
 have h2:Blk (((w.setCell ⟨g,0,none⟩ u0).setCell ⟨g,1,none⟩ u1).setCell ⟨g,2,none⟩ u2) g t #[u0,u1,u2,v3,v4,v5,v6,v7,v8,v9,v10]:=h1.set_ 2 u2
 have h3:Blk ((((w.setCell ⟨g,0,none⟩ u0).setCell ⟨g,1,none⟩ u1).setCell ⟨g,2,none⟩ u2).setCell ⟨g,3,none⟩ u3) g t #[u0,u1,u2,u3,v4,v5,v6,v7,v8,v9,v10]:=h2.set_ 3 u3
 have h4:Blk (((((w.setCell ⟨g,0,none⟩ u0).setCell ⟨g,1,none⟩ u1).setCell ⟨g,2,none⟩ u2).setCell ⟨g,3,none⟩ u3).setCell ⟨g,4,none⟩ u4) g t #[u0,u1,u2,u3,u4,v5,v6,v7,v8,v9,v10]:=h3.set_ 4 u4
 have h5:Blk ((((((w.setCell ⟨g,0,none⟩ u0).setCell ⟨g,1,none⟩ u1).setCell ⟨g,2,none⟩ u2).setCell ⟨g,3,none⟩ u3).setCell ⟨g,4,none⟩ u4).setCell ⟨g,5,none⟩ u5) g t #[u0,u1,u2,u3,u4,u5,v6,v7,v8,v9,v10]:=h4.set_ 5 u5
 have h6:Blk (((((((w.setCell ⟨g,0,none⟩ u0).setCell ⟨g,1,none⟩ u1).setCell ⟨g,2,none⟩ u2).setCell ⟨g,3,none⟩ u3).setCell ⟨g,4,none⟩ u4).setCell ⟨g,5,none⟩ u5).setCell ⟨g,6,none⟩ u6) g t #[u0,u1,u2,u3,u4,u5,u6,v7,v8,v9,v10]:=h5.set_ 6 u6
 have h7:Blk ((((((((w.setCell ⟨g,0,none⟩ u0).setCell ⟨g,1,none⟩ u1).setCell ⟨g,2,none⟩ u2).setCell ⟨g,3,none⟩ u3).setCell ⟨g,4,none⟩ u4).setCell ⟨g,5,none⟩ u5).setCell ⟨g,6,none⟩ u6).setCell ⟨g,7,none⟩ u7) g t #[u0,u1,u2,u3,u4,u5,u6,u7,v8,v9,v10]:=h6.set_ 7 u7
 have h8:Blk (((((((((w.setCell ⟨g,0,none⟩ u0).setCell ⟨g,1,none⟩ u1).setCell ⟨g,2,none⟩ u2).setCell ⟨g,3,none⟩ u3).setCell ⟨g,4,none⟩ u4).setCell ⟨g,5,none⟩ u5).setCell ⟨g,6,none⟩ u6).setCell ⟨g,7,none⟩ u7).setCell ⟨g,8,none⟩ u8) g t #[u0,u1,u2,u3,u4,u5,u6,u7,u8,v9,v10]:=h7.set_ 8 u8
 have h9:Blk ((((((((((w.setCell ⟨g,0,none⟩ u0).setCell ⟨g,1,none⟩ u1).setCell ⟨g,2,none⟩ u2).setCell ⟨g,3,none⟩ u3).setCell ⟨g,4,none⟩ u4).setCell ⟨g,5,none⟩ u5).setCell ⟨g,6,none⟩ u6).setCell ⟨g,7,none⟩ u7).setCell ⟨g,8,none⟩ u8).setCell ⟨g,9,none⟩ u9) g t #[u0,u1,u2,u3,u4,u5,u6,u7,u8,u9,v10]:=h8.set_ 9 u9
 have h10:Blk (((((((((((w.setCell ⟨g,0,none⟩ u0).setCell ⟨g,1,none⟩ u1).setCell ⟨g,2,none⟩ u2).setCell ⟨g,3,none⟩ u3).setCell ⟨g,4,none⟩ u4).setCell ⟨g,5,none⟩ u5).setCell ⟨g,6,none⟩ u6).setCell ⟨g,7,none⟩ u7).setCell ⟨g,8,none⟩ u8).setCell ⟨g,9,none⟩ u9).setCell ⟨g,10,none⟩ u10) g t #[u0,u1,u2,u3,u4,u5,u6,u7,u8,u9,u10]:=h9.set_ 10 u10
 exact h10
theorem far11 {g b:Nat} (h:Blk w b t cs) (hg:b≠g) (u0 u1 u2 u3 u4 u5 u6 u7 u8 u9 u10:Value):Blk (((((((((((w.setCell ⟨g,0,none⟩ u0).setCell ⟨g,1,none⟩ u1).setCell ⟨g,2,none⟩ u2).setCell ⟨g,3,none⟩ u3).setCell ⟨g,4,none⟩ u4).setCell ⟨g,5,none⟩ u5).setCell ⟨g,6,none⟩ u6).setCell ⟨g,7,none⟩ u7).setCell ⟨g,8,none⟩ u8).setCell ⟨g,9,none⟩ u9).setCell ⟨g,10,none⟩ u10) b t cs:=(((((((((((h.far (p:=⟨g,0,none⟩) hg u0).far (p:=⟨g,1,none⟩) hg u1).far (p:=⟨g,2,none⟩) hg u2).far (p:=⟨g,3,none⟩) hg u3).far (p:=⟨g,4,none⟩) hg u4).far (p:=⟨g,5,none⟩) hg u5).far (p:=⟨g,6,none⟩) hg u6).far (p:=⟨g,7,none⟩) hg u7).far (p:=⟨g,8,none⟩) hg u8).far (p:=⟨g,9,none⟩) hg u9).far (p:=⟨g,10,none⟩) hg u10)
theorem bel11 {w0:World} {B g:Nat} (h:Below B w0 w) (hg:B≤g) (u0 u1 u2 u3 u4 u5 u6 u7 u8 u9 u10:Value):Below B w0 (((((((((((w.setCell ⟨g,0,none⟩ u0).setCell ⟨g,1,none⟩ u1).setCell ⟨g,2,none⟩ u2).setCell ⟨g,3,none⟩ u3).setCell ⟨g,4,none⟩ u4).setCell ⟨g,5,none⟩ u5).setCell ⟨g,6,none⟩ u6).setCell ⟨g,7,none⟩ u7).setCell ⟨g,8,none⟩ u8).setCell ⟨g,9,none⟩ u9).setCell ⟨g,10,none⟩ u10):=(((((((((((h.setCell (p:=⟨g,0,none⟩) hg u0).setCell (p:=⟨g,1,none⟩) hg u1).setCell (p:=⟨g,2,none⟩) hg u2).setCell (p:=⟨g,3,none⟩) hg u3).setCell (p:=⟨g,4,none⟩) hg u4).setCell (p:=⟨g,5,none⟩) hg u5).setCell (p:=⟨g,6,none⟩) hg u6).setCell (p:=⟨g,7,none⟩) hg u7).setCell (p:=⟨g,8,none⟩) hg u8).setCell (p:=⟨g,9,none⟩) hg u9).setCell (p:=⟨g,10,none⟩) hg u10)
theorem Rd.grown {bs:List UInt8} {A:Option Addr} {cap:Nat} {w0:World} {nest:Nat} {st:St} {nv:Value} {w':World} {g:Nat} (h:Rd bs A cap w0 rb nest st nv w) (hb:w.grownBy w' (some g)) (hk:Blk w g t cs) (ht:9≠t) (hg:g≠rb) (hB:w0.heap.size≤g):Rd bs A cap w0 rb nest st nv w':=by
 have hne:=own_blk_ne h.own hk ht
 refine { h with blk:=(hb.block rb h.blk.lt (fun e=>hg (by injection e with e;exact e.symm))).trans h.blk,base:=h.base.trans ⟨hb.os,hb.tape,hb.output,hb.size,fun k hk2=>hb.block k (Nat.lt_of_lt_of_le hk2 h.base.size) (fun e=>by injection e with e;omega)⟩,own:=?_ }
 refine ⟨h.own.1,?_⟩
 rcases h.own.2 with h2|⟨b,c,cur,rfl,h1,h2,h3⟩
 ·exact .inl h2
 ·have hlt:b<w.heap.size:=by
   rcases Nat.lt_or_ge b w.heap.size with h4|h4
   ·exact h4
   ·rw [Array.getElem?_eq_none h4] at h2;cases h2
  exact .inr ⟨b,c,cur,rfl,h1,(hb.block b hlt (fun e=>hne (by rw [← e];rfl))).trans h2,h3⟩
theorem turn_far {g i:Nat} {w':World} (h:Turn rb row w w') (hg:w.heap.size≤g) (u:Value):Turn rb row w (w'.setCell ⟨g,i,none⟩ u):=
 ⟨h.os,h.tape,h.output,by simpa [World.setCell] using h.size,fun k hk h1 h2=>(Below.heap_setCell w' ⟨g,i,none⟩ u k (by show k≠g;omega)).trans (h.block k hk h1 h2)⟩
theorem grow2 (w:World) (g:Nat) (u0 u1:Value):w.grownBy ((w.setCell ⟨g,0,none⟩ u0).setCell ⟨g,1,none⟩ u1) (some g):=(only_setCell (only_setCell (World.grownBy.refl w (some g)) (p:=⟨g,0,none⟩) (.inl rfl) u0) (p:=⟨g,1,none⟩) (.inl rfl) u1)
theorem turnf2 {g:Nat} {w2:World} (h:Turn rb row w w2) (hg:w.heap.size≤g) (u0 u1:Value):Turn rb row w ((w2.setCell ⟨g,0,none⟩ u0).setCell ⟨g,1,none⟩ u1):=(turn_far (turn_far h (i:=0) hg u0) (i:=1) hg u1)
theorem grow11 (w:World) (g:Nat) (u0 u1 u2 u3 u4 u5 u6 u7 u8 u9 u10:Value):w.grownBy (((((((((((w.setCell ⟨g,0,none⟩ u0).setCell ⟨g,1,none⟩ u1).setCell ⟨g,2,none⟩ u2).setCell ⟨g,3,none⟩ u3).setCell ⟨g,4,none⟩ u4).setCell ⟨g,5,none⟩ u5).setCell ⟨g,6,none⟩ u6).setCell ⟨g,7,none⟩ u7).setCell ⟨g,8,none⟩ u8).setCell ⟨g,9,none⟩ u9).setCell ⟨g,10,none⟩ u10) (some g):=(only_setCell (only_setCell (only_setCell (only_setCell (only_setCell (only_setCell (only_setCell (only_setCell (only_setCell (only_setCell (only_setCell (World.grownBy.refl w (some g)) (p:=⟨g,0,none⟩) (.inl rfl) u0) (p:=⟨g,1,none⟩) (.inl rfl) u1) (p:=⟨g,2,none⟩) (.inl rfl) u2) (p:=⟨g,3,none⟩) (.inl rfl) u3) (p:=⟨g,4,none⟩) (.inl rfl) u4) (p:=⟨g,5,none⟩) (.inl rfl) u5) (p:=⟨g,6,none⟩) (.inl rfl) u6) (p:=⟨g,7,none⟩) (.inl rfl) u7) (p:=⟨g,8,none⟩) (.inl rfl) u8) (p:=⟨g,9,none⟩) (.inl rfl) u9) (p:=⟨g,10,none⟩) (.inl rfl) u10)
theorem turnf11 {g:Nat} {w2:World} (h:Turn rb row w w2) (hg:w.heap.size≤g) (u0 u1 u2 u3 u4 u5 u6 u7 u8 u9 u10:Value):Turn rb row w (((((((((((w2.setCell ⟨g,0,none⟩ u0).setCell ⟨g,1,none⟩ u1).setCell ⟨g,2,none⟩ u2).setCell ⟨g,3,none⟩ u3).setCell ⟨g,4,none⟩ u4).setCell ⟨g,5,none⟩ u5).setCell ⟨g,6,none⟩ u6).setCell ⟨g,7,none⟩ u7).setCell ⟨g,8,none⟩ u8).setCell ⟨g,9,none⟩ u9).setCell ⟨g,10,none⟩ u10):=(turn_far (turn_far (turn_far (turn_far (turn_far (turn_far (turn_far (turn_far (turn_far (turn_far (turn_far h (i:=0) hg u0) (i:=1) hg u1) (i:=2) hg u2) (i:=3) hg u3) (i:=4) hg u4) (i:=5) hg u5) (i:=6) hg u6) (i:=7) hg u7) (i:=8) hg u8) (i:=9) hg u9) (i:=10) hg u10)
end
section
open Go.RowKit Mem
open Sc (blk results_cell1)
theorem build_part1 (a b c d e f m:Int) (s:ByteArray) (A:Option Addr) (n cap:Nat) (w:World):Sem.run Tryz.prog (Instr.build 78 #[(0,.agg #[.int .i64 a,.int .i64 b,.int .i64 c,.int .i64 d,.int .i64 e,.int .i64 f,.int .i64 m,.string s,.slice A n cap,.slice none 0 0])]) w=.ok (.agg #[.int .i64 a,.int .i64 b,.int .i64 c,.int .i64 d,.int .i64 e,.int .i64 f,.int .i64 m,.string s,.slice A n cap,.slice none 0 0,.slice none 0 0]) w:=run_build w 78 _ _ (by kernel_rfl)
attribute [local go_sem] build_part1
theorem leaf_any {bs:List UInt8} {A:Option Addr} {cap:Nat} {w0:World} {rb nest:Nat} {st:St} {nv:Value} {w:World} (h:Rd bs A cap w0 rb nest st nv w) (row:Option Nat)
  (a b c d e f m:Int) (s:List UInt8) (L:Option Addr) (ln lc:Nat) (q:Nat) (hq:q≤bs.length) :
  Calls Tryz.prog 73 #[.pointer (some ⟨rb,0,none⟩),.agg #[.int .i64 a,.int .i64 b,.int .i64 c,.int .i64 d,.int .i64 e,.int .i64 f,.int .i64 m,.string ⟨s.toArray⟩,.slice L ln lc,.slice none 0 0],.int .i64 (q:Int)] w fun e' w'=>
   e'=.returned (.agg #[.int .i64 a,.int .i64 (st.pos:Int),.int .i64 (q:Int),.int .i64 d,.int .i64 e,.int .i64 f,.int .i64 m,.string ⟨s.toArray⟩,.slice L ln lc,.slice none 0 0,.slice none 0 0])∧Rd bs A cap w0 rb nest { st with pos:=q } nv w'∧Turn rb row w w':=by
 have HH:=hide h
 have hb2:Below w.heap.size w ((w.alloc (.cells (nu a b c d e f m s L ln lc) 49)).alloc (.cells pz 78)):=((Below.refl _ w).alloc (Nat.le_refl _) _).alloc (by simp) _
 have h2:=h.below hb2
 have c1:=h2.blk.cell 1
 have f1:=h2.blk.frozen 1
 have c1':=c1.trans (show (RdC A bs.length cap st nest nv)[1]?=some (Value.int .i64 (st.pos:Int)) from rfl)
 have hlt:=h.blk.lt
 have hb3:Below w.heap.size w ((w.alloc (.cells (nu a (st.pos:Int) (q:Int) d e f m s L ln lc) 49)).alloc (.cells pz 78)):=((Below.refl _ w).alloc (Nat.le_refl _) _).alloc (by simp) _
 have HR:=hide (h.below hb3)
 have e1:=(h.below hb3).c1
 have g1:=(h.below hb3).blk.frozen 1
 have kb:=((Blk.new w 49 (nu a (st.pos:Int) (q:Int) d e f m s L ln lc)).alloc (.cells pz 78)).far (p:=⟨rb,1,none⟩) (by show w.heap.size≠rb;omega) (.int .i64 (q:Int))
 have kp0:=Blk.new (w.alloc (.cells (nu a (st.pos:Int) (q:Int) d e f m s L ln lc) 49)) 78 pz
 rw [World.size_alloc] at kp0
 have kp:=kp0.far (p:=⟨rb,1,none⟩) (by show w.heap.size+1≠rb;omega) (.int .i64 (q:Int))
 obtain ⟨⟨x0,x1,x2,x3,x4,x5,x6,x7,x8,x9⟩,-⟩:=cells10 kb
 obtain ⟨⟨y0,y1,y2,y3,y4,y5,y6,y7,y8,y9,y10⟩,z0,z1,z2,z3,z4,z5,z6,z7,z8,z9,z10⟩:=cells11 kp
 have HKP:=hide kp
 have HB3:=hide hb3
 have HQ:=hide hq
 have HLT:=hide hlt
 clear h h2 hb2 c1 hq kb kp0 kp hb3 hlt
 go_enter Tryz.func73,Tryz.ntmps73
 go_wp2_with fail
 (try simp only [Exit.inBlock,Exit.then])
 have hs1:=HR.1.store 1 (.int .i64 (q:Int)) (st':={ st with pos:=q }) (nest':=nest) rfl HQ.1 HR.1.deep rfl
 have hlt':=HLT.1
 have habove:=HH.1.above
 have hr:=hs1.grown (grow11 _ (w.heap.size+1) (.int .i64 a) (.int .i64 (st.pos:Int)) (.int .i64 (q:Int)) (.int .i64 d) (.int .i64 e) (.int .i64 f) (.int .i64 m) (.string ⟨s.toArray⟩) (.slice L ln lc) (.slice none 0 0) (.slice none 0 0)) HKP.1 (by decide) (by omega) (by omega)
 exact bodyPost_ret (results_cell1 rfl _ _ (w.heap.size+1) _ _ rfl (set11 HKP.1 _ _ _ _ _ _ _ _ _ _ _) Tryz.underlying78 rfl (by kernel_rfl)) rfl ⟨rfl,hr,turnf11 (turn_set (Turn.of_below HB3.1) _) (by omega) _ _ _ _ _ _ _ _ _ _ _⟩
end
end Go.Proofs.YtmlbklcmblofkaaGreatDoor.Pa
