/-
  The law's own 'of', walked: the same tree in new memory.
-/
import Derived.Test.YtmlbklcmblofkaaGreatDoorMAsRefEnd
set_option linter.unusedSimpArgs false
set_option linter.unusedVariables false
set_option maxHeartbeats 4000000
set_option maxRecDepth 100000
namespace Go.Proofs.YtmlbklcmblofkaaGreatDoor.As
open Go.RowKit Mem Rs
variable {base B e:Nat} {v:Value} {w W w':World}
theorem own_own_ne {base' e' size size' n n':Nat} {v':Value} {xs xs':List Value} (h:W.ownsRow base e size v n xs) (h':W.ownsRow base' e' size' v' n' xs') (hne:e≠e'):v.ownBlock=none∨v.ownBlock≠v'.ownBlock:=by
 rcases h.2 with ⟨rfl,_⟩|⟨g,cap,cur,rfl,_,hh,_⟩
 ·exact .inl (by simp [Value.ownBlock])
 ·right
  rcases h'.2 with ⟨rfl,_⟩|⟨g',cap',cur',rfl,_,hh',_⟩
  ·simp [Value.ownBlock]
  ·intro e1
   have:g=g':=by simpa [Value.ownBlock] using e1
   subst this
   rw [hh] at hh'
   simp at hh'
   exact hne hh'.2
theorem own_lt {size n:Nat} {xs:List Value} (h:W.ownsRow base e size v n xs):∀ g,v.ownBlock=some g→g<W.heap.size:=by
 intro k hk
 rcases h.2 with ⟨rfl,_⟩|⟨g,cap,cur,rfl,hb,hh,_⟩
 ·simp [Value.ownBlock] at hk
 ·obtain rfl:g=k:=by simpa [Value.ownBlock] using hk
  rcases Nat.lt_or_ge g W.heap.size with hlt|hge
  ·exact hlt
  ·rw [Array.getElem?_eq_none hge] at hh;cases hh
def ndC (nd:Nd) (sv kv:Value):Array Value:=#[.int .i64 nd.kind,.int .i64 nd.from_,.int .i64 nd.to_,.int .i64 nd.num,.int .i64 nd.mn,.int .i64 nd.mx,.int .i64 nd.mode,str nd.name,sv,kv]
abbrev Cel:=Nd×Value×Value
def celL (d:Cel):List Value:=(ndC d.1 d.2.1 d.2.2).toList
def celsL (D:List Cel):List Value:=D.flatMap celL
theorem celsL_at:∀ (D:List Cel) (k j:Nat) (d:Cel),D[k]?=some d→j<10→(celsL D)[k*10+j]?=(celL d)[j]?
 | [],k,j,d,h,_=>by simp at h
 | d0 :: D,0,j,d,h,hj=>by
  obtain rfl:d0=d:=by simpa using h
  have e:celsL (d0 :: D)=celL d0++celsL D:=rfl
  rw [e,List.getElem?_append_left (by show _<10;omega)]
  congr 1
  omega
 | d0 :: D,k+1,j,d,h,hj=>by
  have e:celsL (d0 :: D)=celL d0++celsL D:=rfl
  have h10:(celL d0).length=10:=rfl
  rw [e,List.getElem?_append_right (by omega),h10,show (k+1)*10+j-10=k*10+j by omega]
  exact celsL_at D k j d (by simpa using h) hj
def Done (base B:Nat) (D:List Cel) (v:Value) (w:World):Prop:=
 w.ownsRow base 54 10 v D.length (celsL D)∧∀ d∈D,w.ownsRow base 57 2 d.2.1 d.1.set.length (flat d.1.set)∧KidsV w B d.1.kids d.2.2
theorem Done.nil (base B:Nat) (w:World):Done base B [] (.slice none 0 0) w:=⟨World.ownsRow_nil _ _ _ _,fun d hd=>by cases hd⟩
theorem Done.below {D:List Cel} (h:Done base B D v w) (hb:Below w.heap.size w w') (hB:B≤w.heap.size):Done base B D v w':=
 ⟨Rs.own_below h.1 hb,fun d hd=>⟨Rs.own_below (h.2 d hd).1 hb,(h.2 d hd).2.keep fun p hp=>hb.cell (by omega)⟩⟩
theorem Done.app {D:List Cel} {v':Value} {d:Cel} (h:Done base B D v w) (hbase:B≤base) (hB:B≤w.heap.size)
  (hs:w.ownsRow base 57 2 d.2.1 d.1.set.length (flat d.1.set)) (hk:KidsV w B d.1.kids d.2.2)
  (ho:w'.ownsRow base 54 10 v' (D.length+1) (celsL D++celL d)) (hg:w.grownBy w' v.ownBlock):Done base B (D++[d]) v' w':=by
 have hcell:∀ p:Addr,p.block<B→w'.cell? p=w.cell? p:=fun p hp=>World.cell?_of_block (hg.block p.block (by omega) (fun e=>by have:=Rs.own_base h.1 _ e.symm;omega))
 refine ⟨?_,fun x hx=>?_⟩
 ·rw [List.length_append,List.length_singleton]
  have e:celsL (D++[d])=celsL D++celL d:=by simp [celsL]
  rw [e];exact ho
 ·rcases List.mem_append.1 hx with hx|hx
  ·exact ⟨(h.2 x hx).1.kept hg (own_own_ne (h.2 x hx).1 h.1 (by decide)),(h.2 x hx).2.keep hcell⟩
  ·obtain rfl:x=d:=by simpa using hx
   exact ⟨hs.kept hg (own_own_ne hs h.1 (by decide)),hk.keep hcell⟩
theorem Done.apart {D:List Cel} {g:Nat} {T:TypeId} {cs:Array Value} (h:Done base B D v w) (hb:Blk w g T cs) (h1:54≠T) (h2:57≠T) (hg:B≤g) (hw:w.grownBy w' (some g)):Done base B D v w':=
 ⟨h.1.kept hw (.inr (own_blk_ne h.1 hb h1)),fun d hd=>⟨(h.2 d hd).1.kept hw (.inr (own_blk_ne (h.2 d hd).1 hb h2)),(h.2 d hd).2.keep fun p hp=>by
  rcases Nat.lt_or_ge p.block w.heap.size with hl|hl
  ·exact World.cell?_of_block (hw.block p.block hl (fun e=>by injection e with e;omega))
  ·have:=hb.lt;omega⟩⟩
theorem own_set {l:List R} (h:W.ownsRow base e 2 v l.length (flat l)):SetV W W.heap.size l v:=by
 obtain ⟨A,cap,rfl,hl,hc,hm⟩:=own_lst2 h
 exact ⟨A,cap,rfl,hc,by unfold maxLen at hm;omega,hl⟩
theorem Done.nodes {D:List Cel} (h:Done base B D v w) (hB:B≤w.heap.size):NodesV w w.heap.size (D.map (·.1)) v:=by
 rcases h.1.2 with ⟨rfl,hn⟩|⟨g,cap,cur,rfl,hb,hh,hnc,hcm,hcs,ht⟩
 ·exact ⟨none,0,by simp [hn],by simp [hn],by omega,fun hl=>by simp at hl;omega⟩
 ·refine ⟨some ⟨g,0,none⟩,cap,by simp,by simpa using hnc,by unfold maxLen at hcm;omega,fun hl=>⟨g,0,rfl,?_,fun k nd hk=>?_⟩⟩
  ·exact own_lt h.1 g rfl
  ·rw [List.getElem?_map] at hk
   obtain ⟨d,hd,rfl⟩:=Option.map_eq_some_iff.1 hk
   have hm:=List.mem_of_getElem? hd
   have hc:=h.1.cells (g:=g) rfl
   have key:∀ j u,j<10→(celL d)[j]?=some u→w.cell? ⟨g,0+k*10+j,none⟩=some u:=by
    intro j u hj hu
    have:=hc (k*10+j) u ((celsL_at D k j d hd hj).trans hu)
    rwa [add_flat,← Nat.add_assoc] at this
   exact ⟨key 0 _ (by omega) rfl,key 1 _ (by omega) rfl,key 2 _ (by omega) rfl,key 3 _ (by omega) rfl,key 4 _ (by omega) rfl,key 5 _ (by omega) rfl,key 6 _ (by omega) rfl,key 7 _ (by omega) rfl,
    ⟨_,key 8 _ (by omega) rfl,own_set (h.2 d hm).1⟩,_,key 9 _ (by omega) rfl,(h.2 d hm).2.more hB⟩
theorem info_N:(Tryz.prog.info? 54).map (fun i=>(i.zero,i.size,i.bytes))=some (some (.agg #[.int .i64 0,.int .i64 0,.int .i64 0,.int .i64 0,.int .i64 0,.int .i64 0,.int .i64 0,.string ⟨#[]⟩,.slice none 0 0,.slice none 0 0]),10,120):=by kernel_rfl
theorem info_R:(Tryz.prog.info? 57).map (fun i=>(i.zero,i.size,i.bytes))=some (some (.agg #[.int .i64 0,.int .i64 0]),2,16):=by kernel_rfl
end Go.Proofs.YtmlbklcmblofkaaGreatDoor.As
namespace Go.Proofs.YtmlbklcmblofkaaGreatDoor.Wo
open Go.RowKit Mem Rs As
def ORel (L:List Nd) (w W:World) (B:Nat) (v i:Value) (wr:World):Prop:=∃ (k:Nat) (D:List Cel),i=.int .i64 k∧k≤L.length∧D.length=k∧D.map (·.1)=L.take k∧Done W.heap.size B D v wr∧Below W.heap.size W wr
def IRel (nd:Nd) (kv:Value) (R0:World) (mb:Nat) (i:Value) (wr:World):Prop:=∃ (j:Nat) (sv:Value),i=.int .i64 j∧j≤nd.set.length∧Blk wr mb 54 (ndC nd sv kv)∧wr.ownsRow R0.heap.size 57 2 sv j (flat (nd.set.take j))∧Below R0.heap.size R0 wr
theorem build_N (a b c d e f g:Int) (s:ByteArray) (A:Option Addr) (n k:Nat) (w:World):Sem.run Tryz.prog (Instr.build 54 #[(0,.int .i64 a),(1,.int .i64 b),(2,.int .i64 c),(3,.int .i64 d),(4,.int .i64 e),(5,.int .i64 f),(6,.int .i64 g),(7,.string s),(9,.slice A n k)]) w=.ok (.agg #[.int .i64 a,.int .i64 b,.int .i64 c,.int .i64 d,.int .i64 e,.int .i64 f,.int .i64 g,.string s,.slice none 0 0,.slice A n k]) w:=run_build w 54 _ _ (by kernel_rfl)
theorem build_T (A C:Option Addr) (n k m c:Nat) (g:Int) (w:World):Sem.run Tryz.prog (Instr.build 30 #[(0,.slice A n k),(1,.int .i64 g),(2,.slice C m c)]) w=.ok (.agg #[.slice A n k,.int .i64 g,.slice C m c]) w:=run_build w 30 _ _ (by kernel_rfl)
attribute [local go_sem] build_N build_T
theorem lawof_any (t:Tr) (v:Value) (B:Nat) (hlen:t.nodes.length≤1000) (hset:∀ nd∈t.nodes,nd.set.length≤8796093021952) (w:World) (hB:B≤w.heap.size) (hT:TreeV w B t v) :
  Calls Tryz.prog 8 #[v] w fun e w'=>∃ v',e=.returned v'∧TreeV w' w'.heap.size t v'∧Below w.heap.size w w':=by
 obtain ⟨a,c,rfl,⟨A,cap,rfl,hc1,hc2,hn⟩,hns⟩:=hT
 have HN:=hide hn
 have HNS:=hide hns
 have HSET:=hide hset
 obtain ⟨iN,hiN,hzN0,hzN1,hzN2⟩:=info_parts info_N
 obtain ⟨iR,hiR,hzR0,hzR1,hzR2⟩:=info_parts info_R
 clear hn hns hset
 go_enter Tryz.func8,Tryz.ntmps8
 go_wp2_with fail
 go_loopw [3,12] (fun x i wr=>ORel t.nodes w ((w.alloc (.cells #[.slice A t.nodes.length cap,.int .i64 t.groups,c] 25)).alloc (.cells #[.slice none 0 0,.int .i64 0,.slice none 0 0] 30)) B x i wr) (fun _ i _=>t.nodes.length-(intOf i).toNat)
 case atStart=>exact ⟨0,[],rfl,by omega,rfl,rfl,Done.nil _ _ _,Below.refl _ _⟩
 case round=>
  obtain ⟨k,D,rfl,hk,hDl,hDm,hD,hb⟩:=hrel
  go_hideQ
  have HD:=hide hD
  have HB:=hide hb
  have HDM:=hide hDm
  have HDL:=hide hDl
  have hb0:Below w.heap.size w wr:=(((Below.refl w.heap.size w).alloc (Nat.le_refl _) _).alloc (by simp) _).trans (hb.mono (by simp;omega))
  have HB0:=hide hb0
  clear hD hb hDm hDl hb0
  by_cases hlt:k<t.nodes.length
  ·have hki:(k:Int)<(t.nodes.length:Int):=by omega
   obtain ⟨nd,hnd⟩:∃ nd,t.nodes[k]?=some nd:=⟨_,List.getElem?_eq_getElem hlt⟩
   obtain ⟨b,off,rfl,hbb,hcs⟩:=HN.1 (by omega)
   obtain ⟨h0,h1,h2,h3,h4,h5,h6,h7,⟨v8,h8,A8,cap8,rfl,h81,h82,h8s⟩,v9,h9,A9,cap9,rfl,h91,h92,h9k⟩:=hcs k nd hnd
   have hset1:=HSET.1 nd (List.mem_of_getElem? hnd)
   have up:∀ j u,w.cell? ⟨b,off+k*10+j,none⟩=some u→wr.cell? ⟨b,off+k*10+j,none⟩=some u:=fun j u h=>(HB0.1.cell (p:=⟨b,off+k*10+j,none⟩) (by show b<w.heap.size;omega)).trans h
   have d0:wr.cell? ⟨b,off+k*10,none⟩=some (.int .i64 nd.kind):=up 0 _ h0
   have d1:=up 1 _ h1
   have d2:=up 2 _ h2
   have d3:=up 3 _ h3
   have d4:=up 4 _ h4
   have d5:=up 5 _ h5
   have d6:=up 6 _ h6
   have d7:=up 7 _ h7
   have d8:=up 8 _ h8
   have d9:=up 9 _ h9
   have HK9:=hide (KidsV.keep (w':=wr) ⟨A9,cap9,rfl,h91,h92,h9k⟩ fun p hp=>HB0.1.cell (by omega))
   have HL8:=hide ((h8s.keep (w':=wr) fun p hp=>HB0.1.cell (by omega)).more (show B≤wr.heap.size by have:=HB0.1.size;omega))
   have HND:=hide hnd
   clear hcs h0 h1 h2 h3 h4 h5 h6 h7 h8 h8s h9 h9k up hnd hbb
   go_wp2_with fail
   obtain ⟨wo,rfl⟩:∃ wo:World,wo=wr:=⟨_,rfl⟩
   go_loopw [38] (fun i wx=>IRel nd (.slice A9 nd.kids.length cap9) wo (wo.heap.size+1) i wx) (fun i _=>nd.set.length-(intOf i).toNat)
   case atStart=>
    refine ⟨0,.slice none 0 0,rfl,by omega,?_,World.ownsRow_nil _ _ _ _,((Below.refl _ _).alloc (Nat.le_refl _) _).alloc (by simp) _⟩
    have hbk:=Blk.new (wo.alloc (.cells #[.int .i64 nd.kind,.int .i64 nd.from_,.int .i64 nd.to_,.int .i64 nd.num,.int .i64 nd.mn,.int .i64 nd.mx,.int .i64 nd.mode,str nd.name,.slice A8 nd.set.length cap8,.slice A9 nd.kids.length cap9] 49)) 54 (ndC nd (.slice none 0 0) (.slice A9 nd.kids.length cap9))
    rw [World.size_alloc] at hbk
    exact hbk
   case round=>
    obtain ⟨j,sv,rfl,hj,hbk,hsv,hbx⟩:=hrel
    go_hideQ
    have HSV:=hide hsv
    have HBX:=hide hbx
    have HBK:=hide hbk
    have e8:wr.cell? ⟨wo.heap.size+1,8,none⟩=some sv:=hbk.cell 8
    have hbl:=hbk.lt
    clear hsv hbx
    by_cases hjl:j<nd.set.length
    ·have hji:(j:Int)<(nd.set.length:Int):=by omega
     obtain ⟨r,hr⟩:∃ r,nd.set[j]?=some r:=⟨_,List.getElem?_eq_getElem hjl⟩
     obtain ⟨bs,os,rfl,hbs,hcs⟩:=(HL8.1.below HBX.1) (by omega)
     have r0:=(hcs j r hr).1
     have r1:=(hcs j r hr).2
     have HTK:=hide (show flat (nd.set.take (j+1))=flat (nd.set.take j)++(#[.int .i64 r.1,.int .i64 r.2]:Array Value).toList by
      obtain ⟨hk',e⟩:=List.getElem?_eq_some_iff.1 hr
      rw [List.take_succ_eq_append_getElem hk',flat_append,e];rfl)
     have hmx:j+1≤maxLen:=by unfold maxLen;omega
     have hone:∀ u∈(#[.int .i64 r.1,.int .i64 r.2]:Array Value).toList,u.oneCell'=true:=by simp [Value.oneCell']
     clear hcs hr hbs hbk
     go_wp2_with (at_builtin;refine wpList_append_any _ rfl (.tmp 43) (.tmp 45) 52 rfl wo.heap.size 57 iR (.agg #[.int .i64 0,.int .i64 0]) 2 16 Tryz.underlying52 hiR hzR0 hzR1 hzR2 rfl (by decide) _ j _ rfl ((HSV.1.alloc _).alloc _) _ _ 1 1 _ rfl (reads_at (by rw [World.size_alloc]) #[.int .i64 r.1,.int .i64 r.2] 57 1 2 rfl) hone hmx (by omega) (by rw [World.size_alloc,World.size_alloc];omega) ?_;intro v5 w5 ho5 hg5 hn5;obtain ⟨A5,c5,rfl,-,-⟩:=own_reads ho5;have hb5:=Rs.below_app (below_al HBX.1 HBX.1.size _) (HSV.1.alloc _) hg5;have bk5:=((HBK.1.alloc _).alloc _).grown hg5 (fun e=>own_blk_ne HSV.1 HBK.1 (by decide) e.symm);have g8:w5.cell? ⟨wo.heap.size+1,8,none⟩=some sv:=bk5.cell 8;have f8:=bk5.frozen 8;have HO5:=hide ho5;have HB5:=hide hb5;have HBK5:=hide bk5;clear ho5 hg5 hn5 hb5 bk5)
     have hR:IRel nd (.slice A9 nd.kids.length cap9) wo (wo.heap.size+1) (.int .i64 ((j:Int)+1)) (w5.setCell ⟨wo.heap.size+1,8,none⟩ (.slice A5 (j+1) c5)):=by
      refine ⟨j+1,.slice A5 (j+1) c5,by go_num,by omega,HBK5.1.set_ 8 (.slice A5 (j+1) c5),?_,HB5.1.setCell (by simp) _⟩
      rw [HTK.1]
      exact HO5.1.kept (only_setCell (World.grownBy.refl _ _) (.inl rfl) _) (.inr (own_blk_ne HO5.1 HBK5.1 (by decide)))
     exact ⟨hR,by simp [intOf];omega⟩
    ·have hji:(nd.set.length:Int)≤(j:Int):=by omega
     obtain rfl:j=nd.set.length:=by omega
     have HSV2:Hd (wr.ownsRow wo.heap.size 57 2 sv nd.set.length (flat nd.set)):=hide (by have h:=HSV.1;rwa [List.take_length] at h)
     obtain ⟨A7,c7,rfl,-,-⟩:=own_reads HSV.1
     have e0:wr.cell? ⟨wo.heap.size+1,0,none⟩=some (.int .i64 nd.kind):=hbk.cell 0
     have e1:wr.cell? ⟨wo.heap.size+1,1,none⟩=some (.int .i64 nd.from_):=hbk.cell 1
     have e2:wr.cell? ⟨wo.heap.size+1,2,none⟩=some (.int .i64 nd.to_):=hbk.cell 2
     have e3:wr.cell? ⟨wo.heap.size+1,3,none⟩=some (.int .i64 nd.num):=hbk.cell 3
     have e4:wr.cell? ⟨wo.heap.size+1,4,none⟩=some (.int .i64 nd.mn):=hbk.cell 4
     have e5:wr.cell? ⟨wo.heap.size+1,5,none⟩=some (.int .i64 nd.mx):=hbk.cell 5
     have e6:wr.cell? ⟨wo.heap.size+1,6,none⟩=some (.int .i64 nd.mode):=hbk.cell 6
     have e7:wr.cell? ⟨wo.heap.size+1,7,none⟩=some (str nd.name):=hbk.cell 7
     have e9:wr.cell? ⟨wo.heap.size+1,9,none⟩=some (.slice A9 nd.kids.length cap9):=hbk.cell 9
     have hBo:=HB0.1.size
     have HD2:=hide (HD.1.below HBX.1 (by omega))
     have hDl:=HDL.1
     have hmx:D.length+1≤maxLen:=by unfold maxLen;omega
     have hone:∀ u∈(ndC nd (.slice A7 nd.set.length c7) (.slice A9 nd.kids.length cap9)).toList,u.oneCell'=true:=by simp [ndC,Value.oneCell']
     have hsz:=HBX.1.size
     have hDn:D.length≤1000:=by omega
     have hwsz:=Nat.le_trans HB.1.size hsz
     have hwo:=HB0.1.size
     have HWSZ:=hide hwsz
     have HBA:=hide (below_al (Below.refl wr.heap.size wr) (Nat.le_refl _) (.cells (ndC nd (.slice A7 nd.set.length c7) (.slice A9 nd.kids.length cap9)) 54))
     clear hbk hDl hBo
     clear hwsz
     go_wp2_with (at_builtin;refine wpList_append_any _ rfl (.tmp 49) (.tmp 51) 28 rfl _ 54 iN (.agg #[.int .i64 0,.int .i64 0,.int .i64 0,.int .i64 0,.int .i64 0,.int .i64 0,.int .i64 0,.string ⟨#[]⟩,.slice none 0 0,.slice none 0 0]) 10 120 Tryz.underlying28 hiN hzN0 hzN1 hzN2 rfl (by decide) _ D.length _ rfl (HD2.1.1.alloc _) _ _ 1 1 _ rfl (reads_at rfl (ndC nd (.slice A7 nd.set.length c7) (.slice A9 nd.kids.length cap9)) 54 1 10 rfl) hone hmx (by omega) (Nat.le_trans HWSZ.1 (by rw [World.size_alloc];exact Nat.le_succ _)) ?_;intro v5 w5 ho5 hg5 hn5;have HO5:=hide ho5;have HG5:=hide hg5;clear ho5 hg5 hn5)
     have hR:ORel t.nodes w ((w.alloc (.cells #[.slice (some ⟨b,off,none⟩) t.nodes.length cap,.int .i64 t.groups,c] 25)).alloc (.cells #[.slice none 0 0,.int .i64 0,.slice none 0 0] 30)) B v5 (.int .i64 ((k:Int)+1)) w5:=by
      refine ⟨k+1,D++[(nd,.slice A7 nd.set.length c7,.slice A9 nd.kids.length cap9)],by go_num,by omega,by rw [List.length_append,HDL.1];rfl,?_,?_,?_⟩
      ·rw [List.map_append,HDM.1]
       obtain ⟨hk',e⟩:=List.getElem?_eq_some_iff.1 HND.1
       rw [List.take_succ_eq_append_getElem hk',e];rfl
      ·refine Done.app (w:=wr.alloc (.cells (ndC nd (.slice A7 nd.set.length c7) (.slice A9 nd.kids.length cap9)) 54)) (HD2.1.below HBA.1 (by omega)) (by simp only [World.size_alloc];omega) (by simp only [World.size_alloc];omega) ((own_lower HSV2.1 HB.1.size).alloc _) ((HK9.1.keep fun p hp=>HBX.1.cell (by omega)).keep fun p hp=>HBA.1.cell (by omega)) HO5.1 HG5.1
      ·exact Rs.below_app (HB.1.trans (HBX.1.mono HB.1.size)) HD2.1.1 HG5.1
     go_roundw
     case rel=>exact hR
     case measure=>simp [intOf];omega
  ·have hki:(t.nodes.length:Int)≤(k:Int):=by omega
   obtain rfl:k=t.nodes.length:=by omega
   have bk1:=((Blk.new w 25 #[.slice A t.nodes.length cap,.int .i64 t.groups,c]).alloc (.cells #[.slice none 0 0,.int .i64 0,.slice none 0 0] 30)).below HB.1 (by simp;omega)
   have bk2:=(Blk.new (w.alloc (.cells #[.slice A t.nodes.length cap,.int .i64 t.groups,c] 25)) 30 #[.slice none 0 0,.int .i64 0,.slice none 0 0]).below HB.1 (by simp)
   rw [World.size_alloc] at bk2
   have c1:=bk1.cell 1
   have c2:=bk1.cell 2
   have f0:=bk2.frozen 0
   have f1:=bk2.frozen 1
   have f2:=bk2.frozen 2
   have d0:=bk2.cell 0
   have d1:=bk2.cell 1
   have d2:=bk2.cell 2
   obtain ⟨A7,c7,rfl,-,-⟩:=own_reads HD.1.1
   obtain ⟨An,cn,rfl,hn1,hn2,hn3⟩:=HNS.1
   have hDl:=HDL.1
   rw [hDl]
   have bk3:=((bk2.set_ 0 (.slice A7 t.nodes.length c7)).set_ 1 (.int .i64 t.groups)).set_ 2 (.slice An t.names.length cn)
   have E0:=hide (bk3.cell 0)
   have E1:=hide (bk3.cell 1)
   have E2:=hide (bk3.cell 2)
   have hbb:=((HB0.1.setCell (p:=⟨w.heap.size+1,0,none⟩) (by simp) (.slice A7 t.nodes.length c7)).setCell (p:=⟨w.heap.size+1,1,none⟩) (by simp) (.int .i64 t.groups)).setCell (p:=⟨w.heap.size+1,2,none⟩) (by simp) (.slice An t.names.length cn)
   have hgg:=only_setCell (p:=⟨w.heap.size+1,2,none⟩) (only_setCell (p:=⟨w.heap.size+1,1,none⟩) (only_setCell (p:=⟨w.heap.size+1,0,none⟩) (World.grownBy.refl wr (some (w.heap.size+1))) (.inl rfl) (.slice A7 t.nodes.length c7)) (.inl rfl) (.int .i64 t.groups)) (.inl rfl) (.slice An t.names.length cn)
   have HBB:=hide hbb
   have HGG:=hide hgg
   have HBT:=hide bk2
   clear hDl bk1 bk2 bk3 hbb hgg hn3
   go_wp2_with fail
   have e0:=E0.1
   have e1:=E1.1
   have e2:=E2.1
   refine bodyPost_ret (v:=.agg #[.slice A7 t.nodes.length c7,.int .i64 t.groups,.slice An t.names.length cn]) (by simp [results,Tryz.results8,go_sem,e0,e1,e2]) rfl ?_
   refine ⟨_,rfl,⟨_,_,rfl,?_,?_⟩,HBB.1⟩
   ·have hd:=(HD.1.apart HBT.1 (by decide) (by decide) (by have:=hB;omega) HGG.1).nodes (by have:=HBB.1.size;omega)
    rw [HDM.1,List.take_length,HDL.1] at hd
    exact hd
   ·exact (HNS.1.keep fun p hp=>HBB.1.cell (by omega)).more (by have:=HBB.1.size;omega)
end Go.Proofs.YtmlbklcmblofkaaGreatDoor.Wo
