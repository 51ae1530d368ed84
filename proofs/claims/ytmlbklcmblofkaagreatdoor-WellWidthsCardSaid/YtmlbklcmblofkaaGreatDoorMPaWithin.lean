/-
  The reader's within, walked.
-/
import Derived.Test.YtmlbklcmblofkaaGreatDoorMPaH
set_option linter.unusedSimpArgs false
set_option linter.unusedVariables false
set_option maxHeartbeats 8000000
set_option maxRecDepth 100000
namespace Go.Proofs.YtmlbklcmblofkaaGreatDoor.Pa
open Go.RowKit Mem
open Sy (g)
attribute [local go_sem] build_pz build_fl build_f0
variable {rb cap nest:Nat} {w w0:World} {bs:List UInt8} {A:Option Addr} {st:St} {nv:Value}
theorem fl4 (h:Rd bs A cap w0 rb nest st nv w) (f:Fl) :
  Rd bs A cap w0 rb nest { st with fl:=f } nv ((((w.setCell ⟨rb,2,none⟩ (.bool f.i)).setCell ⟨rb,3,none⟩ (.bool f.m)).setCell ⟨rb,4,none⟩ (.bool f.s)).setCell ⟨rb,5,none⟩ (.bool f.x)):=by
 have h1:=h.store 2 (.bool f.i) (st':={ st with fl:={ st.fl with i:=f.i } }) (nest':=nest) rfl h.pos h.deep rfl
 have h2:=h1.store 3 (.bool f.m) (st':={ st with fl:={ st.fl with i:=f.i,m:=f.m } }) (nest':=nest) rfl h.pos h.deep rfl
 have h3:=h2.store 4 (.bool f.s) (st':={ st with fl:={ st.fl with i:=f.i,m:=f.m,s:=f.s } }) (nest':=nest) rfl h.pos h.deep rfl
 exact h3.store 5 (.bool f.x) (st':={ st with fl:=f }) (nest':=nest) rfl h.pos h.deep rfl
theorem turn_fl {row:Option Nat} {w':World} (h:Turn rb row w w') (a b c d:Value):Turn rb row w ((((w'.setCell ⟨rb,2,none⟩ a).setCell ⟨rb,3,none⟩ b).setCell ⟨rb,4,none⟩ c).setCell ⟨rb,5,none⟩ d):=turn_set (turn_set (turn_set (turn_set h a) b) c) d
theorem blk_fl {g t:Nat} {cs:Array Value} (h:Blk w g t cs) (hg:g≠rb) (a b c d:Value):Blk ((((w.setCell ⟨rb,2,none⟩ a).setCell ⟨rb,3,none⟩ b).setCell ⟨rb,4,none⟩ c).setCell ⟨rb,5,none⟩ d) g t cs:=
 (((h.far (p:=⟨rb,2,none⟩) hg a).far (p:=⟨rb,3,none⟩) hg b).far (p:=⟨rb,4,none⟩) hg c).far (p:=⟨rb,5,none⟩) hg d
theorem rdcells (h:Rd bs A cap w0 rb nest st nv w) :
  (w.cell? ⟨rb,0,none⟩=some (.slice A bs.length cap)∧w.cell? ⟨rb,1,none⟩=some (.int .i64 (st.pos:Int))∧w.cell? ⟨rb,2,none⟩=some (.bool st.fl.i)∧w.cell? ⟨rb,3,none⟩=some (.bool st.fl.m)∧w.cell? ⟨rb,4,none⟩=some (.bool st.fl.s)∧w.cell? ⟨rb,5,none⟩=some (.bool st.fl.x)∧w.cell? ⟨rb,6,none⟩=some (.int .i64 (nest:Int))) ∧
  (w.frozen? ⟨rb,1,none⟩=false∧w.frozen? ⟨rb,2,none⟩=false∧w.frozen? ⟨rb,3,none⟩=false∧w.frozen? ⟨rb,4,none⟩=false∧w.frozen? ⟨rb,5,none⟩=false∧w.frozen? ⟨rb,6,none⟩=false):=
 ⟨⟨h.blk.cell 0,h.blk.cell 1,h.blk.cell 2,h.blk.cell 3,h.blk.cell 4,h.blk.cell 5,h.blk.cell 6⟩,h.blk.frozen 1,h.blk.frozen 2,h.blk.frozen 3,h.blk.frozen 4,h.blk.frozen 5,h.blk.frozen 6⟩
section
variable {bs:List UInt8} {A:Option Addr} {cap:Nat} {w0:World} {rb nest:Nat} {nv nv' a:Value} {w X3 W6 V:World} {s3 s4 st2:St} {g t:Nat} {cs:Array Value} {x:Pt} {v:Value} {lo:Nat}
theorem Left.set1 {W:World} (h:Left bs A cap w0 rb nest nv w s3 nv' W) (hk:Blk W g t cs) (ht:9≠t) (hg:w.heap.size≤g) (hw:rb<w.heap.size) {i:Nat} (u:Value):Left bs A cap w0 rb nest nv w s3 nv' (W.setCell ⟨g,i,none⟩ u):=
 ⟨h.rd.grown (only_setCell (World.grownBy.refl W (some g)) (p:=⟨g,i,none⟩) (.inl rfl) u) hk ht (by omega) (by have:=h.rd.above;omega),turn_far h.turn hg u,h.nw⟩
theorem Left.inner (h3:Left bs A cap w0 rb nest nv w s3 nv X3) (h6:Left bs A cap w0 rb (nest+1) nv (X3.setCell ⟨rb,6,none⟩ a) st2 nv' W6) (hb:Below W6.heap.size W6 V) (f:Fl) (hd:nest≤100):Left bs A cap w0 rb nest nv w { st2 with fl:=f } nv' (((((V.setCell ⟨rb,6,none⟩ (.int .i64 (nest:Int))).setCell ⟨rb,2,none⟩ (.bool f.i)).setCell ⟨rb,3,none⟩ (.bool f.m)).setCell ⟨rb,4,none⟩ (.bool f.s)).setCell ⟨rb,5,none⟩ (.bool f.x)):=by
 have hr:=(h6.rd.below hb).store 6 (.int .i64 (nest:Int)) (st':=st2) (nest':=nest) rfl h6.rd.pos hd rfl
 have t4:Turn rb nv.ownBlock w (X3.setCell ⟨rb,6,none⟩ a):=turn_set h3.turn a
 have t6:=t4.two h6.turn (Nw.refl w nv)
 have hn:Nw w nv nv':=(Nw.refl w nv).trans h6.nw t4.size
 exact ⟨fl4 hr f,turn_fl (turn_set (t6.two (Turn.of_below (rb:=rb) (row:=nv'.ownBlock) hb) hn) _) _ _ _ _,hn⟩
theorem blk_inner (hr4:Rd bs A cap w0 rb (nest+1) s4 nv (X3.setCell ⟨rb,6,none⟩ a)) (h6:Left bs A cap w0 rb (nest+1) nv (X3.setCell ⟨rb,6,none⟩ a) st2 nv' W6) (hb:Below W6.heap.size W6 V) (f:Fl) (hk:Blk X3 g t cs) (ht:9≠t) (hg:g≠rb):Blk (((((V.setCell ⟨rb,6,none⟩ (.int .i64 (nest:Int))).setCell ⟨rb,2,none⟩ (.bool f.i)).setCell ⟨rb,3,none⟩ (.bool f.m)).setCell ⟨rb,4,none⟩ (.bool f.s)).setCell ⟨rb,5,none⟩ (.bool f.x)) g t cs:=
 blk_fl (((Left.blk hr4 h6 (hk.far (p:=⟨rb,6,none⟩) hg a) ht hg).below hb ((Left.blk hr4 h6 (hk.far (p:=⟨rb,6,none⟩) hg a) ht hg)).lt).far (p:=⟨rb,6,none⟩) hg _) hg _ _ _ _
theorem PtV.inner (hp:PtV (Ok lo nv') V x v) (hr:rb<lo) (f:Fl):PtV (Ok lo nv') (((((V.setCell ⟨rb,6,none⟩ (.int .i64 (nest:Int))).setCell ⟨rb,2,none⟩ (.bool f.i)).setCell ⟨rb,3,none⟩ (.bool f.m)).setCell ⟨rb,4,none⟩ (.bool f.s)).setCell ⟨rb,5,none⟩ (.bool f.x)) x v:=
 hp.turn (turn_fl (turn_set (Turn.of_below (rb:=rb) (row:=nv'.ownBlock) (Below.refl _ V)) _) _ _ _ _) (Nw.refl _ _) hr
end
theorem within_err (h:Rd bs A cap w0 rb nest st nv w) (hnest:nest<100) (kk nn:Int) (s:List UInt8) (fr:Nat) (hfr:fr≤bs.length) (fl:Fl) (r:Res Pt) (CI:∀ W nv1,Rd bs A cap w0 rb (nest+1) ⟨fr,fl,st.names⟩ nv1 W→Calls Tryz.prog 32 #[Value.pointer (some ⟨rb,0,none⟩)] W (GiveP bs A cap w0 rb (nest+1) nv1 W r)) (k pl:Nat) (hr:r=.error (k,pl)) :
  Calls Tryz.prog 67 #[Value.pointer (some ⟨rb,0,none⟩),.agg #[.int .i64 kk,.int .i64 0,.int .i64 0,.int .i64 nn,.int .i64 0,.int .i64 0,.int .i64 0,.string ⟨s.toArray⟩,.slice none 0 0,.slice none 0 0],.int .i64 (fr:Int),.agg #[.bool fl.i,.bool fl.m,.bool fl.s,.bool fl.x]] w (GiveA bs A cap w0 rb nest nv w (.error (k,pl))):=by
 have hbb:Below w.heap.size w (((((w.alloc (.cells (nu kk (st.pos:Int) 0 nn 0 0 0 s none 0 0) 49)).alloc (.cells (bf fl) 73)).alloc (.cells pz 78)).alloc (.cells fz 80)).alloc (.cells (bf st.fl) 73)):=((((Below.refl w.heap.size w).alloc (Nat.le_refl _) (.cells (nu kk (st.pos:Int) 0 nn 0 0 0 s none 0 0) 49)).alloc (by simp) (.cells (bf fl) 73)).alloc (by simp;omega) (.cells pz 78)).alloc (by simp;omega) (.cells fz 80) |>.alloc (by simp;omega) (.cells (bf st.fl) 73)
 have hba:Below w.heap.size w ((((w.alloc (.cells (nu kk 0 0 nn 0 0 0 s none 0 0) 49)).alloc (.cells (bf fl) 73)).alloc (.cells pz 78)).alloc (.cells fz 80)):=(((Below.refl w.heap.size w).alloc (Nat.le_refl _) (.cells (nu kk 0 0 nn 0 0 0 s none 0 0) 49)).alloc (by simp) (.cells (bf fl) 73)).alloc (by simp;omega) (.cells pz 78) |>.alloc (by simp;omega) (.cells fz 80)
 have hbc:Below w.heap.size w ((((w.alloc (.cells (nu kk (st.pos:Int) 0 nn 0 0 0 s none 0 0) 49)).alloc (.cells (bf fl) 73)).alloc (.cells pz 78)).alloc (.cells fz 80)):=(((Below.refl w.heap.size w).alloc (Nat.le_refl _) (.cells (nu kk (st.pos:Int) 0 nn 0 0 0 s none 0 0) 49)).alloc (by simp) (.cells (bf fl) 73)).alloc (by simp;omega) (.cells pz 78) |>.alloc (by simp;omega) (.cells fz 80)
 have HR:=hide (h.below hbb)
 have HKN:=hide (((((Blk.new w 49 (nu kk (st.pos:Int) 0 nn 0 0 0 s none 0 0)).alloc (.cells (bf fl) 73)).alloc (.cells pz 78)).alloc (.cells fz 80)).alloc (.cells (bf st.fl) 73))
 have HKI:=hide ((((blk_at (W:=w.alloc (.cells (nu kk (st.pos:Int) 0 nn 0 0 0 s none 0 0) 49)) (g:=w.heap.size+1) (t:=73) (cs:=(bf fl)) (by simp)).alloc (.cells pz 78)).alloc (.cells fz 80)).alloc (.cells (bf st.fl) 73))
 have HKP:=hide (((blk_at (W:=(w.alloc (.cells (nu kk (st.pos:Int) 0 nn 0 0 0 s none 0 0) 49)).alloc (.cells (bf fl) 73)) (g:=w.heap.size+2) (t:=78) (cs:=pz) (by simp)).alloc (.cells fz 80)).alloc (.cells (bf st.fl) 73))
 have HKF:=hide ((blk_at (W:=((w.alloc (.cells (nu kk (st.pos:Int) 0 nn 0 0 0 s none 0 0) 49)).alloc (.cells (bf fl) 73)).alloc (.cells pz 78)) (g:=w.heap.size+3) (t:=80) (cs:=fz) (by simp)).alloc (.cells (bf st.fl) 73))
 have HKO:=hide (blk_at (W:=(((w.alloc (.cells (nu kk (st.pos:Int) 0 nn 0 0 0 s none 0 0) 49)).alloc (.cells (bf fl) 73)).alloc (.cells pz 78)).alloc (.cells fz 80)) (g:=w.heap.size+4) (t:=73) (cs:=(bf st.fl)) (by simp))
 have q1:=(h.below hba).c1
 have q2:=(h.below hbc).c2
 have q3:=(h.below hbc).c3
 have q4:=(h.below hbc).c4
 have q5:=(h.below hbc).c5
 have HB:=hide hbb
 have HW:=hide h
 have CI:=hide CI
 have hr:=hide hr
 have HFR:=hide hfr
 have hlt:=h.blk.lt
 have habv:=h.above
 have htop:=h.top
 have hns:st.names=st.names:=rfl
 have hwn:IntKind.i64.wrap ((nest:Int)+1)=(nest:Int)+1:=Rs.wrap_id _ (by omega) (by omega)
 clear h hbb hba hbc hfr hns
 go_enter Tryz.func67,Tryz.ntmps67
 go_wp2_with fail
 generalize (((((w.alloc (.cells (nu kk (st.pos:Int) 0 nn 0 0 0 s none 0 0) 49)).alloc (.cells (bf fl) 73)).alloc (.cells pz 78)).alloc (.cells fz 80)).alloc (.cells (bf st.fl) 73))=X at *
 have hXs:w.heap.size+5≤X.heap.size:=HKO.1.lt
 obtain ⟨⟨i0,i1,i2,i3⟩,-⟩:=cells4 HKI.1
 obtain ⟨⟨c0,c1,c2,c3,c4,c5,c6⟩,f1,f2,f3,f4,f5,f6⟩:=rdcells HR.1
 refine wp_region_noPanic ?_
 refine wp_region_held_drew (S:=(fun wx=>Hd (Blk wx (w.heap.size+1) 73 (bf fl))∧wx.cell? ⟨w.heap.size+1,0,none⟩=some (.bool fl.i)∧wx.cell? ⟨w.heap.size+1,1,none⟩=some (.bool fl.m)∧wx.cell? ⟨w.heap.size+1,2,none⟩=some (.bool fl.s)∧wx.cell? ⟨w.heap.size+1,3,none⟩=some (.bool fl.x))) (by kernel_rfl) (⟨hide HKI.1.drew,HKI.1.drew.cell 0,HKI.1.drew.cell 1,HKI.1.drew.cell 2,HKI.1.drew.cell 3⟩) (fun hHeld=>?_)
 refine tkH 0 (some 23) ?vu1 rfl ?yu1 hHeld ?ru1
 case yu1=>(intro w hSw;(try dsimp only at hSw);go_simp;try with_reducible rfl)
 try simp only [aP]
 refine tkH 1 (some 24) ?vu2 rfl ?yu2 hHeld ?ru2
 case yu2=>(intro w hSw;(try dsimp only at hSw);go_simp;try with_reducible rfl)
 try simp only [aP]
 refine tkH 2 (some 25) ?vu3 rfl ?yu3 hHeld ?ru3
 case yu3=>(intro w hSw;(try dsimp only at hSw);go_simp;try with_reducible rfl)
 try simp only [aP]
 refine tkH 3 (some 26) ?vu4 rfl ?yu4 hHeld ?ru4
 case yu4=>(intro w hSw;(try dsimp only at hSw);go_simp;try with_reducible rfl)
 try simp only [aP]
 refine tkH 4 (some 27) ?vu5 rfl ?yu5 hHeld ?ru5
 case yu5=>(intro w hSw;(try dsimp only at hSw);go_simp;try with_reducible rfl)
 try simp only [aP]
 refine tkH 5 (some 28) ?vu6 rfl ?yu6 hHeld ?ru6
 case yu6=>(intro w hSw;(try dsimp only at hSw);go_simp;try with_reducible rfl)
 try simp only [aP]
 refine wpAnyH_ready (rs:=[6]) (by kernel_rfl) (by simp) ?_
 refine AllReadyH.cons (o:=⟨none,_,_,_,_,_⟩) rfl (fun K hK=>?_) AllReadyH.nil
 go_simp
 refine hK.out _ _ (⟨hide (HKI.1.drew.far (p:=⟨rb,1,none⟩) (by show w.heap.size+1≠rb;omega) (.int .i64 (fr:Int))),(HKI.1.drew.far (p:=⟨rb,1,none⟩) (by show w.heap.size+1≠rb;omega) (.int .i64 (fr:Int))).cell 0,(HKI.1.drew.far (p:=⟨rb,1,none⟩) (by show w.heap.size+1≠rb;omega) (.int .i64 (fr:Int))).cell 1,(HKI.1.drew.far (p:=⟨rb,1,none⟩) (by show w.heap.size+1≠rb;omega) (.int .i64 (fr:Int))).cell 2,(HKI.1.drew.far (p:=⟨rb,1,none⟩) (by show w.heap.size+1≠rb;omega) (.int .i64 (fr:Int))).cell 3⟩) (fun hHeld2=>?_)
 clear hK K
 try simp only [aP]
 have hr1:=HR.1.drew.store 1 (.int .i64 (fr:Int)) (st':={ st with pos:=fr }) (nest':=nest) rfl HFR.1 HR.1.deep rfl
 obtain ⟨⟨-,-,c12,c13,c14,c15,-⟩,-,f12,f13,f14,f15,-⟩:=rdcells hr1
 have HR3:=hide (fl4 (HR.1.store 1 (.int .i64 (fr:Int)) (st':={ st with pos:=fr }) (nest':=nest) rfl HFR.1 HR.1.deep rfl) fl).drew
 clear hr1
 refine tkH 7 (some 29) ?vu7 rfl ?yu7 hHeld2 ?ru7
 case yu7=>(intro w hSw;(try dsimp only at hSw);go_simp;try with_reducible rfl)
 try simp only [aP]
 refine tkH 8 (some 30) ?vu8 rfl ?yu8 hHeld2 ?ru8
 case yu8=>(intro w hSw;(try dsimp only at hSw);go_simp;try with_reducible rfl)
 try simp only [aP]
 refine wpAnyH_ready (rs:=[9]) (by kernel_rfl) (by simp) ?_
 refine AllReadyH.cons (o:=⟨none,_,_,_,_,_⟩) rfl (fun K hK=>?_) AllReadyH.nil
 go_simp
 refine hK.out _ _ (⟨hide ((blk_fl (HKI.1.far (p:=⟨rb,1,none⟩) (by show w.heap.size+1≠rb;omega) (.int .i64 (fr:Int))) (show w.heap.size+1≠rb by omega) (.bool fl.i) (.bool fl.m) (.bool fl.s) (.bool fl.x)).drew),((blk_fl (HKI.1.far (p:=⟨rb,1,none⟩) (by show w.heap.size+1≠rb;omega) (.int .i64 (fr:Int))) (show w.heap.size+1≠rb by omega) (.bool fl.i) (.bool fl.m) (.bool fl.s) (.bool fl.x)).drew).cell 0,((blk_fl (HKI.1.far (p:=⟨rb,1,none⟩) (by show w.heap.size+1≠rb;omega) (.int .i64 (fr:Int))) (show w.heap.size+1≠rb by omega) (.bool fl.i) (.bool fl.m) (.bool fl.s) (.bool fl.x)).drew).cell 1,((blk_fl (HKI.1.far (p:=⟨rb,1,none⟩) (by show w.heap.size+1≠rb;omega) (.int .i64 (fr:Int))) (show w.heap.size+1≠rb by omega) (.bool fl.i) (.bool fl.m) (.bool fl.s) (.bool fl.x)).drew).cell 2,((blk_fl (HKI.1.far (p:=⟨rb,1,none⟩) (by show w.heap.size+1≠rb;omega) (.int .i64 (fr:Int))) (show w.heap.size+1≠rb by omega) (.bool fl.i) (.bool fl.m) (.bool fl.s) (.bool fl.x)).drew).cell 3⟩) (fun hHeld3=>?_)
 clear hK K
 try simp only [aP]
 refine wpAnyH_done (by kernel_rfl) ?_ _
 refine NoPanic.normal ?_
 clear hHeld hHeld2 hHeld3
 have HL3:=hide (Left.then (Left.of_below HW.1 HB.1) (Left.of_turn HR3.1 ((turn_fl (turn_set (Turn.of_below (rb:=rb) (row:=none) (Below.refl _ X)) (.int .i64 (fr:Int))) (.bool fl.i) (.bool fl.m) (.bool fl.s) (.bool fl.x)).trans (Turn.of_below (Below.refl _ _).drew) (.inl rfl))))
 have HKN:=hide ((blk_fl (HKN.1.far (p:=⟨rb,1,none⟩) (by show w.heap.size≠rb;omega) (.int .i64 (fr:Int))) (show w.heap.size≠rb by omega) (.bool fl.i) (.bool fl.m) (.bool fl.s) (.bool fl.x)).drew)
 have HKP:=hide ((blk_fl (HKP.1.far (p:=⟨rb,1,none⟩) (by show w.heap.size+2≠rb;omega) (.int .i64 (fr:Int))) (show w.heap.size+2≠rb by omega) (.bool fl.i) (.bool fl.m) (.bool fl.s) (.bool fl.x)).drew)
 have HKF:=hide ((blk_fl (HKF.1.far (p:=⟨rb,1,none⟩) (by show w.heap.size+3≠rb;omega) (.int .i64 (fr:Int))) (show w.heap.size+3≠rb by omega) (.bool fl.i) (.bool fl.m) (.bool fl.s) (.bool fl.x)).drew)
 have HKO:=hide ((blk_fl (HKO.1.far (p:=⟨rb,1,none⟩) (by show w.heap.size+4≠rb;omega) (.int .i64 (fr:Int))) (show w.heap.size+4≠rb by omega) (.bool fl.i) (.bool fl.m) (.bool fl.s) (.bool fl.x)).drew)
 have hs3:X.heap.size≤((((((X.setCell ⟨rb,1,none⟩ (.int .i64 (fr:Int))).setCell ⟨rb,2,none⟩ (.bool fl.i)).setCell ⟨rb,3,none⟩ (.bool fl.m)).setCell ⟨rb,4,none⟩ (.bool fl.s)).setCell ⟨rb,5,none⟩ (.bool fl.x)).drew).heap.size:=by simp [World.setCell,World.drew]
 clear c0 c1 c2 c3 c4 c5 c6 f1 f2 f3 f4 f5 f6 c12 c13 c14 c15 f12 f13 f14 f15 i0 i1 i2 i3 HR HKI
 generalize (((((X.setCell ⟨rb,1,none⟩ (.int .i64 (fr:Int))).setCell ⟨rb,2,none⟩ (.bool fl.i)).setCell ⟨rb,3,none⟩ (.bool fl.m)).setCell ⟨rb,4,none⟩ (.bool fl.s)).setCell ⟨rb,5,none⟩ (.bool fl.x)).drew=X3 at *
 obtain ⟨⟨-,-,-,-,-,-,c6⟩,-,-,-,-,-,f6⟩:=rdcells HR3.1
 go_wp2_with fail
 have hr4:=HR3.1.store 6 (.int .i64 ((nest:Int)+1)) (st':=⟨fr,fl,st.names⟩) (nest':=nest+1) rfl HFR.1 (by omega) rfl
 have hs4:X3.heap.size≤(X3.setCell ⟨rb,6,none⟩ (.int .i64 ((nest:Int)+1))).heap.size:=by simp [World.setCell]
 refine (CI.1 _ _ hr4).mono ?_
 rintro e W6 hG
 rw [hr.1] at hG
 obtain ⟨hk0,rfl,st2,nv',hL⟩:=hG
 have e1:((k:Int) != 0)=true:=by rw [bne_iff_ne];omega
 have hk0:=hide hk0
 have hbV:Below W6.heap.size W6 ((W6.alloc (.cells pz 78)).alloc (.cells #[.int .i64 (k:Int),.int .i64 (pl:Int)] 80)):=((Below.refl W6.heap.size W6).alloc (Nat.le_refl _) (.cells pz 78)).alloc (by simp) (.cells #[.int .i64 (k:Int),.int .i64 (pl:Int)] 80)
 have HL7:=hide (Left.inner HL3.1 hL hbV st.fl (by omega))
 have HKN:=hide (blk_inner hr4 hL hbV st.fl HKN.1 (by decide) (show w.heap.size≠rb by omega))
 have HKP:=hide (blk_inner hr4 hL hbV st.fl HKP.1 (by decide) (show w.heap.size+2≠rb by omega))
 have HKF:=hide (blk_inner hr4 hL hbV st.fl HKF.1 (by decide) (show w.heap.size+3≠rb by omega))
 have hs6:=hL.turn.size
 have hko:=(Left.blk hr4 hL (HKO.1.far (p:=⟨rb,6,none⟩) (by show w.heap.size+4≠rb;omega) (.int .i64 ((nest:Int)+1))) (by decide) (show w.heap.size+4≠rb by omega))
 have hko6:=(hko.below hbV hko.lt).far (p:=⟨rb,6,none⟩) (by show w.heap.size+4≠rb;omega) (.int .i64 (nest:Int))
 obtain ⟨⟨o0,o1,o2,o3⟩,-⟩:=cells4 hko6
 have hrV:=hL.rd.below hbV
 obtain ⟨⟨-,-,-,-,-,-,r6⟩,-,-,-,-,-,s6⟩:=rdcells hrV
 have hr7:=hrV.store 6 (.int .i64 (nest:Int)) (st':=st2) (nest':=nest) rfl hL.rd.pos (by omega) rfl
 obtain ⟨⟨-,-,t2,t3,t4,t5,-⟩,-,g2,g3,g4,g5,-⟩:=rdcells hr7
 have hwm:IntKind.i64.wrap (((nest+1:Nat):Int)-1)=(nest:Int):=by rw [show ((nest+1:Nat):Int)-1=(nest:Int) by omega];exact Rs.wrap_id _ (by omega) (by omega)
 have hpb:=(Blk.new W6 78 pz).alloc (.cells #[.int .i64 (k:Int),.int .i64 (pl:Int)] 80)
 have HPB:=hide (blk_fl (hpb.far (p:=⟨rb,6,none⟩) (by show W6.heap.size≠rb;omega) (.int .i64 (nest:Int))) (show W6.heap.size≠rb by omega) (.bool st.fl.i) (.bool st.fl.m) (.bool st.fl.s) (.bool st.fl.x))
 have hfb:=blk_at (W:=W6.alloc (.cells pz 78)) (g:=W6.heap.size+1) (t:=80) (cs:=#[.int .i64 (k:Int),.int .i64 (pl:Int)]) (by simp)
 have HFB:=hide (blk_fl (hfb.far (p:=⟨rb,6,none⟩) (by show W6.heap.size+1≠rb;omega) (.int .i64 (nest:Int))) (show W6.heap.size+1≠rb by omega) (.bool st.fl.i) (.bool st.fl.m) (.bool st.fl.s) (.bool st.fl.x))
 obtain ⟨⟨b0,b1⟩,-⟩:=cells2 HFB.1
 have hVs:W6.heap.size+2≤(((((((W6.alloc (.cells pz 78)).alloc (.cells #[.int .i64 (k:Int),.int .i64 (pl:Int)] 80)).setCell ⟨rb,6,none⟩ (.int .i64 (nest:Int))).setCell ⟨rb,2,none⟩ (.bool st.fl.i)).setCell ⟨rb,3,none⟩ (.bool st.fl.m)).setCell ⟨rb,4,none⟩ (.bool st.fl.s)).setCell ⟨rb,5,none⟩ (.bool st.fl.x)).heap.size:=by simp [World.setCell]
 clear hbV hko hko6 hrV hr7 hpb hfb hL hr4 HL3 HR3 HKO
 go_wp2_with fail
 clear o0 o1 o2 o3 r6 s6 t2 t3 t4 t5 g2 g3 g4 g5 b0 b1
 generalize (((((((W6.alloc (.cells pz 78)).alloc (.cells #[.int .i64 (k:Int),.int .i64 (pl:Int)] 80)).setCell ⟨rb,6,none⟩ (.int .i64 (nest:Int))).setCell ⟨rb,2,none⟩ (.bool st.fl.i)).setCell ⟨rb,3,none⟩ (.bool st.fl.m)).setCell ⟨rb,4,none⟩ (.bool st.fl.s)).setCell ⟨rb,5,none⟩ (.bool st.fl.x))=V at *
 have hff:=err_facts HKP.1 HKF.1 HFB.1 (by omega) (show W6.heap.size+1≠w.heap.size+2 by omega)
 obtain ⟨⟨a0,a1⟩,-⟩:=hff (.int .i64 0) (.int .i64 0) (.int .i64 0) (.int .i64 0) (.int .i64 0) (.int .i64 0) (.int .i64 0) (.string ⟨#[]⟩) (.slice none 0 0) (.slice none 0 0) (.slice none 0 0)
 obtain ⟨-,⟨b0,b1⟩⟩:=hff (.int .i64 0) (.int .i64 0) (.int .i64 0) (.int .i64 0) (.int .i64 0) (.int .i64 0) (.int .i64 0) (.string ⟨#[]⟩) (.slice none 0 0) (.slice none 0 0) (.slice none 0 0)
 obtain ⟨⟨y0,y1,y2,y3,y4,y5,y6,y7,y8,y9,y10⟩,z0,z1,z2,z3,z4,z5,z6,z7,z8,z9,z10⟩:=cells11 HKP.1
 obtain ⟨⟨u20,u21⟩,v20,v21⟩:=cells2 HKF.1
 obtain ⟨⟨p20,p21⟩,q20,q21⟩:=cells2 (far11 HKF.1 (show w.heap.size+3≠w.heap.size+2 by omega) (.int .i64 0) (.int .i64 0) (.int .i64 0) (.int .i64 0) (.int .i64 0) (.int .i64 0) (.int .i64 0) (.string ⟨#[]⟩) (.slice none 0 0) (.slice none 0 0) (.slice none 0 0))
 clear hff
 go_region
 all_goals
  go_wp2_with fail
  (try simp only [Exit.inBlock,Exit.then])
  have hq:=blk13 HKP.1 HKF.1 (by omega) rfl rfl
  exact bodyPost_ret (rctc rfl (w.heap.size+2) (w.heap.size+3) (.bool false) rfl rfl rfl ⟨(hq _ _ _ _ _ _ _ _ _ _ _ _ _).1.drew,(hq _ _ _ _ _ _ _ _ _ _ _ _ _).2.drew⟩) rfl ⟨hk0.1,rfl,_,nv',((HL7.1.set13 HKP.1 HKF.1 hlt (by omega) (by omega) (by omega) _ _ _ _ _ _ _ _ _ _ _ _ _).below (Below.refl _ _).drew)⟩
theorem within_end (h:Rd bs A cap w0 rb nest st nv w) (hnest:nest<100) (kk nn:Int) (s:List UInt8) (fr:Nat) (hfr:fr≤bs.length) (fl:Fl) (r:Res Pt) (CI:∀ W nv1,Rd bs A cap w0 rb (nest+1) ⟨fr,fl,st.names⟩ nv1 W→Calls Tryz.prog 32 #[Value.pointer (some ⟨rb,0,none⟩)] W (GiveP bs A cap w0 rb (nest+1) nv1 W r)) (x:Pt) (st2:St) (hr:r=.ok (x,st2)) (hend:bs.length≤st2.pos) :
  Calls Tryz.prog 67 #[Value.pointer (some ⟨rb,0,none⟩),.agg #[.int .i64 kk,.int .i64 0,.int .i64 0,.int .i64 nn,.int .i64 0,.int .i64 0,.int .i64 0,.string ⟨s.toArray⟩,.slice none 0 0,.slice none 0 0],.int .i64 (fr:Int),.agg #[.bool fl.i,.bool fl.m,.bool fl.s,.bool fl.x]] w (GiveA bs A cap w0 rb nest nv w (.error (30,st.pos))):=by
 have hbb:Below w.heap.size w (((((w.alloc (.cells (nu kk (st.pos:Int) 0 nn 0 0 0 s none 0 0) 49)).alloc (.cells (bf fl) 73)).alloc (.cells pz 78)).alloc (.cells fz 80)).alloc (.cells (bf st.fl) 73)):=((((Below.refl w.heap.size w).alloc (Nat.le_refl _) (.cells (nu kk (st.pos:Int) 0 nn 0 0 0 s none 0 0) 49)).alloc (by simp) (.cells (bf fl) 73)).alloc (by simp;omega) (.cells pz 78)).alloc (by simp;omega) (.cells fz 80) |>.alloc (by simp;omega) (.cells (bf st.fl) 73)
 have hba:Below w.heap.size w ((((w.alloc (.cells (nu kk 0 0 nn 0 0 0 s none 0 0) 49)).alloc (.cells (bf fl) 73)).alloc (.cells pz 78)).alloc (.cells fz 80)):=(((Below.refl w.heap.size w).alloc (Nat.le_refl _) (.cells (nu kk 0 0 nn 0 0 0 s none 0 0) 49)).alloc (by simp) (.cells (bf fl) 73)).alloc (by simp;omega) (.cells pz 78) |>.alloc (by simp;omega) (.cells fz 80)
 have hbc:Below w.heap.size w ((((w.alloc (.cells (nu kk (st.pos:Int) 0 nn 0 0 0 s none 0 0) 49)).alloc (.cells (bf fl) 73)).alloc (.cells pz 78)).alloc (.cells fz 80)):=(((Below.refl w.heap.size w).alloc (Nat.le_refl _) (.cells (nu kk (st.pos:Int) 0 nn 0 0 0 s none 0 0) 49)).alloc (by simp) (.cells (bf fl) 73)).alloc (by simp;omega) (.cells pz 78) |>.alloc (by simp;omega) (.cells fz 80)
 have HR:=hide (h.below hbb)
 have HKN:=hide (((((Blk.new w 49 (nu kk (st.pos:Int) 0 nn 0 0 0 s none 0 0)).alloc (.cells (bf fl) 73)).alloc (.cells pz 78)).alloc (.cells fz 80)).alloc (.cells (bf st.fl) 73))
 have HKI:=hide ((((blk_at (W:=w.alloc (.cells (nu kk (st.pos:Int) 0 nn 0 0 0 s none 0 0) 49)) (g:=w.heap.size+1) (t:=73) (cs:=(bf fl)) (by simp)).alloc (.cells pz 78)).alloc (.cells fz 80)).alloc (.cells (bf st.fl) 73))
 have HKP:=hide (((blk_at (W:=(w.alloc (.cells (nu kk (st.pos:Int) 0 nn 0 0 0 s none 0 0) 49)).alloc (.cells (bf fl) 73)) (g:=w.heap.size+2) (t:=78) (cs:=pz) (by simp)).alloc (.cells fz 80)).alloc (.cells (bf st.fl) 73))
 have HKF:=hide ((blk_at (W:=((w.alloc (.cells (nu kk (st.pos:Int) 0 nn 0 0 0 s none 0 0) 49)).alloc (.cells (bf fl) 73)).alloc (.cells pz 78)) (g:=w.heap.size+3) (t:=80) (cs:=fz) (by simp)).alloc (.cells (bf st.fl) 73))
 have HKO:=hide (blk_at (W:=(((w.alloc (.cells (nu kk (st.pos:Int) 0 nn 0 0 0 s none 0 0) 49)).alloc (.cells (bf fl) 73)).alloc (.cells pz 78)).alloc (.cells fz 80)) (g:=w.heap.size+4) (t:=73) (cs:=(bf st.fl)) (by simp))
 have q1:=(h.below hba).c1
 have q2:=(h.below hbc).c2
 have q3:=(h.below hbc).c3
 have q4:=(h.below hbc).c4
 have q5:=(h.below hbc).c5
 have HB:=hide hbb
 have HW:=hide h
 have CI:=hide CI
 have hr:=hide hr
 have HFR:=hide hfr
 have hlt:=h.blk.lt
 have habv:=h.above
 have htop:=h.top
 have hns:st.names=st.names:=rfl
 have hwn:IntKind.i64.wrap ((nest:Int)+1)=(nest:Int)+1:=Rs.wrap_id _ (by omega) (by omega)
 clear h hbb hba hbc hfr hns
 go_enter Tryz.func67,Tryz.ntmps67
 go_wp2_with fail
 generalize (((((w.alloc (.cells (nu kk (st.pos:Int) 0 nn 0 0 0 s none 0 0) 49)).alloc (.cells (bf fl) 73)).alloc (.cells pz 78)).alloc (.cells fz 80)).alloc (.cells (bf st.fl) 73))=X at *
 have hXs:w.heap.size+5≤X.heap.size:=HKO.1.lt
 obtain ⟨⟨i0,i1,i2,i3⟩,-⟩:=cells4 HKI.1
 obtain ⟨⟨c0,c1,c2,c3,c4,c5,c6⟩,f1,f2,f3,f4,f5,f6⟩:=rdcells HR.1
 refine wp_region_noPanic ?_
 refine wp_region_held_drew (S:=(fun wx=>Hd (Blk wx (w.heap.size+1) 73 (bf fl))∧wx.cell? ⟨w.heap.size+1,0,none⟩=some (.bool fl.i)∧wx.cell? ⟨w.heap.size+1,1,none⟩=some (.bool fl.m)∧wx.cell? ⟨w.heap.size+1,2,none⟩=some (.bool fl.s)∧wx.cell? ⟨w.heap.size+1,3,none⟩=some (.bool fl.x))) (by kernel_rfl) (⟨hide HKI.1.drew,HKI.1.drew.cell 0,HKI.1.drew.cell 1,HKI.1.drew.cell 2,HKI.1.drew.cell 3⟩) (fun hHeld=>?_)
 refine tkH 0 (some 23) ?vu9 rfl ?yu9 hHeld ?ru9
 case yu9=>(intro w hSw;(try dsimp only at hSw);go_simp;try with_reducible rfl)
 try simp only [aP]
 refine tkH 1 (some 24) ?vu10 rfl ?yu10 hHeld ?ru10
 case yu10=>(intro w hSw;(try dsimp only at hSw);go_simp;try with_reducible rfl)
 try simp only [aP]
 refine tkH 2 (some 25) ?vu11 rfl ?yu11 hHeld ?ru11
 case yu11=>(intro w hSw;(try dsimp only at hSw);go_simp;try with_reducible rfl)
 try simp only [aP]
 refine tkH 3 (some 26) ?vu12 rfl ?yu12 hHeld ?ru12
 case yu12=>(intro w hSw;(try dsimp only at hSw);go_simp;try with_reducible rfl)
 try simp only [aP]
 refine tkH 4 (some 27) ?vu13 rfl ?yu13 hHeld ?ru13
 case yu13=>(intro w hSw;(try dsimp only at hSw);go_simp;try with_reducible rfl)
 try simp only [aP]
 refine tkH 5 (some 28) ?vu14 rfl ?yu14 hHeld ?ru14
 case yu14=>(intro w hSw;(try dsimp only at hSw);go_simp;try with_reducible rfl)
 try simp only [aP]
 refine wpAnyH_ready (rs:=[6]) (by kernel_rfl) (by simp) ?_
 refine AllReadyH.cons (o:=⟨none,_,_,_,_,_⟩) rfl (fun K hK=>?_) AllReadyH.nil
 go_simp
 refine hK.out _ _ (⟨hide (HKI.1.drew.far (p:=⟨rb,1,none⟩) (by show w.heap.size+1≠rb;omega) (.int .i64 (fr:Int))),(HKI.1.drew.far (p:=⟨rb,1,none⟩) (by show w.heap.size+1≠rb;omega) (.int .i64 (fr:Int))).cell 0,(HKI.1.drew.far (p:=⟨rb,1,none⟩) (by show w.heap.size+1≠rb;omega) (.int .i64 (fr:Int))).cell 1,(HKI.1.drew.far (p:=⟨rb,1,none⟩) (by show w.heap.size+1≠rb;omega) (.int .i64 (fr:Int))).cell 2,(HKI.1.drew.far (p:=⟨rb,1,none⟩) (by show w.heap.size+1≠rb;omega) (.int .i64 (fr:Int))).cell 3⟩) (fun hHeld2=>?_)
 clear hK K
 try simp only [aP]
 have hr1:=HR.1.drew.store 1 (.int .i64 (fr:Int)) (st':={ st with pos:=fr }) (nest':=nest) rfl HFR.1 HR.1.deep rfl
 obtain ⟨⟨-,-,c12,c13,c14,c15,-⟩,-,f12,f13,f14,f15,-⟩:=rdcells hr1
 have HR3:=hide (fl4 (HR.1.store 1 (.int .i64 (fr:Int)) (st':={ st with pos:=fr }) (nest':=nest) rfl HFR.1 HR.1.deep rfl) fl).drew
 clear hr1
 refine tkH 7 (some 29) ?vu15 rfl ?yu15 hHeld2 ?ru15
 case yu15=>(intro w hSw;(try dsimp only at hSw);go_simp;try with_reducible rfl)
 try simp only [aP]
 refine tkH 8 (some 30) ?vu16 rfl ?yu16 hHeld2 ?ru16
 case yu16=>(intro w hSw;(try dsimp only at hSw);go_simp;try with_reducible rfl)
 try simp only [aP]
 refine wpAnyH_ready (rs:=[9]) (by kernel_rfl) (by simp) ?_
 refine AllReadyH.cons (o:=⟨none,_,_,_,_,_⟩) rfl (fun K hK=>?_) AllReadyH.nil
 go_simp
 refine hK.out _ _ (⟨hide ((blk_fl (HKI.1.far (p:=⟨rb,1,none⟩) (by show w.heap.size+1≠rb;omega) (.int .i64 (fr:Int))) (show w.heap.size+1≠rb by omega) (.bool fl.i) (.bool fl.m) (.bool fl.s) (.bool fl.x)).drew),((blk_fl (HKI.1.far (p:=⟨rb,1,none⟩) (by show w.heap.size+1≠rb;omega) (.int .i64 (fr:Int))) (show w.heap.size+1≠rb by omega) (.bool fl.i) (.bool fl.m) (.bool fl.s) (.bool fl.x)).drew).cell 0,((blk_fl (HKI.1.far (p:=⟨rb,1,none⟩) (by show w.heap.size+1≠rb;omega) (.int .i64 (fr:Int))) (show w.heap.size+1≠rb by omega) (.bool fl.i) (.bool fl.m) (.bool fl.s) (.bool fl.x)).drew).cell 1,((blk_fl (HKI.1.far (p:=⟨rb,1,none⟩) (by show w.heap.size+1≠rb;omega) (.int .i64 (fr:Int))) (show w.heap.size+1≠rb by omega) (.bool fl.i) (.bool fl.m) (.bool fl.s) (.bool fl.x)).drew).cell 2,((blk_fl (HKI.1.far (p:=⟨rb,1,none⟩) (by show w.heap.size+1≠rb;omega) (.int .i64 (fr:Int))) (show w.heap.size+1≠rb by omega) (.bool fl.i) (.bool fl.m) (.bool fl.s) (.bool fl.x)).drew).cell 3⟩) (fun hHeld3=>?_)
 clear hK K
 try simp only [aP]
 refine wpAnyH_done (by kernel_rfl) ?_ _
 refine NoPanic.normal ?_
 clear hHeld hHeld2 hHeld3
 have HL3:=hide (Left.then (Left.of_below HW.1 HB.1) (Left.of_turn HR3.1 ((turn_fl (turn_set (Turn.of_below (rb:=rb) (row:=none) (Below.refl _ X)) (.int .i64 (fr:Int))) (.bool fl.i) (.bool fl.m) (.bool fl.s) (.bool fl.x)).trans (Turn.of_below (Below.refl _ _).drew) (.inl rfl))))
 have HKN:=hide ((blk_fl (HKN.1.far (p:=⟨rb,1,none⟩) (by show w.heap.size≠rb;omega) (.int .i64 (fr:Int))) (show w.heap.size≠rb by omega) (.bool fl.i) (.bool fl.m) (.bool fl.s) (.bool fl.x)).drew)
 have HKP:=hide ((blk_fl (HKP.1.far (p:=⟨rb,1,none⟩) (by show w.heap.size+2≠rb;omega) (.int .i64 (fr:Int))) (show w.heap.size+2≠rb by omega) (.bool fl.i) (.bool fl.m) (.bool fl.s) (.bool fl.x)).drew)
 have HKF:=hide ((blk_fl (HKF.1.far (p:=⟨rb,1,none⟩) (by show w.heap.size+3≠rb;omega) (.int .i64 (fr:Int))) (show w.heap.size+3≠rb by omega) (.bool fl.i) (.bool fl.m) (.bool fl.s) (.bool fl.x)).drew)
 have HKO:=hide ((blk_fl (HKO.1.far (p:=⟨rb,1,none⟩) (by show w.heap.size+4≠rb;omega) (.int .i64 (fr:Int))) (show w.heap.size+4≠rb by omega) (.bool fl.i) (.bool fl.m) (.bool fl.s) (.bool fl.x)).drew)
 have hs3:X.heap.size≤((((((X.setCell ⟨rb,1,none⟩ (.int .i64 (fr:Int))).setCell ⟨rb,2,none⟩ (.bool fl.i)).setCell ⟨rb,3,none⟩ (.bool fl.m)).setCell ⟨rb,4,none⟩ (.bool fl.s)).setCell ⟨rb,5,none⟩ (.bool fl.x)).drew).heap.size:=by simp [World.setCell,World.drew]
 clear c0 c1 c2 c3 c4 c5 c6 f1 f2 f3 f4 f5 f6 c12 c13 c14 c15 f12 f13 f14 f15 i0 i1 i2 i3 HR HKI
 generalize (((((X.setCell ⟨rb,1,none⟩ (.int .i64 (fr:Int))).setCell ⟨rb,2,none⟩ (.bool fl.i)).setCell ⟨rb,3,none⟩ (.bool fl.m)).setCell ⟨rb,4,none⟩ (.bool fl.s)).setCell ⟨rb,5,none⟩ (.bool fl.x)).drew=X3 at *
 obtain ⟨⟨-,-,-,-,-,-,c6⟩,-,-,-,-,-,f6⟩:=rdcells HR3.1
 go_wp2_with fail
 have hr4:=HR3.1.store 6 (.int .i64 ((nest:Int)+1)) (st':=⟨fr,fl,st.names⟩) (nest':=nest+1) rfl HFR.1 (by omega) rfl
 have hs4:X3.heap.size≤(X3.setCell ⟨rb,6,none⟩ (.int .i64 ((nest:Int)+1))).heap.size:=by simp [World.setCell]
 refine (CI.1 _ _ hr4).mono ?_
 rintro e W6 hG
 rw [hr.1] at hG
 obtain ⟨v,nv',he,hp,hL⟩:=hG
 obtain ⟨u0,u1,u2,u3,u4,u5,u6,s1,L,ln,lc,K,kn,kc,rfl,-⟩:=hp.form
 subst he
 have hbV:Below W6.heap.size W6 ((W6.alloc (.cells (pu u0 u1 u2 u3 u4 u5 u6 s1 L ln lc K kn kc) 78)).alloc (.cells fz 80)):=((Below.refl W6.heap.size W6).alloc (Nat.le_refl _) (.cells (pu u0 u1 u2 u3 u4 u5 u6 s1 L ln lc K kn kc) 78)).alloc (by simp) (.cells fz 80)
 have HL7:=hide (Left.inner HL3.1 hL hbV st.fl (by omega))
 have HKN:=hide (blk_inner hr4 hL hbV st.fl HKN.1 (by decide) (show w.heap.size≠rb by omega))
 have HKP:=hide (blk_inner hr4 hL hbV st.fl HKP.1 (by decide) (show w.heap.size+2≠rb by omega))
 have HKF:=hide (blk_inner hr4 hL hbV st.fl HKF.1 (by decide) (show w.heap.size+3≠rb by omega))
 have hs6:=hL.turn.size
 have hko:=(Left.blk hr4 hL (HKO.1.far (p:=⟨rb,6,none⟩) (by show w.heap.size+4≠rb;omega) (.int .i64 ((nest:Int)+1))) (by decide) (show w.heap.size+4≠rb by omega))
 have hko6:=(hko.below hbV hko.lt).far (p:=⟨rb,6,none⟩) (by show w.heap.size+4≠rb;omega) (.int .i64 (nest:Int))
 obtain ⟨⟨o0,o1,o2,o3⟩,-⟩:=cells4 hko6
 have hrV:=hL.rd.below hbV
 obtain ⟨⟨-,-,-,-,-,-,r6⟩,-,-,-,-,-,s6⟩:=rdcells hrV
 have hr7:=hrV.store 6 (.int .i64 (nest:Int)) (st':=st2) (nest':=nest) rfl hL.rd.pos (by omega) rfl
 obtain ⟨⟨-,-,t2,t3,t4,t5,-⟩,-,g2,g3,g4,g5,-⟩:=rdcells hr7
 have hwm:IntKind.i64.wrap (((nest+1:Nat):Int)-1)=(nest:Int):=by rw [show ((nest+1:Nat):Int)-1=(nest:Int) by omega];exact Rs.wrap_id _ (by omega) (by omega)
 have hpb:=(Blk.new W6 78 (pu u0 u1 u2 u3 u4 u5 u6 s1 L ln lc K kn kc)).alloc (.cells fz 80)
 have HPB:=hide (blk_fl (hpb.far (p:=⟨rb,6,none⟩) (by show W6.heap.size≠rb;omega) (.int .i64 (nest:Int))) (show W6.heap.size≠rb by omega) (.bool st.fl.i) (.bool st.fl.m) (.bool st.fl.s) (.bool st.fl.x))
 have hfb:=blk_at (W:=W6.alloc (.cells (pu u0 u1 u2 u3 u4 u5 u6 s1 L ln lc K kn kc) 78)) (g:=W6.heap.size+1) (t:=80) (cs:=fz) (by simp)
 have HFB:=hide (blk_fl (hfb.far (p:=⟨rb,6,none⟩) (by show W6.heap.size+1≠rb;omega) (.int .i64 (nest:Int))) (show W6.heap.size+1≠rb by omega) (.bool st.fl.i) (.bool st.fl.m) (.bool st.fl.s) (.bool st.fl.x))
 obtain ⟨⟨b0,b1⟩,-⟩:=cells2 HFB.1
 have hVs:W6.heap.size+2≤(((((((W6.alloc (.cells (pu u0 u1 u2 u3 u4 u5 u6 s1 L ln lc K kn kc) 78)).alloc (.cells fz 80)).setCell ⟨rb,6,none⟩ (.int .i64 (nest:Int))).setCell ⟨rb,2,none⟩ (.bool st.fl.i)).setCell ⟨rb,3,none⟩ (.bool st.fl.m)).setCell ⟨rb,4,none⟩ (.bool st.fl.s)).setCell ⟨rb,5,none⟩ (.bool st.fl.x)).heap.size:=by simp [World.setCell]
 have hp4:rb<(X3.setCell ⟨rb,6,none⟩ (.int .i64 ((nest:Int)+1))).heap.size:=by omega
 have HPT:=hide ((hp.below hbV).inner (nest:=nest) hp4 st.fl)
 clear hp hp4
 clear hbV hko hko6 hrV hr7 hpb hfb hL hr4 HL3 HR3 HKO
 go_wp2_with fail
 clear o0 o1 o2 o3 r6 s6 t2 t3 t4 t5 g2 g3 g4 g5 b0 b1
 generalize (((((((W6.alloc (.cells (pu u0 u1 u2 u3 u4 u5 u6 s1 L ln lc K kn kc) 78)).alloc (.cells fz 80)).setCell ⟨rb,6,none⟩ (.int .i64 (nest:Int))).setCell ⟨rb,2,none⟩ (.bool st.fl.i)).setCell ⟨rb,3,none⟩ (.bool st.fl.m)).setCell ⟨rb,4,none⟩ (.bool st.fl.s)).setCell ⟨rb,5,none⟩ (.bool st.fl.x))=V at *
 have hVc:(∀ {a:Prop},a→a):=fun h=>h
 obtain ⟨⟨c0,c1,-,-,-,-,-⟩,f1,-⟩:=rdcells HL7.1.rd
 have c1:V.cell? ⟨rb,1,none⟩=some (.int .i64 (st2.pos:Int)):=c1
 have hps:st2.pos≤bs.length:=HL7.1.rd.pos
 have e10:((st2.pos:Int)==(bs.length:Int))=true:=by rw [show (st2.pos:Int)=(bs.length:Int) by omega];exact beq_self_eq_true _
 clear hVc CI
 refine wp_region_noPanic ?_
 refine wp_region_held_drew (S:=(fun wx=>wx.cell? ⟨rb,0,none⟩=some (.slice A bs.length cap)∧wx.cell? ⟨rb,1,none⟩=some (.int .i64 (st2.pos:Int)))) (by kernel_rfl) (⟨(HL7.1.rd.below (Below.refl _ _).drew).blk.cell 0,(HL7.1.rd.below (Below.refl _ _).drew).blk.cell 1⟩) (fun hHeld=>?_)
 refine tkH 0 (some 59) ?vu17 rfl ?yu17 hHeld ?ru17
 case yu17=>(intro w hSw;(try dsimp only at hSw);go_simp;try with_reducible rfl)
 try simp only [aP]
 refine tkH 1 (some 60) ?vu18 rfl ?yu18 hHeld ?ru18
 case yu18=>(intro w hSw;(try dsimp only at hSw);go_simp;try with_reducible rfl)
 try simp only [aP]
 refine tkH 2 (some 61) ?vu19 rfl ?yu19 hHeld ?ru19
 case yu19=>(intro w hSw;(try dsimp only at hSw);go_simp;try with_reducible rfl)
 try simp only [aP]
 refine tkH 3 (some 62) ?vu20 rfl ?yu20 hHeld ?ru20
 case yu20=>(intro w hSw;(try dsimp only at hSw);go_simp;try with_reducible rfl)
 try simp only [aP]
 refine tkH 4 (some 63) ?vu21 rfl ?yu21 hHeld ?ru21
 case yu21=>(intro w hSw;(try dsimp only at hSw);go_simp;try with_reducible rfl)
 try simp only [aP]
 refine tkH 5 (some 64) ?vu22 rfl ?yu22 hHeld ?ru22
 case yu22=>(intro w hSw;(try dsimp only at hSw);go_simp;try with_reducible rfl)
 try simp only [aP]
 refine tkH 6 (some 65) ?vu23 rfl ?yu23 hHeld ?ru23
 case yu23=>(intro w hSw;(try dsimp only at hSw);go_simp;try with_reducible rfl)
 try simp only [aP]
 refine tkH 7 (some 66) ?vu24 rfl ?yu24 hHeld ?ru24
 case yu24=>(intro w hSw;(try dsimp only at hSw);go_simp;try with_reducible rfl)
 try simp only [aP]
 refine tkH 8 (some 67) ?vu25 rfl ?yu25 hHeld ?ru25
 case yu25=>(intro w hSw;(try dsimp only at hSw);go_simp;try with_reducible rfl)
 try simp only [aP]
 refine tkH 9 (some 68) ?vu26 rfl ?yu26 hHeld ?ru26
 case yu26=>(intro w hSw;(try dsimp only at hSw);go_simp;try with_reducible rfl)
 try simp only [aP]
 refine wpAnyH_done (by kernel_rfl) ?_ _
 refine NoPanic.normal ?_
 clear hHeld c0 c1 f1
 have HL7:=hide (HL7.1.below (Below.refl _ _).drew)
 have HKN:=hide HKN.1.drew
 have HKP:=hide HKP.1.drew
 have HKF:=hide HKF.1.drew
 have HPB:=hide HPB.1.drew
 have HPT:=hide (HPT.1.below (Below.refl _ _).drew)
 have hVs:W6.heap.size+2≤V.drew.heap.size:=hVs
 generalize V.drew=V at *
 obtain ⟨⟨n0,n1,n2,n3,n4,n5,n6,n7,n8,n9⟩,-⟩:=cells10 HKN.1
 have m1:=((far11 HKN.1 (show w.heap.size≠w.heap.size+2 by omega) (.int .i64 0) (.int .i64 0) (.int .i64 0) (.int .i64 0) (.int .i64 0) (.int .i64 0) (.int .i64 0) (.string ⟨#[]⟩) (.slice none 0 0) (.slice none 0 0) (.slice none 0 0)).cell 1).trans (show _=some (Value.int .i64 (st.pos:Int)) from rfl)
 obtain ⟨⟨y0,y1,y2,y3,y4,y5,y6,y7,y8,y9,y10⟩,z0,z1,z2,z3,z4,z5,z6,z7,z8,z9,z10⟩:=cells11 HKP.1
 obtain ⟨⟨u20,u21⟩,v20,v21⟩:=cells2 HKF.1
 obtain ⟨⟨p20,p21⟩,q20,q21⟩:=cells2 (far11 HKF.1 (show w.heap.size+3≠w.heap.size+2 by omega) (.int .i64 0) (.int .i64 0) (.int .i64 0) (.int .i64 0) (.int .i64 0) (.int .i64 0) (.int .i64 0) (.string ⟨#[]⟩) (.slice none 0 0) (.slice none 0 0) (.slice none 0 0))
 go_wp2_with fail
 go_region
 all_goals
  go_wp2_with fail
  (try simp only [Exit.inBlock,Exit.then])
  have hq:=blk13 HKP.1 HKF.1 (by omega) rfl rfl
  exact bodyPost_ret (rctc rfl (w.heap.size+2) (w.heap.size+3) (.bool false) rfl rfl rfl ⟨(hq _ _ _ _ _ _ _ _ _ _ _ _ _).1.drew,(hq _ _ _ _ _ _ _ _ _ _ _ _ _).2.drew⟩) rfl ⟨by decide,rfl,_,nv',((HL7.1.set13 HKP.1 HKF.1 hlt (by omega) (by omega) (by omega) _ _ _ _ _ _ _ _ _ _ _ _ _).below (Below.refl _ _).drew)⟩
theorem within_plain (h:Rd bs A cap w0 rb nest st nv w) (hnest:nest<100) (kk nn:Int) (s:List UInt8) (fr:Nat) (hfr:fr≤bs.length) (fl:Fl) (r:Res Pt) (CI:∀ W nv1,Rd bs A cap w0 rb (nest+1) ⟨fr,fl,st.names⟩ nv1 W→Calls Tryz.prog 32 #[Value.pointer (some ⟨rb,0,none⟩)] W (GiveP bs A cap w0 rb (nest+1) nv1 W r)) (x:Pt) (st2:St) (hr:r=.ok (x,st2)) (hlt2:st2.pos<bs.length) (hk0:kk=0) :
  Calls Tryz.prog 67 #[Value.pointer (some ⟨rb,0,none⟩),.agg #[.int .i64 kk,.int .i64 0,.int .i64 0,.int .i64 nn,.int .i64 0,.int .i64 0,.int .i64 0,.string ⟨s.toArray⟩,.slice none 0 0,.slice none 0 0],.int .i64 (fr:Int),.agg #[.bool fl.i,.bool fl.m,.bool fl.s,.bool fl.x]] w (GiveA bs A cap w0 rb nest nv w (.ok ((x,true),⟨st2.pos+1,st.fl,st2.names⟩))):=by
 have hbb:Below w.heap.size w (((((w.alloc (.cells (nu kk (st.pos:Int) 0 nn 0 0 0 s none 0 0) 49)).alloc (.cells (bf fl) 73)).alloc (.cells pz 78)).alloc (.cells fz 80)).alloc (.cells (bf st.fl) 73)):=((((Below.refl w.heap.size w).alloc (Nat.le_refl _) (.cells (nu kk (st.pos:Int) 0 nn 0 0 0 s none 0 0) 49)).alloc (by simp) (.cells (bf fl) 73)).alloc (by simp;omega) (.cells pz 78)).alloc (by simp;omega) (.cells fz 80) |>.alloc (by simp;omega) (.cells (bf st.fl) 73)
 have hba:Below w.heap.size w ((((w.alloc (.cells (nu kk 0 0 nn 0 0 0 s none 0 0) 49)).alloc (.cells (bf fl) 73)).alloc (.cells pz 78)).alloc (.cells fz 80)):=(((Below.refl w.heap.size w).alloc (Nat.le_refl _) (.cells (nu kk 0 0 nn 0 0 0 s none 0 0) 49)).alloc (by simp) (.cells (bf fl) 73)).alloc (by simp;omega) (.cells pz 78) |>.alloc (by simp;omega) (.cells fz 80)
 have hbc:Below w.heap.size w ((((w.alloc (.cells (nu kk (st.pos:Int) 0 nn 0 0 0 s none 0 0) 49)).alloc (.cells (bf fl) 73)).alloc (.cells pz 78)).alloc (.cells fz 80)):=(((Below.refl w.heap.size w).alloc (Nat.le_refl _) (.cells (nu kk (st.pos:Int) 0 nn 0 0 0 s none 0 0) 49)).alloc (by simp) (.cells (bf fl) 73)).alloc (by simp;omega) (.cells pz 78) |>.alloc (by simp;omega) (.cells fz 80)
 have HR:=hide (h.below hbb)
 have HKN:=hide (((((Blk.new w 49 (nu kk (st.pos:Int) 0 nn 0 0 0 s none 0 0)).alloc (.cells (bf fl) 73)).alloc (.cells pz 78)).alloc (.cells fz 80)).alloc (.cells (bf st.fl) 73))
 have HKI:=hide ((((blk_at (W:=w.alloc (.cells (nu kk (st.pos:Int) 0 nn 0 0 0 s none 0 0) 49)) (g:=w.heap.size+1) (t:=73) (cs:=(bf fl)) (by simp)).alloc (.cells pz 78)).alloc (.cells fz 80)).alloc (.cells (bf st.fl) 73))
 have HKP:=hide (((blk_at (W:=(w.alloc (.cells (nu kk (st.pos:Int) 0 nn 0 0 0 s none 0 0) 49)).alloc (.cells (bf fl) 73)) (g:=w.heap.size+2) (t:=78) (cs:=pz) (by simp)).alloc (.cells fz 80)).alloc (.cells (bf st.fl) 73))
 have HKF:=hide ((blk_at (W:=((w.alloc (.cells (nu kk (st.pos:Int) 0 nn 0 0 0 s none 0 0) 49)).alloc (.cells (bf fl) 73)).alloc (.cells pz 78)) (g:=w.heap.size+3) (t:=80) (cs:=fz) (by simp)).alloc (.cells (bf st.fl) 73))
 have HKO:=hide (blk_at (W:=(((w.alloc (.cells (nu kk (st.pos:Int) 0 nn 0 0 0 s none 0 0) 49)).alloc (.cells (bf fl) 73)).alloc (.cells pz 78)).alloc (.cells fz 80)) (g:=w.heap.size+4) (t:=73) (cs:=(bf st.fl)) (by simp))
 have q1:=(h.below hba).c1
 have q2:=(h.below hbc).c2
 have q3:=(h.below hbc).c3
 have q4:=(h.below hbc).c4
 have q5:=(h.below hbc).c5
 have HB:=hide hbb
 have HW:=hide h
 have CI:=hide CI
 have hr:=hide hr
 have ek:(kk==0)=true:=by rw [hk0];rfl
 clear hk0
 have HFR:=hide hfr
 have hlt:=h.blk.lt
 have habv:=h.above
 have htop:=h.top
 have hns:st.names=st.names:=rfl
 have hwn:IntKind.i64.wrap ((nest:Int)+1)=(nest:Int)+1:=Rs.wrap_id _ (by omega) (by omega)
 clear h hbb hba hbc hfr hns
 go_enter Tryz.func67,Tryz.ntmps67
 go_wp2_with fail
 generalize (((((w.alloc (.cells (nu kk (st.pos:Int) 0 nn 0 0 0 s none 0 0) 49)).alloc (.cells (bf fl) 73)).alloc (.cells pz 78)).alloc (.cells fz 80)).alloc (.cells (bf st.fl) 73))=X at *
 have hXs:w.heap.size+5≤X.heap.size:=HKO.1.lt
 obtain ⟨⟨i0,i1,i2,i3⟩,-⟩:=cells4 HKI.1
 obtain ⟨⟨c0,c1,c2,c3,c4,c5,c6⟩,f1,f2,f3,f4,f5,f6⟩:=rdcells HR.1
 refine wp_region_noPanic ?_
 refine wp_region_held_drew (S:=(fun wx=>Hd (Blk wx (w.heap.size+1) 73 (bf fl))∧wx.cell? ⟨w.heap.size+1,0,none⟩=some (.bool fl.i)∧wx.cell? ⟨w.heap.size+1,1,none⟩=some (.bool fl.m)∧wx.cell? ⟨w.heap.size+1,2,none⟩=some (.bool fl.s)∧wx.cell? ⟨w.heap.size+1,3,none⟩=some (.bool fl.x))) (by kernel_rfl) (⟨hide HKI.1.drew,HKI.1.drew.cell 0,HKI.1.drew.cell 1,HKI.1.drew.cell 2,HKI.1.drew.cell 3⟩) (fun hHeld=>?_)
 refine tkH 0 (some 23) ?vu27 rfl ?yu27 hHeld ?ru27
 case yu27=>(intro w hSw;(try dsimp only at hSw);go_simp;try with_reducible rfl)
 try simp only [aP]
 refine tkH 1 (some 24) ?vu28 rfl ?yu28 hHeld ?ru28
 case yu28=>(intro w hSw;(try dsimp only at hSw);go_simp;try with_reducible rfl)
 try simp only [aP]
 refine tkH 2 (some 25) ?vu29 rfl ?yu29 hHeld ?ru29
 case yu29=>(intro w hSw;(try dsimp only at hSw);go_simp;try with_reducible rfl)
 try simp only [aP]
 refine tkH 3 (some 26) ?vu30 rfl ?yu30 hHeld ?ru30
 case yu30=>(intro w hSw;(try dsimp only at hSw);go_simp;try with_reducible rfl)
 try simp only [aP]
 refine tkH 4 (some 27) ?vu31 rfl ?yu31 hHeld ?ru31
 case yu31=>(intro w hSw;(try dsimp only at hSw);go_simp;try with_reducible rfl)
 try simp only [aP]
 refine tkH 5 (some 28) ?vu32 rfl ?yu32 hHeld ?ru32
 case yu32=>(intro w hSw;(try dsimp only at hSw);go_simp;try with_reducible rfl)
 try simp only [aP]
 refine wpAnyH_ready (rs:=[6]) (by kernel_rfl) (by simp) ?_
 refine AllReadyH.cons (o:=⟨none,_,_,_,_,_⟩) rfl (fun K hK=>?_) AllReadyH.nil
 go_simp
 refine hK.out _ _ (⟨hide (HKI.1.drew.far (p:=⟨rb,1,none⟩) (by show w.heap.size+1≠rb;omega) (.int .i64 (fr:Int))),(HKI.1.drew.far (p:=⟨rb,1,none⟩) (by show w.heap.size+1≠rb;omega) (.int .i64 (fr:Int))).cell 0,(HKI.1.drew.far (p:=⟨rb,1,none⟩) (by show w.heap.size+1≠rb;omega) (.int .i64 (fr:Int))).cell 1,(HKI.1.drew.far (p:=⟨rb,1,none⟩) (by show w.heap.size+1≠rb;omega) (.int .i64 (fr:Int))).cell 2,(HKI.1.drew.far (p:=⟨rb,1,none⟩) (by show w.heap.size+1≠rb;omega) (.int .i64 (fr:Int))).cell 3⟩) (fun hHeld2=>?_)
 clear hK K
 try simp only [aP]
 have hr1:=HR.1.drew.store 1 (.int .i64 (fr:Int)) (st':={ st with pos:=fr }) (nest':=nest) rfl HFR.1 HR.1.deep rfl
 obtain ⟨⟨-,-,c12,c13,c14,c15,-⟩,-,f12,f13,f14,f15,-⟩:=rdcells hr1
 have HR3:=hide (fl4 (HR.1.store 1 (.int .i64 (fr:Int)) (st':={ st with pos:=fr }) (nest':=nest) rfl HFR.1 HR.1.deep rfl) fl).drew
 clear hr1
 refine tkH 7 (some 29) ?vu33 rfl ?yu33 hHeld2 ?ru33
 case yu33=>(intro w hSw;(try dsimp only at hSw);go_simp;try with_reducible rfl)
 try simp only [aP]
 refine tkH 8 (some 30) ?vu34 rfl ?yu34 hHeld2 ?ru34
 case yu34=>(intro w hSw;(try dsimp only at hSw);go_simp;try with_reducible rfl)
 try simp only [aP]
 refine wpAnyH_ready (rs:=[9]) (by kernel_rfl) (by simp) ?_
 refine AllReadyH.cons (o:=⟨none,_,_,_,_,_⟩) rfl (fun K hK=>?_) AllReadyH.nil
 go_simp
 refine hK.out _ _ (⟨hide ((blk_fl (HKI.1.far (p:=⟨rb,1,none⟩) (by show w.heap.size+1≠rb;omega) (.int .i64 (fr:Int))) (show w.heap.size+1≠rb by omega) (.bool fl.i) (.bool fl.m) (.bool fl.s) (.bool fl.x)).drew),((blk_fl (HKI.1.far (p:=⟨rb,1,none⟩) (by show w.heap.size+1≠rb;omega) (.int .i64 (fr:Int))) (show w.heap.size+1≠rb by omega) (.bool fl.i) (.bool fl.m) (.bool fl.s) (.bool fl.x)).drew).cell 0,((blk_fl (HKI.1.far (p:=⟨rb,1,none⟩) (by show w.heap.size+1≠rb;omega) (.int .i64 (fr:Int))) (show w.heap.size+1≠rb by omega) (.bool fl.i) (.bool fl.m) (.bool fl.s) (.bool fl.x)).drew).cell 1,((blk_fl (HKI.1.far (p:=⟨rb,1,none⟩) (by show w.heap.size+1≠rb;omega) (.int .i64 (fr:Int))) (show w.heap.size+1≠rb by omega) (.bool fl.i) (.bool fl.m) (.bool fl.s) (.bool fl.x)).drew).cell 2,((blk_fl (HKI.1.far (p:=⟨rb,1,none⟩) (by show w.heap.size+1≠rb;omega) (.int .i64 (fr:Int))) (show w.heap.size+1≠rb by omega) (.bool fl.i) (.bool fl.m) (.bool fl.s) (.bool fl.x)).drew).cell 3⟩) (fun hHeld3=>?_)
 clear hK K
 try simp only [aP]
 refine wpAnyH_done (by kernel_rfl) ?_ _
 refine NoPanic.normal ?_
 clear hHeld hHeld2 hHeld3
 have HL3:=hide (Left.then (Left.of_below HW.1 HB.1) (Left.of_turn HR3.1 ((turn_fl (turn_set (Turn.of_below (rb:=rb) (row:=none) (Below.refl _ X)) (.int .i64 (fr:Int))) (.bool fl.i) (.bool fl.m) (.bool fl.s) (.bool fl.x)).trans (Turn.of_below (Below.refl _ _).drew) (.inl rfl))))
 have HKN:=hide ((blk_fl (HKN.1.far (p:=⟨rb,1,none⟩) (by show w.heap.size≠rb;omega) (.int .i64 (fr:Int))) (show w.heap.size≠rb by omega) (.bool fl.i) (.bool fl.m) (.bool fl.s) (.bool fl.x)).drew)
 have HKP:=hide ((blk_fl (HKP.1.far (p:=⟨rb,1,none⟩) (by show w.heap.size+2≠rb;omega) (.int .i64 (fr:Int))) (show w.heap.size+2≠rb by omega) (.bool fl.i) (.bool fl.m) (.bool fl.s) (.bool fl.x)).drew)
 have HKF:=hide ((blk_fl (HKF.1.far (p:=⟨rb,1,none⟩) (by show w.heap.size+3≠rb;omega) (.int .i64 (fr:Int))) (show w.heap.size+3≠rb by omega) (.bool fl.i) (.bool fl.m) (.bool fl.s) (.bool fl.x)).drew)
 have HKO:=hide ((blk_fl (HKO.1.far (p:=⟨rb,1,none⟩) (by show w.heap.size+4≠rb;omega) (.int .i64 (fr:Int))) (show w.heap.size+4≠rb by omega) (.bool fl.i) (.bool fl.m) (.bool fl.s) (.bool fl.x)).drew)
 have hs3:X.heap.size≤((((((X.setCell ⟨rb,1,none⟩ (.int .i64 (fr:Int))).setCell ⟨rb,2,none⟩ (.bool fl.i)).setCell ⟨rb,3,none⟩ (.bool fl.m)).setCell ⟨rb,4,none⟩ (.bool fl.s)).setCell ⟨rb,5,none⟩ (.bool fl.x)).drew).heap.size:=by simp [World.setCell,World.drew]
 clear c0 c1 c2 c3 c4 c5 c6 f1 f2 f3 f4 f5 f6 c12 c13 c14 c15 f12 f13 f14 f15 i0 i1 i2 i3 HR HKI
 generalize (((((X.setCell ⟨rb,1,none⟩ (.int .i64 (fr:Int))).setCell ⟨rb,2,none⟩ (.bool fl.i)).setCell ⟨rb,3,none⟩ (.bool fl.m)).setCell ⟨rb,4,none⟩ (.bool fl.s)).setCell ⟨rb,5,none⟩ (.bool fl.x)).drew=X3 at *
 obtain ⟨⟨-,-,-,-,-,-,c6⟩,-,-,-,-,-,f6⟩:=rdcells HR3.1
 go_wp2_with fail
 have hr4:=HR3.1.store 6 (.int .i64 ((nest:Int)+1)) (st':=⟨fr,fl,st.names⟩) (nest':=nest+1) rfl HFR.1 (by omega) rfl
 have hs4:X3.heap.size≤(X3.setCell ⟨rb,6,none⟩ (.int .i64 ((nest:Int)+1))).heap.size:=by simp [World.setCell]
 refine (CI.1 _ _ hr4).mono ?_
 rintro e W6 hG
 rw [hr.1] at hG
 obtain ⟨v,nv',he,hp,hL⟩:=hG
 obtain ⟨u0,u1,u2,u3,u4,u5,u6,s1,L,ln,lc,K,kn,kc,rfl,-⟩:=hp.form
 subst he
 have hbV:Below W6.heap.size W6 ((W6.alloc (.cells (pu u0 u1 u2 u3 u4 u5 u6 s1 L ln lc K kn kc) 78)).alloc (.cells fz 80)):=((Below.refl W6.heap.size W6).alloc (Nat.le_refl _) (.cells (pu u0 u1 u2 u3 u4 u5 u6 s1 L ln lc K kn kc) 78)).alloc (by simp) (.cells fz 80)
 have HL7:=hide (Left.inner HL3.1 hL hbV st.fl (by omega))
 have HKN:=hide (blk_inner hr4 hL hbV st.fl HKN.1 (by decide) (show w.heap.size≠rb by omega))
 have HKP:=hide (blk_inner hr4 hL hbV st.fl HKP.1 (by decide) (show w.heap.size+2≠rb by omega))
 have HKF:=hide (blk_inner hr4 hL hbV st.fl HKF.1 (by decide) (show w.heap.size+3≠rb by omega))
 have hs6:=hL.turn.size
 have hko:=(Left.blk hr4 hL (HKO.1.far (p:=⟨rb,6,none⟩) (by show w.heap.size+4≠rb;omega) (.int .i64 ((nest:Int)+1))) (by decide) (show w.heap.size+4≠rb by omega))
 have hko6:=(hko.below hbV hko.lt).far (p:=⟨rb,6,none⟩) (by show w.heap.size+4≠rb;omega) (.int .i64 (nest:Int))
 obtain ⟨⟨o0,o1,o2,o3⟩,-⟩:=cells4 hko6
 have hrV:=hL.rd.below hbV
 obtain ⟨⟨-,-,-,-,-,-,r6⟩,-,-,-,-,-,s6⟩:=rdcells hrV
 have hr7:=hrV.store 6 (.int .i64 (nest:Int)) (st':=st2) (nest':=nest) rfl hL.rd.pos (by omega) rfl
 obtain ⟨⟨-,-,t2,t3,t4,t5,-⟩,-,g2,g3,g4,g5,-⟩:=rdcells hr7
 have hwm:IntKind.i64.wrap (((nest+1:Nat):Int)-1)=(nest:Int):=by rw [show ((nest+1:Nat):Int)-1=(nest:Int) by omega];exact Rs.wrap_id _ (by omega) (by omega)
 have hpb:=(Blk.new W6 78 (pu u0 u1 u2 u3 u4 u5 u6 s1 L ln lc K kn kc)).alloc (.cells fz 80)
 have HPB:=hide (blk_fl (hpb.far (p:=⟨rb,6,none⟩) (by show W6.heap.size≠rb;omega) (.int .i64 (nest:Int))) (show W6.heap.size≠rb by omega) (.bool st.fl.i) (.bool st.fl.m) (.bool st.fl.s) (.bool st.fl.x))
 have hfb:=blk_at (W:=W6.alloc (.cells (pu u0 u1 u2 u3 u4 u5 u6 s1 L ln lc K kn kc) 78)) (g:=W6.heap.size+1) (t:=80) (cs:=fz) (by simp)
 have HFB:=hide (blk_fl (hfb.far (p:=⟨rb,6,none⟩) (by show W6.heap.size+1≠rb;omega) (.int .i64 (nest:Int))) (show W6.heap.size+1≠rb by omega) (.bool st.fl.i) (.bool st.fl.m) (.bool st.fl.s) (.bool st.fl.x))
 obtain ⟨⟨b0,b1⟩,-⟩:=cells2 HFB.1
 have hVs:W6.heap.size+2≤(((((((W6.alloc (.cells (pu u0 u1 u2 u3 u4 u5 u6 s1 L ln lc K kn kc) 78)).alloc (.cells fz 80)).setCell ⟨rb,6,none⟩ (.int .i64 (nest:Int))).setCell ⟨rb,2,none⟩ (.bool st.fl.i)).setCell ⟨rb,3,none⟩ (.bool st.fl.m)).setCell ⟨rb,4,none⟩ (.bool st.fl.s)).setCell ⟨rb,5,none⟩ (.bool st.fl.x)).heap.size:=by simp [World.setCell]
 have hp4:rb<(X3.setCell ⟨rb,6,none⟩ (.int .i64 ((nest:Int)+1))).heap.size:=by omega
 have HPT:=hide ((hp.below hbV).inner (nest:=nest) hp4 st.fl)
 clear hp hp4
 clear hbV hko hko6 hrV hr7 hpb hfb hL hr4 HL3 HR3 HKO
 go_wp2_with fail
 clear o0 o1 o2 o3 r6 s6 t2 t3 t4 t5 g2 g3 g4 g5 b0 b1
 generalize (((((((W6.alloc (.cells (pu u0 u1 u2 u3 u4 u5 u6 s1 L ln lc K kn kc) 78)).alloc (.cells fz 80)).setCell ⟨rb,6,none⟩ (.int .i64 (nest:Int))).setCell ⟨rb,2,none⟩ (.bool st.fl.i)).setCell ⟨rb,3,none⟩ (.bool st.fl.m)).setCell ⟨rb,4,none⟩ (.bool st.fl.s)).setCell ⟨rb,5,none⟩ (.bool st.fl.x))=V at *
 have hVc:(∀ {a:Prop},a→a):=fun h=>h
 obtain ⟨⟨c0,c1,-,-,-,-,-⟩,f1,-⟩:=rdcells HL7.1.rd
 have c1:V.cell? ⟨rb,1,none⟩=some (.int .i64 (st2.pos:Int)):=c1
 have hps:st2.pos≤bs.length:=HL7.1.rd.pos
 have e10:((st2.pos:Int)==(bs.length:Int))=false:=by rw [beq_eq_false_iff_ne];omega
 clear hVc CI
 refine wp_region_noPanic ?_
 refine wp_region_held_drew (S:=(fun wx=>wx.cell? ⟨rb,0,none⟩=some (.slice A bs.length cap)∧wx.cell? ⟨rb,1,none⟩=some (.int .i64 (st2.pos:Int)))) (by kernel_rfl) (⟨(HL7.1.rd.below (Below.refl _ _).drew).blk.cell 0,(HL7.1.rd.below (Below.refl _ _).drew).blk.cell 1⟩) (fun hHeld=>?_)
 refine tkH 0 (some 59) ?vu35 rfl ?yu35 hHeld ?ru35
 case yu35=>(intro w hSw;(try dsimp only at hSw);go_simp;try with_reducible rfl)
 try simp only [aP]
 refine tkH 1 (some 60) ?vu36 rfl ?yu36 hHeld ?ru36
 case yu36=>(intro w hSw;(try dsimp only at hSw);go_simp;try with_reducible rfl)
 try simp only [aP]
 refine tkH 2 (some 61) ?vu37 rfl ?yu37 hHeld ?ru37
 case yu37=>(intro w hSw;(try dsimp only at hSw);go_simp;try with_reducible rfl)
 try simp only [aP]
 refine tkH 3 (some 62) ?vu38 rfl ?yu38 hHeld ?ru38
 case yu38=>(intro w hSw;(try dsimp only at hSw);go_simp;try with_reducible rfl)
 try simp only [aP]
 refine tkH 4 (some 63) ?vu39 rfl ?yu39 hHeld ?ru39
 case yu39=>(intro w hSw;(try dsimp only at hSw);go_simp;try with_reducible rfl)
 try simp only [aP]
 refine tkH 5 (some 64) ?vu40 rfl ?yu40 hHeld ?ru40
 case yu40=>(intro w hSw;(try dsimp only at hSw);go_simp;try with_reducible rfl)
 try simp only [aP]
 refine tkH 6 (some 65) ?vu41 rfl ?yu41 hHeld ?ru41
 case yu41=>(intro w hSw;(try dsimp only at hSw);go_simp;try with_reducible rfl)
 try simp only [aP]
 refine tkH 7 (some 66) ?vu42 rfl ?yu42 hHeld ?ru42
 case yu42=>(intro w hSw;(try dsimp only at hSw);go_simp;try with_reducible rfl)
 try simp only [aP]
 refine tkH 8 (some 67) ?vu43 rfl ?yu43 hHeld ?ru43
 case yu43=>(intro w hSw;(try dsimp only at hSw);go_simp;try with_reducible rfl)
 try simp only [aP]
 refine tkH 9 (some 68) ?vu44 rfl ?yu44 hHeld ?ru44
 case yu44=>(intro w hSw;(try dsimp only at hSw);go_simp;try with_reducible rfl)
 try simp only [aP]
 refine wpAnyH_done (by kernel_rfl) ?_ _
 refine NoPanic.normal ?_
 clear hHeld c0 c1 f1
 have HL7:=hide (HL7.1.below (Below.refl _ _).drew)
 have HKN:=hide HKN.1.drew
 have HKP:=hide HKP.1.drew
 have HKF:=hide HKF.1.drew
 have HPB:=hide HPB.1.drew
 have HPT:=hide (HPT.1.below (Below.refl _ _).drew)
 have hVs:W6.heap.size+2≤V.drew.heap.size:=hVs
 generalize V.drew=V at *
 have hr8:=HL7.1.rd.store 1 (.int .i64 ((st2.pos:Int)+1)) (st':=⟨st2.pos+1,st.fl,st2.names⟩) (nest':=nest) rfl (by show st2.pos+1≤bs.length;omega) (by omega) rfl
 have HL8:=hide (show Left bs A cap w0 rb nest nv w ⟨st2.pos+1,st.fl,st2.names⟩ nv' (V.setCell ⟨rb,1,none⟩ (.int .i64 ((st2.pos:Int)+1))) from ⟨hr8,turn_set HL7.1.turn _,HL7.1.nw⟩)
 obtain ⟨⟨-,c1,-,-,-,-,-⟩,f1,-⟩:=rdcells HL7.1.rd
 have c1':V.cell? ⟨rb,1,none⟩=some (.int .i64 (st2.pos:Int)):=c1
 clear c1
 have hwp:IntKind.i64.wrap ((st2.pos:Int)+1)=(st2.pos:Int)+1:=Rs.wrap_id _ (by omega) (by omega)
 have HKN:=hide (HKN.1.far (p:=⟨rb,1,none⟩) (by show w.heap.size≠rb;omega) (.int .i64 ((st2.pos:Int)+1)))
 have HKP:=hide (HKP.1.far (p:=⟨rb,1,none⟩) (by show w.heap.size+2≠rb;omega) (.int .i64 ((st2.pos:Int)+1)))
 have HKF:=hide (HKF.1.far (p:=⟨rb,1,none⟩) (by show w.heap.size+3≠rb;omega) (.int .i64 ((st2.pos:Int)+1)))
 have HPB:=hide (HPB.1.far (p:=⟨rb,1,none⟩) (by show W6.heap.size≠rb;omega) (.int .i64 ((st2.pos:Int)+1)))
 have HPT:=hide (HPT.1.turn (turn_set (i:=1) (Turn.of_below (rb:=rb) (row:=nv'.ownBlock) (Below.refl _ V)) (.int .i64 ((st2.pos:Int)+1))) (Nw.refl _ _) (by omega))
 have hVs:W6.heap.size+2≤(V.setCell ⟨rb,1,none⟩ (.int .i64 ((st2.pos:Int)+1))).heap.size:=by simpa [World.setCell] using hVs
 obtain ⟨⟨n0,n1,n2,n3,n4,n5,n6,n7,n8,n9⟩,l0,l1,l2,-⟩:=cells10 HKN.1
 obtain ⟨⟨p0,p1,p2,p3,p4,p5,p6,p7,p8,p9,p10⟩,-⟩:=cells11 HPB.1
 obtain ⟨⟨y0,y1,y2,y3,y4,y5,y6,y7,y8,y9,y10⟩,z0,z1,z2,z3,z4,z5,z6,z7,z8,z9,z10⟩:=cells11 HKP.1
 obtain ⟨⟨u20,u21⟩,v20,v21⟩:=cells2 HKF.1
 clear hr8
 go_wp2_with fail
 (try simp only [Exit.inBlock,Exit.then])
 have hq:=blk13 HKP.1 HKF.1 (by omega) rfl rfl
 exact bodyPost_ret (rctc rfl (w.heap.size+2) (w.heap.size+3) (.bool true) rfl rfl rfl (hq _ _ _ _ _ _ _ _ _ _ _ _ _)) rfl ⟨_,nv',rfl,(HPT.1.set13 (by omega) (by omega) _ _ _ _ _ _ _ _ _ _ _ _ _).lower (by omega),HL8.1.set13 HKP.1 HKF.1 hlt (by omega) (by omega) (by omega) _ _ _ _ _ _ _ _ _ _ _ _ _⟩
theorem within_node (h:Rd bs A cap w0 rb nest st nv w) (hnest:nest<100) (kk nn:Int) (s:List UInt8) (fr:Nat) (hfr:fr≤bs.length) (fl:Fl) (r:Res Pt) (CI:∀ W nv1,Rd bs A cap w0 rb (nest+1) ⟨fr,fl,st.names⟩ nv1 W→Calls Tryz.prog 32 #[Value.pointer (some ⟨rb,0,none⟩)] W (GiveP bs A cap w0 rb (nest+1) nv1 W r)) (x:Pt) (st2:St) (hr:r=.ok (x,st2)) (hlt2:st2.pos<bs.length) (hk0:kk≠0) :
  Calls Tryz.prog 67 #[Value.pointer (some ⟨rb,0,none⟩),.agg #[.int .i64 kk,.int .i64 0,.int .i64 0,.int .i64 nn,.int .i64 0,.int .i64 0,.int .i64 0,.string ⟨s.toArray⟩,.slice none 0 0,.slice none 0 0],.int .i64 (fr:Int),.agg #[.bool fl.i,.bool fl.m,.bool fl.s,.bool fl.x]] w (GiveA bs A cap w0 rb nest nv w (.ok ((⟨⟨kk,(st.pos:Int),(st2.pos:Int)+1,nn,0,0,0,s,[],[]⟩,.one x⟩,true),⟨st2.pos+1,st.fl,st2.names⟩))):=by
 have hbb:Below w.heap.size w (((((w.alloc (.cells (nu kk (st.pos:Int) 0 nn 0 0 0 s none 0 0) 49)).alloc (.cells (bf fl) 73)).alloc (.cells pz 78)).alloc (.cells fz 80)).alloc (.cells (bf st.fl) 73)):=((((Below.refl w.heap.size w).alloc (Nat.le_refl _) (.cells (nu kk (st.pos:Int) 0 nn 0 0 0 s none 0 0) 49)).alloc (by simp) (.cells (bf fl) 73)).alloc (by simp;omega) (.cells pz 78)).alloc (by simp;omega) (.cells fz 80) |>.alloc (by simp;omega) (.cells (bf st.fl) 73)
 have hba:Below w.heap.size w ((((w.alloc (.cells (nu kk 0 0 nn 0 0 0 s none 0 0) 49)).alloc (.cells (bf fl) 73)).alloc (.cells pz 78)).alloc (.cells fz 80)):=(((Below.refl w.heap.size w).alloc (Nat.le_refl _) (.cells (nu kk 0 0 nn 0 0 0 s none 0 0) 49)).alloc (by simp) (.cells (bf fl) 73)).alloc (by simp;omega) (.cells pz 78) |>.alloc (by simp;omega) (.cells fz 80)
 have hbc:Below w.heap.size w ((((w.alloc (.cells (nu kk (st.pos:Int) 0 nn 0 0 0 s none 0 0) 49)).alloc (.cells (bf fl) 73)).alloc (.cells pz 78)).alloc (.cells fz 80)):=(((Below.refl w.heap.size w).alloc (Nat.le_refl _) (.cells (nu kk (st.pos:Int) 0 nn 0 0 0 s none 0 0) 49)).alloc (by simp) (.cells (bf fl) 73)).alloc (by simp;omega) (.cells pz 78) |>.alloc (by simp;omega) (.cells fz 80)
 have HR:=hide (h.below hbb)
 have HKN:=hide (((((Blk.new w 49 (nu kk (st.pos:Int) 0 nn 0 0 0 s none 0 0)).alloc (.cells (bf fl) 73)).alloc (.cells pz 78)).alloc (.cells fz 80)).alloc (.cells (bf st.fl) 73))
 have HKI:=hide ((((blk_at (W:=w.alloc (.cells (nu kk (st.pos:Int) 0 nn 0 0 0 s none 0 0) 49)) (g:=w.heap.size+1) (t:=73) (cs:=(bf fl)) (by simp)).alloc (.cells pz 78)).alloc (.cells fz 80)).alloc (.cells (bf st.fl) 73))
 have HKP:=hide (((blk_at (W:=(w.alloc (.cells (nu kk (st.pos:Int) 0 nn 0 0 0 s none 0 0) 49)).alloc (.cells (bf fl) 73)) (g:=w.heap.size+2) (t:=78) (cs:=pz) (by simp)).alloc (.cells fz 80)).alloc (.cells (bf st.fl) 73))
 have HKF:=hide ((blk_at (W:=((w.alloc (.cells (nu kk (st.pos:Int) 0 nn 0 0 0 s none 0 0) 49)).alloc (.cells (bf fl) 73)).alloc (.cells pz 78)) (g:=w.heap.size+3) (t:=80) (cs:=fz) (by simp)).alloc (.cells (bf st.fl) 73))
 have HKO:=hide (blk_at (W:=(((w.alloc (.cells (nu kk (st.pos:Int) 0 nn 0 0 0 s none 0 0) 49)).alloc (.cells (bf fl) 73)).alloc (.cells pz 78)).alloc (.cells fz 80)) (g:=w.heap.size+4) (t:=73) (cs:=(bf st.fl)) (by simp))
 have q1:=(h.below hba).c1
 have q2:=(h.below hbc).c2
 have q3:=(h.below hbc).c3
 have q4:=(h.below hbc).c4
 have q5:=(h.below hbc).c5
 have HB:=hide hbb
 have HW:=hide h
 have CI:=hide CI
 have hr:=hide hr
 have ek:(kk==0)=false:=by rw [beq_eq_false_iff_ne];exact hk0
 clear hk0
 have HFR:=hide hfr
 have hlt:=h.blk.lt
 have habv:=h.above
 have htop:=h.top
 have hns:st.names=st.names:=rfl
 have hwn:IntKind.i64.wrap ((nest:Int)+1)=(nest:Int)+1:=Rs.wrap_id _ (by omega) (by omega)
 clear h hbb hba hbc hfr hns
 go_enter Tryz.func67,Tryz.ntmps67
 go_wp2_with fail
 generalize (((((w.alloc (.cells (nu kk (st.pos:Int) 0 nn 0 0 0 s none 0 0) 49)).alloc (.cells (bf fl) 73)).alloc (.cells pz 78)).alloc (.cells fz 80)).alloc (.cells (bf st.fl) 73))=X at *
 have hXs:w.heap.size+5≤X.heap.size:=HKO.1.lt
 obtain ⟨⟨i0,i1,i2,i3⟩,-⟩:=cells4 HKI.1
 obtain ⟨⟨c0,c1,c2,c3,c4,c5,c6⟩,f1,f2,f3,f4,f5,f6⟩:=rdcells HR.1
 refine wp_region_noPanic ?_
 refine wp_region_held_drew (S:=(fun wx=>Hd (Blk wx (w.heap.size+1) 73 (bf fl))∧wx.cell? ⟨w.heap.size+1,0,none⟩=some (.bool fl.i)∧wx.cell? ⟨w.heap.size+1,1,none⟩=some (.bool fl.m)∧wx.cell? ⟨w.heap.size+1,2,none⟩=some (.bool fl.s)∧wx.cell? ⟨w.heap.size+1,3,none⟩=some (.bool fl.x))) (by kernel_rfl) (⟨hide HKI.1.drew,HKI.1.drew.cell 0,HKI.1.drew.cell 1,HKI.1.drew.cell 2,HKI.1.drew.cell 3⟩) (fun hHeld=>?_)
 refine tkH 0 (some 23) ?vu45 rfl ?yu45 hHeld ?ru45
 case yu45=>(intro w hSw;(try dsimp only at hSw);go_simp;try with_reducible rfl)
 try simp only [aP]
 refine tkH 1 (some 24) ?vu46 rfl ?yu46 hHeld ?ru46
 case yu46=>(intro w hSw;(try dsimp only at hSw);go_simp;try with_reducible rfl)
 try simp only [aP]
 refine tkH 2 (some 25) ?vu47 rfl ?yu47 hHeld ?ru47
 case yu47=>(intro w hSw;(try dsimp only at hSw);go_simp;try with_reducible rfl)
 try simp only [aP]
 refine tkH 3 (some 26) ?vu48 rfl ?yu48 hHeld ?ru48
 case yu48=>(intro w hSw;(try dsimp only at hSw);go_simp;try with_reducible rfl)
 try simp only [aP]
 refine tkH 4 (some 27) ?vu49 rfl ?yu49 hHeld ?ru49
 case yu49=>(intro w hSw;(try dsimp only at hSw);go_simp;try with_reducible rfl)
 try simp only [aP]
 refine tkH 5 (some 28) ?vu50 rfl ?yu50 hHeld ?ru50
 case yu50=>(intro w hSw;(try dsimp only at hSw);go_simp;try with_reducible rfl)
 try simp only [aP]
 refine wpAnyH_ready (rs:=[6]) (by kernel_rfl) (by simp) ?_
 refine AllReadyH.cons (o:=⟨none,_,_,_,_,_⟩) rfl (fun K hK=>?_) AllReadyH.nil
 go_simp
 refine hK.out _ _ (⟨hide (HKI.1.drew.far (p:=⟨rb,1,none⟩) (by show w.heap.size+1≠rb;omega) (.int .i64 (fr:Int))),(HKI.1.drew.far (p:=⟨rb,1,none⟩) (by show w.heap.size+1≠rb;omega) (.int .i64 (fr:Int))).cell 0,(HKI.1.drew.far (p:=⟨rb,1,none⟩) (by show w.heap.size+1≠rb;omega) (.int .i64 (fr:Int))).cell 1,(HKI.1.drew.far (p:=⟨rb,1,none⟩) (by show w.heap.size+1≠rb;omega) (.int .i64 (fr:Int))).cell 2,(HKI.1.drew.far (p:=⟨rb,1,none⟩) (by show w.heap.size+1≠rb;omega) (.int .i64 (fr:Int))).cell 3⟩) (fun hHeld2=>?_)
 clear hK K
 try simp only [aP]
 have hr1:=HR.1.drew.store 1 (.int .i64 (fr:Int)) (st':={ st with pos:=fr }) (nest':=nest) rfl HFR.1 HR.1.deep rfl
 obtain ⟨⟨-,-,c12,c13,c14,c15,-⟩,-,f12,f13,f14,f15,-⟩:=rdcells hr1
 have HR3:=hide (fl4 (HR.1.store 1 (.int .i64 (fr:Int)) (st':={ st with pos:=fr }) (nest':=nest) rfl HFR.1 HR.1.deep rfl) fl).drew
 clear hr1
 refine tkH 7 (some 29) ?vu51 rfl ?yu51 hHeld2 ?ru51
 case yu51=>(intro w hSw;(try dsimp only at hSw);go_simp;try with_reducible rfl)
 try simp only [aP]
 refine tkH 8 (some 30) ?vu52 rfl ?yu52 hHeld2 ?ru52
 case yu52=>(intro w hSw;(try dsimp only at hSw);go_simp;try with_reducible rfl)
 try simp only [aP]
 refine wpAnyH_ready (rs:=[9]) (by kernel_rfl) (by simp) ?_
 refine AllReadyH.cons (o:=⟨none,_,_,_,_,_⟩) rfl (fun K hK=>?_) AllReadyH.nil
 go_simp
 refine hK.out _ _ (⟨hide ((blk_fl (HKI.1.far (p:=⟨rb,1,none⟩) (by show w.heap.size+1≠rb;omega) (.int .i64 (fr:Int))) (show w.heap.size+1≠rb by omega) (.bool fl.i) (.bool fl.m) (.bool fl.s) (.bool fl.x)).drew),((blk_fl (HKI.1.far (p:=⟨rb,1,none⟩) (by show w.heap.size+1≠rb;omega) (.int .i64 (fr:Int))) (show w.heap.size+1≠rb by omega) (.bool fl.i) (.bool fl.m) (.bool fl.s) (.bool fl.x)).drew).cell 0,((blk_fl (HKI.1.far (p:=⟨rb,1,none⟩) (by show w.heap.size+1≠rb;omega) (.int .i64 (fr:Int))) (show w.heap.size+1≠rb by omega) (.bool fl.i) (.bool fl.m) (.bool fl.s) (.bool fl.x)).drew).cell 1,((blk_fl (HKI.1.far (p:=⟨rb,1,none⟩) (by show w.heap.size+1≠rb;omega) (.int .i64 (fr:Int))) (show w.heap.size+1≠rb by omega) (.bool fl.i) (.bool fl.m) (.bool fl.s) (.bool fl.x)).drew).cell 2,((blk_fl (HKI.1.far (p:=⟨rb,1,none⟩) (by show w.heap.size+1≠rb;omega) (.int .i64 (fr:Int))) (show w.heap.size+1≠rb by omega) (.bool fl.i) (.bool fl.m) (.bool fl.s) (.bool fl.x)).drew).cell 3⟩) (fun hHeld3=>?_)
 clear hK K
 try simp only [aP]
 refine wpAnyH_done (by kernel_rfl) ?_ _
 refine NoPanic.normal ?_
 clear hHeld hHeld2 hHeld3
 have HL3:=hide (Left.then (Left.of_below HW.1 HB.1) (Left.of_turn HR3.1 ((turn_fl (turn_set (Turn.of_below (rb:=rb) (row:=none) (Below.refl _ X)) (.int .i64 (fr:Int))) (.bool fl.i) (.bool fl.m) (.bool fl.s) (.bool fl.x)).trans (Turn.of_below (Below.refl _ _).drew) (.inl rfl))))
 have HKN:=hide ((blk_fl (HKN.1.far (p:=⟨rb,1,none⟩) (by show w.heap.size≠rb;omega) (.int .i64 (fr:Int))) (show w.heap.size≠rb by omega) (.bool fl.i) (.bool fl.m) (.bool fl.s) (.bool fl.x)).drew)
 have HKP:=hide ((blk_fl (HKP.1.far (p:=⟨rb,1,none⟩) (by show w.heap.size+2≠rb;omega) (.int .i64 (fr:Int))) (show w.heap.size+2≠rb by omega) (.bool fl.i) (.bool fl.m) (.bool fl.s) (.bool fl.x)).drew)
 have HKF:=hide ((blk_fl (HKF.1.far (p:=⟨rb,1,none⟩) (by show w.heap.size+3≠rb;omega) (.int .i64 (fr:Int))) (show w.heap.size+3≠rb by omega) (.bool fl.i) (.bool fl.m) (.bool fl.s) (.bool fl.x)).drew)
 have HKO:=hide ((blk_fl (HKO.1.far (p:=⟨rb,1,none⟩) (by show w.heap.size+4≠rb;omega) (.int .i64 (fr:Int))) (show w.heap.size+4≠rb by omega) (.bool fl.i) (.bool fl.m) (.bool fl.s) (.bool fl.x)).drew)
 have hs3:X.heap.size≤((((((X.setCell ⟨rb,1,none⟩ (.int .i64 (fr:Int))).setCell ⟨rb,2,none⟩ (.bool fl.i)).setCell ⟨rb,3,none⟩ (.bool fl.m)).setCell ⟨rb,4,none⟩ (.bool fl.s)).setCell ⟨rb,5,none⟩ (.bool fl.x)).drew).heap.size:=by simp [World.setCell,World.drew]
 clear c0 c1 c2 c3 c4 c5 c6 f1 f2 f3 f4 f5 f6 c12 c13 c14 c15 f12 f13 f14 f15 i0 i1 i2 i3 HR HKI
 generalize (((((X.setCell ⟨rb,1,none⟩ (.int .i64 (fr:Int))).setCell ⟨rb,2,none⟩ (.bool fl.i)).setCell ⟨rb,3,none⟩ (.bool fl.m)).setCell ⟨rb,4,none⟩ (.bool fl.s)).setCell ⟨rb,5,none⟩ (.bool fl.x)).drew=X3 at *
 obtain ⟨⟨-,-,-,-,-,-,c6⟩,-,-,-,-,-,f6⟩:=rdcells HR3.1
 go_wp2_with fail
 have hr4:=HR3.1.store 6 (.int .i64 ((nest:Int)+1)) (st':=⟨fr,fl,st.names⟩) (nest':=nest+1) rfl HFR.1 (by omega) rfl
 have hs4:X3.heap.size≤(X3.setCell ⟨rb,6,none⟩ (.int .i64 ((nest:Int)+1))).heap.size:=by simp [World.setCell]
 refine (CI.1 _ _ hr4).mono ?_
 rintro e W6 hG
 rw [hr.1] at hG
 obtain ⟨v,nv',he,hp,hL⟩:=hG
 obtain ⟨u0,u1,u2,u3,u4,u5,u6,s1,L,ln,lc,K,kn,kc,rfl,-⟩:=hp.form
 subst he
 have hbV:Below W6.heap.size W6 ((W6.alloc (.cells (pu u0 u1 u2 u3 u4 u5 u6 s1 L ln lc K kn kc) 78)).alloc (.cells fz 80)):=((Below.refl W6.heap.size W6).alloc (Nat.le_refl _) (.cells (pu u0 u1 u2 u3 u4 u5 u6 s1 L ln lc K kn kc) 78)).alloc (by simp) (.cells fz 80)
 have HL7:=hide (Left.inner HL3.1 hL hbV st.fl (by omega))
 have HKN:=hide (blk_inner hr4 hL hbV st.fl HKN.1 (by decide) (show w.heap.size≠rb by omega))
 have HKP:=hide (blk_inner hr4 hL hbV st.fl HKP.1 (by decide) (show w.heap.size+2≠rb by omega))
 have HKF:=hide (blk_inner hr4 hL hbV st.fl HKF.1 (by decide) (show w.heap.size+3≠rb by omega))
 have hs6:=hL.turn.size
 have hko:=(Left.blk hr4 hL (HKO.1.far (p:=⟨rb,6,none⟩) (by show w.heap.size+4≠rb;omega) (.int .i64 ((nest:Int)+1))) (by decide) (show w.heap.size+4≠rb by omega))
 have hko6:=(hko.below hbV hko.lt).far (p:=⟨rb,6,none⟩) (by show w.heap.size+4≠rb;omega) (.int .i64 (nest:Int))
 obtain ⟨⟨o0,o1,o2,o3⟩,-⟩:=cells4 hko6
 have hrV:=hL.rd.below hbV
 obtain ⟨⟨-,-,-,-,-,-,r6⟩,-,-,-,-,-,s6⟩:=rdcells hrV
 have hr7:=hrV.store 6 (.int .i64 (nest:Int)) (st':=st2) (nest':=nest) rfl hL.rd.pos (by omega) rfl
 obtain ⟨⟨-,-,t2,t3,t4,t5,-⟩,-,g2,g3,g4,g5,-⟩:=rdcells hr7
 have hwm:IntKind.i64.wrap (((nest+1:Nat):Int)-1)=(nest:Int):=by rw [show ((nest+1:Nat):Int)-1=(nest:Int) by omega];exact Rs.wrap_id _ (by omega) (by omega)
 have hpb:=(Blk.new W6 78 (pu u0 u1 u2 u3 u4 u5 u6 s1 L ln lc K kn kc)).alloc (.cells fz 80)
 have HPB:=hide (blk_fl (hpb.far (p:=⟨rb,6,none⟩) (by show W6.heap.size≠rb;omega) (.int .i64 (nest:Int))) (show W6.heap.size≠rb by omega) (.bool st.fl.i) (.bool st.fl.m) (.bool st.fl.s) (.bool st.fl.x))
 have hfb:=blk_at (W:=W6.alloc (.cells (pu u0 u1 u2 u3 u4 u5 u6 s1 L ln lc K kn kc) 78)) (g:=W6.heap.size+1) (t:=80) (cs:=fz) (by simp)
 have HFB:=hide (blk_fl (hfb.far (p:=⟨rb,6,none⟩) (by show W6.heap.size+1≠rb;omega) (.int .i64 (nest:Int))) (show W6.heap.size+1≠rb by omega) (.bool st.fl.i) (.bool st.fl.m) (.bool st.fl.s) (.bool st.fl.x))
 obtain ⟨⟨b0,b1⟩,-⟩:=cells2 HFB.1
 have hVs:W6.heap.size+2≤(((((((W6.alloc (.cells (pu u0 u1 u2 u3 u4 u5 u6 s1 L ln lc K kn kc) 78)).alloc (.cells fz 80)).setCell ⟨rb,6,none⟩ (.int .i64 (nest:Int))).setCell ⟨rb,2,none⟩ (.bool st.fl.i)).setCell ⟨rb,3,none⟩ (.bool st.fl.m)).setCell ⟨rb,4,none⟩ (.bool st.fl.s)).setCell ⟨rb,5,none⟩ (.bool st.fl.x)).heap.size:=by simp [World.setCell]
 have hp4:rb<(X3.setCell ⟨rb,6,none⟩ (.int .i64 ((nest:Int)+1))).heap.size:=by omega
 have HPT:=hide ((hp.below hbV).inner (nest:=nest) hp4 st.fl)
 clear hp hp4
 clear hbV hko hko6 hrV hr7 hpb hfb hL hr4 HL3 HR3 HKO
 go_wp2_with fail
 clear o0 o1 o2 o3 r6 s6 t2 t3 t4 t5 g2 g3 g4 g5 b0 b1
 generalize (((((((W6.alloc (.cells (pu u0 u1 u2 u3 u4 u5 u6 s1 L ln lc K kn kc) 78)).alloc (.cells fz 80)).setCell ⟨rb,6,none⟩ (.int .i64 (nest:Int))).setCell ⟨rb,2,none⟩ (.bool st.fl.i)).setCell ⟨rb,3,none⟩ (.bool st.fl.m)).setCell ⟨rb,4,none⟩ (.bool st.fl.s)).setCell ⟨rb,5,none⟩ (.bool st.fl.x))=V at *
 have hVc:(∀ {a:Prop},a→a):=fun h=>h
 obtain ⟨⟨c0,c1,-,-,-,-,-⟩,f1,-⟩:=rdcells HL7.1.rd
 have c1:V.cell? ⟨rb,1,none⟩=some (.int .i64 (st2.pos:Int)):=c1
 have hps:st2.pos≤bs.length:=HL7.1.rd.pos
 have e10:((st2.pos:Int)==(bs.length:Int))=false:=by rw [beq_eq_false_iff_ne];omega
 clear hVc CI
 refine wp_region_noPanic ?_
 refine wp_region_held_drew (S:=(fun wx=>wx.cell? ⟨rb,0,none⟩=some (.slice A bs.length cap)∧wx.cell? ⟨rb,1,none⟩=some (.int .i64 (st2.pos:Int)))) (by kernel_rfl) (⟨(HL7.1.rd.below (Below.refl _ _).drew).blk.cell 0,(HL7.1.rd.below (Below.refl _ _).drew).blk.cell 1⟩) (fun hHeld=>?_)
 refine tkH 0 (some 59) ?vu53 rfl ?yu53 hHeld ?ru53
 case yu53=>(intro w hSw;(try dsimp only at hSw);go_simp;try with_reducible rfl)
 try simp only [aP]
 refine tkH 1 (some 60) ?vu54 rfl ?yu54 hHeld ?ru54
 case yu54=>(intro w hSw;(try dsimp only at hSw);go_simp;try with_reducible rfl)
 try simp only [aP]
 refine tkH 2 (some 61) ?vu55 rfl ?yu55 hHeld ?ru55
 case yu55=>(intro w hSw;(try dsimp only at hSw);go_simp;try with_reducible rfl)
 try simp only [aP]
 refine tkH 3 (some 62) ?vu56 rfl ?yu56 hHeld ?ru56
 case yu56=>(intro w hSw;(try dsimp only at hSw);go_simp;try with_reducible rfl)
 try simp only [aP]
 refine tkH 4 (some 63) ?vu57 rfl ?yu57 hHeld ?ru57
 case yu57=>(intro w hSw;(try dsimp only at hSw);go_simp;try with_reducible rfl)
 try simp only [aP]
 refine tkH 5 (some 64) ?vu58 rfl ?yu58 hHeld ?ru58
 case yu58=>(intro w hSw;(try dsimp only at hSw);go_simp;try with_reducible rfl)
 try simp only [aP]
 refine tkH 6 (some 65) ?vu59 rfl ?yu59 hHeld ?ru59
 case yu59=>(intro w hSw;(try dsimp only at hSw);go_simp;try with_reducible rfl)
 try simp only [aP]
 refine tkH 7 (some 66) ?vu60 rfl ?yu60 hHeld ?ru60
 case yu60=>(intro w hSw;(try dsimp only at hSw);go_simp;try with_reducible rfl)
 try simp only [aP]
 refine tkH 8 (some 67) ?vu61 rfl ?yu61 hHeld ?ru61
 case yu61=>(intro w hSw;(try dsimp only at hSw);go_simp;try with_reducible rfl)
 try simp only [aP]
 refine tkH 9 (some 68) ?vu62 rfl ?yu62 hHeld ?ru62
 case yu62=>(intro w hSw;(try dsimp only at hSw);go_simp;try with_reducible rfl)
 try simp only [aP]
 refine wpAnyH_done (by kernel_rfl) ?_ _
 refine NoPanic.normal ?_
 clear hHeld c0 c1 f1
 have HL7:=hide (HL7.1.below (Below.refl _ _).drew)
 have HKN:=hide HKN.1.drew
 have HKP:=hide HKP.1.drew
 have HKF:=hide HKF.1.drew
 have HPB:=hide HPB.1.drew
 have HPT:=hide (HPT.1.below (Below.refl _ _).drew)
 have hVs:W6.heap.size+2≤V.drew.heap.size:=hVs
 generalize V.drew=V at *
 have hr8:=HL7.1.rd.store 1 (.int .i64 ((st2.pos:Int)+1)) (st':=⟨st2.pos+1,st.fl,st2.names⟩) (nest':=nest) rfl (by show st2.pos+1≤bs.length;omega) (by omega) rfl
 have HL8:=hide (show Left bs A cap w0 rb nest nv w ⟨st2.pos+1,st.fl,st2.names⟩ nv' (V.setCell ⟨rb,1,none⟩ (.int .i64 ((st2.pos:Int)+1))) from ⟨hr8,turn_set HL7.1.turn _,HL7.1.nw⟩)
 obtain ⟨⟨-,c1,-,-,-,-,-⟩,f1,-⟩:=rdcells HL7.1.rd
 have c1':V.cell? ⟨rb,1,none⟩=some (.int .i64 (st2.pos:Int)):=c1
 clear c1
 have hwp:IntKind.i64.wrap ((st2.pos:Int)+1)=(st2.pos:Int)+1:=Rs.wrap_id _ (by omega) (by omega)
 have HKN:=hide (HKN.1.far (p:=⟨rb,1,none⟩) (by show w.heap.size≠rb;omega) (.int .i64 ((st2.pos:Int)+1)))
 have HKP:=hide (HKP.1.far (p:=⟨rb,1,none⟩) (by show w.heap.size+2≠rb;omega) (.int .i64 ((st2.pos:Int)+1)))
 have HKF:=hide (HKF.1.far (p:=⟨rb,1,none⟩) (by show w.heap.size+3≠rb;omega) (.int .i64 ((st2.pos:Int)+1)))
 have HPB:=hide (HPB.1.far (p:=⟨rb,1,none⟩) (by show W6.heap.size≠rb;omega) (.int .i64 ((st2.pos:Int)+1)))
 have HPT:=hide (HPT.1.turn (turn_set (i:=1) (Turn.of_below (rb:=rb) (row:=nv'.ownBlock) (Below.refl _ V)) (.int .i64 ((st2.pos:Int)+1))) (Nw.refl _ _) (by omega))
 have hVs:W6.heap.size+2≤(V.setCell ⟨rb,1,none⟩ (.int .i64 ((st2.pos:Int)+1))).heap.size:=by simpa [World.setCell] using hVs
 obtain ⟨⟨n0,n1,n2,n3,n4,n5,n6,n7,n8,n9⟩,l0,l1,l2,-⟩:=cells10 HKN.1
 obtain ⟨⟨p0,p1,p2,p3,p4,p5,p6,p7,p8,p9,p10⟩,-⟩:=cells11 HPB.1
 obtain ⟨⟨-,c18,-,-,-,-,-⟩,-⟩:=rdcells hr8
 have c18':(V.setCell ⟨rb,1,none⟩ (.int .i64 ((st2.pos:Int)+1))).cell? ⟨rb,1,none⟩=some (.int .i64 ((st2.pos:Int)+1)):=c18
 clear c18 p0 p1 p2 p3 p4 p5 p6 p7 p8 p9 p10
 have hkn9:=HKN.1.set_ 2 (.int .i64 ((st2.pos:Int)+1))
 have HL9:=hide (HL8.1.set1 HKN.1 (by decide) (Nat.le_refl _) hlt (i:=2) (.int .i64 ((st2.pos:Int)+1)))
 have hpb9:=HPB.1.far (p:=⟨w.heap.size,2,none⟩) (by show W6.heap.size≠w.heap.size;omega) (.int .i64 ((st2.pos:Int)+1))
 obtain ⟨⟨p0,p1,p2,p3,p4,p5,p6,p7,p8,p9,p10⟩,-⟩:=cells11 hpb9
 have k9:Blk ((V.setCell ⟨rb,1,none⟩ (.int .i64 ((st2.pos:Int)+1))).setCell ⟨w.heap.size,2,none⟩ (.int .i64 ((st2.pos:Int)+1))) w.heap.size 49 (nu kk (st.pos:Int) ((st2.pos:Int)+1) nn 0 0 0 s none 0 0):=hkn9
 obtain ⟨⟨j0,j1,j2,j3,j4,j5,j6,j7,j8,j9⟩,-⟩:=cells10 k9
 have hV9s:W6.heap.size+2≤((V.setCell ⟨rb,1,none⟩ (.int .i64 ((st2.pos:Int)+1))).setCell ⟨w.heap.size,2,none⟩ (.int .i64 ((st2.pos:Int)+1))).heap.size:=by simpa [World.setCell] using hVs
 have HKP:=hide ((HKP.1.far (p:=⟨w.heap.size,2,none⟩) (by show w.heap.size+2≠w.heap.size;omega) (.int .i64 ((st2.pos:Int)+1))).alloc (.cells (pu u0 u1 u2 u3 u4 u5 u6 s1 L ln lc K kn kc) 78))
 have HKF:=hide ((HKF.1.far (p:=⟨w.heap.size,2,none⟩) (by show w.heap.size+3≠w.heap.size;omega) (.int .i64 ((st2.pos:Int)+1))).alloc (.cells (pu u0 u1 u2 u3 u4 u5 u6 s1 L ln lc K kn kc) 78))
 have e9:((V.setCell ⟨rb,1,none⟩ (.int .i64 ((st2.pos:Int)+1))).setCell ⟨w.heap.size,2,none⟩ (.int .i64 ((st2.pos:Int)+1))).heap.size=V.heap.size:=by simp [World.setCell]
 have hg9:(V.setCell ⟨rb,1,none⟩ (.int .i64 ((st2.pos:Int)+1))).grownBy ((V.setCell ⟨rb,1,none⟩ (.int .i64 ((st2.pos:Int)+1))).setCell ⟨w.heap.size,2,none⟩ (.int .i64 ((st2.pos:Int)+1))) (some w.heap.size):=only_setCell (World.grownBy.refl _ (some w.heap.size)) (p:=⟨w.heap.size,2,none⟩) (.inl rfl) _
 have hal:=(Below.refl ((V.setCell ⟨rb,1,none⟩ (.int .i64 ((st2.pos:Int)+1))).setCell ⟨w.heap.size,2,none⟩ (.int .i64 ((st2.pos:Int)+1))).heap.size ((V.setCell ⟨rb,1,none⟩ (.int .i64 ((st2.pos:Int)+1))).setCell ⟨w.heap.size,2,none⟩ (.int .i64 ((st2.pos:Int)+1)))).alloc (Nat.le_refl _) (.cells (pu u0 u1 u2 u3 u4 u5 u6 s1 L ln lc K kn kc) 78)
 have HPW:=hide (PtV.wrap (nd:=⟨kk,(st.pos:Int),(st2.pos:Int)+1,nn,0,0,0,s,[],[]⟩) ((HPT.1.grown hg9 (by omega)).below hal) (blk_at (W:=((V.setCell ⟨rb,1,none⟩ (.int .i64 ((st2.pos:Int)+1))).setCell ⟨w.heap.size,2,none⟩ (.int .i64 ((st2.pos:Int)+1)))) (g:=V.heap.size) (t:=78) (cs:=(pu u0 u1 u2 u3 u4 u5 u6 s1 L ln lc K kn kc)) (by simp [World.setCell])) ⟨by omega,HL9.1.rd.nv_lt (by rw [e9];exact Nat.le_refl _)⟩ rfl)
 have HL9:=hide (HL9.1.below hal)
 obtain ⟨⟨y0,y1,y2,y3,y4,y5,y6,y7,y8,y9,y10⟩,z0,z1,z2,z3,z4,z5,z6,z7,z8,z9,z10⟩:=cells11 HKP.1
 obtain ⟨⟨u20,u21⟩,v20,v21⟩:=cells2 HKF.1
 clear hr8 hkn9 hpb9 k9 hg9 hal e9
 go_wp2_with fail
 (try simp only [Exit.inBlock,Exit.then])
 have hq:=blk13 HKP.1 HKF.1 (by omega) rfl rfl
 exact bodyPost_ret (rctc rfl (w.heap.size+2) (w.heap.size+3) (.bool true) rfl rfl rfl (hq _ _ _ _ _ _ _ _ _ _ _ _ _)) rfl ⟨_,nv',rfl,(HPW.1.set13 (by omega) (by omega) _ _ _ _ _ _ _ _ _ _ _ _ _).lower (by omega),HL9.1.set13 HKP.1 HKF.1 hlt (by omega) (by omega) (by omega) _ _ _ _ _ _ _ _ _ _ _ _ _⟩
theorem within_any (h:Rd bs A cap w0 rb nest st nv w) (hnest:nest<100) (kk nn:Int) (s:List UInt8) (fr:Nat) (hfr:fr≤bs.length) (fl:Fl) (inner:St→Res Pt)
  (CI:∀ W nv1,Rd bs A cap w0 rb (nest+1) ⟨fr,fl,st.names⟩ nv1 W→Calls Tryz.prog 32 #[Value.pointer (some ⟨rb,0,none⟩)] W (GiveP bs A cap w0 rb (nest+1) nv1 W (inner ⟨fr,fl,st.names⟩))) :
  Calls Tryz.prog 67 #[Value.pointer (some ⟨rb,0,none⟩),ndV kk nn s,.int .i64 (fr:Int),flV fl] w (GiveA bs A cap w0 rb nest nv w (withinP bs inner { nd0 with kind:=kk,num:=nn,name:=s } fr fl st)):=by
 unfold withinP
 cases hr:inner ⟨fr,fl,st.names⟩ with
 | error e=>
  obtain ⟨k,pl⟩:=e
  exact within_err h hnest kk nn s fr hfr fl _ CI k pl hr
 | ok t=>
  obtain ⟨x,st2⟩:=t
  simp only []
  by_cases hl:bs.length≤st2.pos
  ·rw [if_pos hl]
   exact within_end h hnest kk nn s fr hfr fl _ CI x st2 hr hl
  ·rw [if_neg hl]
   by_cases hk:kk=0
   ·rw [if_pos hk]
    exact within_plain h hnest kk nn s fr hfr fl _ CI x st2 hr (by omega) hk
   ·rw [if_neg hk]
    exact within_node h hnest kk nn s fr hfr fl _ CI x st2 hr (by omega) hk
end Go.Proofs.YtmlbklcmblofkaaGreatDoor.Pa
