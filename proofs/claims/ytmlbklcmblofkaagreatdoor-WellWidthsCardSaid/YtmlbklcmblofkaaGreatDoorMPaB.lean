/-
  Results that are cells of two blocks; the reader's class, walked where it is refused.
-/
import Derived.Test.YtmlbklcmblofkaaGreatDoorMPaA
set_option linter.unusedSimpArgs false
set_option linter.unusedVariables false
set_option maxHeartbeats 8000000
set_option maxRecDepth 100000
namespace Go.Proofs.YtmlbklcmblofkaaGreatDoor.Pa
section
open Go.RowKit Mem
open Sc (Lies results_cell1)
open Rs (R)
open Fo (closeL)
variable {rb:Nat} {w:World}
theorem cased_any {bs:List UInt8} {A:Option Addr} {cap:Nat} {w0:World} {nest:Nat} {st:St} {nv:Value} (h:Rd bs A cap w0 rb nest st nv w) (l:List R) (B:Nat) (v:Value) (hl:Lies B l v w) (hB:B≤w.heap.size) (hlen:l.length≤40000) :
  Calls Tryz.prog 59 #[.pointer (some ⟨rb,0,none⟩),v] w fun e w'=>∃ v',e=.returned v'∧Lies B (casedP st.fl l) v' w'∧Below w.heap.size w w':=by
 obtain ⟨L,lc,rfl,hc,hm,hlst,hlo⟩:=hl
 have c2:w.cell? ⟨rb,2,none⟩=some (.bool st.fl.i):=h.blk.cell 2
 cases hi:st.fl.i with
 | false=>
  rw [hi] at c2
  have HQ:=hide (show casedP st.fl l=l by unfold casedP;rw [hi];rfl)
  have HL:=hide (show Lies B l (.slice L l.length lc) w from ⟨L,lc,rfl,hc,hm,hlst,hlo⟩)
  clear h hlst hlo hi
  go_enter Tryz.func59,Tryz.ntmps59
  go_wp2_with fail
  go_ret
  exact ⟨_,rfl,by rw [HQ.1];exact HL.1,Below.refl _ _⟩
 | true=>
  rw [hi] at c2
  obtain ⟨tb,toff,tcap,hT⟩:=h.glW.rows
  have CC:=hide (Fo.pclose_any l L lc w hT hlen hc hlst)
  have HQ:=hide (show casedP st.fl l=closeL l by unfold casedP;rw [hi];rfl)
  have HB:=hide hB
  clear h hlst hlo hi hT
  go_enter Tryz.func59,Tryz.ntmps59
  go_wp2_with fail
  refine CC.1.mono ?_
  rintro e w3 ⟨v3,rfl,hcut⟩
  obtain ⟨h1,h2⟩:=Lies.of (Cl.cut_gives' hcut)
  have H1:=hide h1
  have H2:=hide h2
  clear h1 h2 hcut
  go_wp2_with fail
  go_ret
  exact ⟨_,rfl,by rw [HQ.1];exact H1.1.mono HB.1,H2.1⟩
theorem Turn.more {w':World} (h:Turn rb none w w') (row:Option Nat):Turn rb row w w':=⟨h.os,h.tape,h.output,h.size,fun k hk h1 _=>h.block k hk h1 (by simp)⟩
theorem build_set (A:Option Addr) (n cap:Nat) (w:World):Sem.run Tryz.prog (Instr.build 49 #[(0,.int .i64 2),(8,.slice A n cap)]) w=.ok (.agg #[.int .i64 2,.int .i64 0,.int .i64 0,.int .i64 0,.int .i64 0,.int .i64 0,.int .i64 0,.string ⟨#[]⟩,.slice A n cap,.slice none 0 0]) w:=run_build w 49 _ _ (by kernel_rfl)
attribute [local go_sem] build_set
theorem set_any {bs:List UInt8} {A:Option Addr} {cap:Nat} {w0:World} {nest:Nat} {st:St} {nv:Value} (h:Rd bs A cap w0 rb nest st nv w) (row:Option Nat) (L:Option Addr) (ln lc:Nat) (q:Nat) (hq:q≤bs.length) :
  Calls Tryz.prog 56 #[.pointer (some ⟨rb,0,none⟩),.slice L ln lc,.int .i64 (q:Int)] w fun e' w'=>
   e'=.returned (.agg #[.int .i64 2,.int .i64 (st.pos:Int),.int .i64 (q:Int),.int .i64 0,.int .i64 0,.int .i64 0,.int .i64 0,.string ⟨#[]⟩,.slice L ln lc,.slice none 0 0,.slice none 0 0])∧Rd bs A cap w0 rb nest { st with pos:=q } nv w'∧Turn rb row w w':=by
 have hb:=(Below.refl w.heap.size w).alloc (Nat.le_refl _) (.cells pz 78)
 have CL:=hide (leaf_any (h.below hb) none 2 0 0 0 0 0 0 [] L ln lc q hq)
 have HK:=hide (Blk.new w 78 pz)
 have HB:=hide hb
 have hlt:=h.blk.lt
 have habv:=h.above
 clear h hb hq
 go_enter Tryz.func56,Tryz.ntmps56
 go_wp2_with fail
 refine CL.1.mono ?_
 rintro e w3 ⟨rfl,hr,ht⟩
 have hk:Blk w3 w.heap.size 78 pz:=
  (ht.block w.heap.size (by simp) (by omega) (by simp)).trans HK.1
 obtain ⟨⟨y0,y1,y2,y3,y4,y5,y6,y7,y8,y9,y10⟩,z0,z1,z2,z3,z4,z5,z6,z7,z8,z9,z10⟩:=cells11 hk
 have HK3:=hide hk
 have HR:=hide hr
 have HT:=hide (show Turn rb row w w3 from (Turn.of_below HB.1).trans (ht.more row) (.inl rfl))
 clear hk hr ht CL
 go_wp2_with fail
 (try simp only [Exit.inBlock,Exit.then])
 have hr:=HR.1.grown (grow11 _ w.heap.size (.int .i64 2) (.int .i64 (st.pos:Int)) (.int .i64 (q:Int)) (.int .i64 0) (.int .i64 0) (.int .i64 0) (.int .i64 0) (.string ⟨#[]⟩) (.slice L ln lc) (.slice none 0 0) (.slice none 0 0)) HK3.1 (by decide) (by omega) (by omega)
 exact bodyPost_ret (results_cell1 rfl _ _ w.heap.size _ _ rfl (set11 HK3.1 _ _ _ _ _ _ _ _ _ _ _) Tryz.underlying78 rfl (by kernel_rfl)) rfl ⟨rfl,hr,turnf11 HT.1 (Nat.le_refl _) _ _ _ _ _ _ _ _ _ _ _⟩
end
section
open Go.RowKit Mem
open Sc (results_cell1)
theorem build_rep (a b c d e:Int) (w:World):Sem.run Tryz.prog (Instr.build 49 #[(0,.int .i64 8),(1,.int .i64 a),(2,.int .i64 b),(4,.int .i64 c),(5,.int .i64 d)]) w=.ok (.agg #[.int .i64 8,.int .i64 a,.int .i64 b,.int .i64 0,.int .i64 c,.int .i64 d,.int .i64 0,.string ⟨#[]⟩,.slice none 0 0,.slice none 0 0]) w:=run_build w 49 _ _ (by kernel_rfl)
theorem build_ato (a b:Int) (w:World):Sem.run Tryz.prog (Instr.build 49 #[(0,.int .i64 9),(1,.int .i64 a),(2,.int .i64 b)]) w=.ok (.agg #[.int .i64 9,.int .i64 a,.int .i64 b,.int .i64 0,.int .i64 0,.int .i64 0,.int .i64 0,.string ⟨#[]⟩,.slice none 0 0,.slice none 0 0]) w:=run_build w 49 _ _ (by kernel_rfl)
theorem build_part2 (a b c d e f m:Int) (s:ByteArray) (A K:Option Addr) (n cap kn kc:Nat) (w:World):Sem.run Tryz.prog (Instr.build 78 #[(0,.agg #[.int .i64 a,.int .i64 b,.int .i64 c,.int .i64 d,.int .i64 e,.int .i64 f,.int .i64 m,.string s,.slice A n cap,.slice none 0 0]),(1,.slice K kn kc)]) w=.ok (.agg #[.int .i64 a,.int .i64 b,.int .i64 c,.int .i64 d,.int .i64 e,.int .i64 f,.int .i64 m,.string s,.slice A n cap,.slice none 0 0,.slice K kn kc]) w:=run_build w 78 _ _ (by kernel_rfl)
attribute [local go_sem] build_rep build_ato build_part2
theorem blk_at {W:World} {g t:Nat} {cs:Array Value} (h:g=W.heap.size):Blk (W.alloc (.cells cs t)) g t cs:=by subst h;exact Blk.new _ _ _
def ptC (a b c d e f m:Int) (s:List UInt8) (L:Option Addr) (ln lc:Nat) (K:Option Addr) (kn kc:Nat):Array Value:=#[.int .i64 a,.int .i64 b,.int .i64 c,.int .i64 d,.int .i64 e,.int .i64 f,.int .i64 m,.string ⟨s.toArray⟩,.slice L ln lc,.slice none 0 0,.slice K kn kc]
theorem repeat_one (a b c d e f m:Int) (s:List UInt8) (L:Option Addr) (ln lc:Nat) (K:Option Addr) (kn kc:Nat) (fr lo hi mode q:Int) (w:World) (hm:mode=0∨mode=1) :
  Calls Tryz.prog 61 #[.agg #[.int .i64 a,.int .i64 b,.int .i64 c,.int .i64 d,.int .i64 e,.int .i64 f,.int .i64 m,.string ⟨s.toArray⟩,.slice L ln lc,.slice none 0 0,.slice K kn kc],.int .i64 fr,.agg #[.int .i64 lo,.int .i64 hi,.int .i64 mode,.int .i64 q]] w fun e' w'=>
   ∃ g,e'=.returned (.agg (ptC 8 fr q 0 lo hi mode [] none 0 0 (some ⟨g,0,none⟩) 1 1))∧Blk w' g 78 (ptC a b c d e f m s L ln lc K kn kc)∧w.heap.size≤g∧Below w.heap.size w w':=by
 rcases hm with rfl|rfl
 ·go_enter Tryz.func61,Tryz.ntmps61
  go_wp2_with fail
  (try simp only [Exit.inBlock,Exit.then])
  refine bodyPost_ret (results_cell1 rfl _ _ (w.heap.size+1+1) _ _ rfl ((((blk_at (by simp)).alloc _).alloc _).alloc _) Tryz.underlying78 rfl (by kernel_rfl)) rfl ⟨w.heap.size+1+1+1+1,rfl,(blk_at (by simp)).alloc _,by omega,?_⟩
  exact ((((((Below.refl _ w).alloc (Nat.le_refl _) _).alloc (by simp) _).alloc (by simp;omega) _).alloc (by simp;omega) _).alloc (by simp;omega) _).alloc (by simp;omega) _
 ·go_enter Tryz.func61,Tryz.ntmps61
  go_wp2_with fail
  (try simp only [Exit.inBlock,Exit.then])
  refine bodyPost_ret (results_cell1 rfl _ _ (w.heap.size+1+1) _ _ rfl ((((blk_at (by simp)).alloc _).alloc _).alloc _) Tryz.underlying78 rfl (by kernel_rfl)) rfl ⟨w.heap.size+1+1+1+1,rfl,(blk_at (by simp)).alloc _,by omega,?_⟩
  exact ((((((Below.refl _ w).alloc (Nat.le_refl _) _).alloc (by simp) _).alloc (by simp;omega) _).alloc (by simp;omega) _).alloc (by simp;omega) _).alloc (by simp;omega) _
theorem repeat_two (a b c d e f m:Int) (s:List UInt8) (L:Option Addr) (ln lc:Nat) (K:Option Addr) (kn kc:Nat) (fr lo hi q:Int) (w:World) :
  Calls Tryz.prog 61 #[.agg #[.int .i64 a,.int .i64 b,.int .i64 c,.int .i64 d,.int .i64 e,.int .i64 f,.int .i64 m,.string ⟨s.toArray⟩,.slice L ln lc,.slice none 0 0,.slice K kn kc],.int .i64 fr,.agg #[.int .i64 lo,.int .i64 hi,.int .i64 2,.int .i64 q]] w fun e' w'=>
   ∃ g g2,e'=.returned (.agg (ptC 9 fr q 0 0 0 0 [] none 0 0 (some ⟨g2,0,none⟩) 1 1))∧Blk w' g2 78 (ptC 8 fr q 0 lo hi 0 [] none 0 0 (some ⟨g,0,none⟩) 1 1)∧Blk w' g 78 (ptC a b c d e f m s L ln lc K kn kc)∧w.heap.size≤g∧w.heap.size≤g2∧g≠g2∧Below w.heap.size w w':=by
 go_enter Tryz.func61,Tryz.ntmps61
 go_wp2_with fail
 (try simp only [Exit.inBlock,Exit.then])
 refine bodyPost_ret (results_cell1 rfl _ _ (w.heap.size+1+1) _ _ rfl (((((blk_at (by simp)).alloc _).alloc _).alloc _).alloc _) Tryz.underlying78 rfl (by kernel_rfl)) rfl ⟨w.heap.size+1+1+1+1,w.heap.size+1+1+1+1+1+1,rfl,blk_at (by simp),((blk_at (by simp)).alloc _).alloc _,by omega,by omega,by omega,?_⟩
 exact (((((((Below.refl _ w).alloc (Nat.le_refl _) _).alloc (by simp) _).alloc (by simp;omega) _).alloc (by simp;omega) _).alloc (by simp;omega) _).alloc (by simp;omega) _).alloc (by simp;omega) _
end
section
open Go.RowKit Mem
open Sc (results_cell1)
theorem build_emp (a b:Int) (w:World):Sem.run Tryz.prog (Instr.build 49 #[(0,.int .i64 1),(1,.int .i64 a),(2,.int .i64 b)]) w=.ok (.agg #[.int .i64 1,.int .i64 a,.int .i64 b,.int .i64 0,.int .i64 0,.int .i64 0,.int .i64 0,.string ⟨#[]⟩,.slice none 0 0,.slice none 0 0]) w:=run_build w 49 _ _ (by kernel_rfl)
theorem build_cat (a b:Int) (w:World):Sem.run Tryz.prog (Instr.build 49 #[(0,.int .i64 5),(1,.int .i64 a),(2,.int .i64 b)]) w=.ok (.agg #[.int .i64 5,.int .i64 a,.int .i64 b,.int .i64 0,.int .i64 0,.int .i64 0,.int .i64 0,.string ⟨#[]⟩,.slice none 0 0,.slice none 0 0]) w:=run_build w 49 _ _ (by kernel_rfl)
attribute [local go_sem] build_emp build_cat build_part1 build_part2
def At (w:World) (b o:Nat) (cs:Array Value):Prop:=∀ j u,cs[j]?=some u→w.cell? ⟨b,o+j,none⟩=some u
theorem row_none (A:Option Addr) (c:Nat) (fr:Int) (w:World) :
  Calls Tryz.prog 40 #[.slice A 0 c,.int .i64 fr] w fun e' w'=>
   e'=.returned (.agg (ptC 1 fr fr 0 0 0 0 [] none 0 0 none 0 0))∧Below w.heap.size w w':=by
 go_enter Tryz.func40,Tryz.ntmps40
 go_wp2_with fail
 (try simp only [Exit.inBlock,Exit.then])
 exact bodyPost_ret (results_cell1 rfl _ _ w.heap.size _ _ rfl (Blk.new _ _ _) Tryz.underlying78 rfl (by kernel_rfl)) rfl ⟨rfl,(Below.refl _ w).alloc (Nat.le_refl _) _⟩
theorem row_one (b o:Nat) (cap:Nat) (fr:Int) (a0 b0 c0 d0 e0 f0 m0:Int) (s:List UInt8) (L:Option Addr) (ln lc:Nat) (K:Option Addr) (kn kc:Nat) (w:World) (hb:b<w.heap.size) (h:At w b o (ptC a0 b0 c0 d0 e0 f0 m0 s L ln lc K kn kc)) :
  Calls Tryz.prog 40 #[.slice (some ⟨b,o,none⟩) 1 cap,.int .i64 fr] w fun e' w'=>
   e'=.returned (.agg (ptC a0 b0 c0 d0 e0 f0 m0 s L ln lc K kn kc))∧Below w.heap.size w w':=by
 have up:∀ j u,(ptC a0 b0 c0 d0 e0 f0 m0 s L ln lc K kn kc)[j]?=some u→(w.alloc (.cells pz 78)).cell? ⟨b,o+j,none⟩=some u:=fun j u hu=>(World.cell?_alloc_lt w _ ⟨b,o+j,none⟩ hb).trans (h j u hu)
 have x0:=up 0 (.int .i64 a0) rfl
 rw [Nat.add_zero] at x0
 have x1:=up 1 (.int .i64 b0) rfl
 have x2:=up 2 (.int .i64 c0) rfl
 have x3:=up 3 (.int .i64 d0) rfl
 have x4:=up 4 (.int .i64 e0) rfl
 have x5:=up 5 (.int .i64 f0) rfl
 have x6:=up 6 (.int .i64 m0) rfl
 have x7:=up 7 (.string ⟨s.toArray⟩) rfl
 have x8:=up 8 (.slice L ln lc) rfl
 have x9:=up 9 (.slice none 0 0) rfl
 have x10:=up 10 (.slice K kn kc) rfl
 clear up h
 go_enter Tryz.func40,Tryz.ntmps40
 go_wp2_with fail
 (try simp only [Exit.inBlock,Exit.then])
 exact bodyPost_ret (results_cell1 rfl _ _ w.heap.size _ _ rfl (Blk.new _ _ _) Tryz.underlying78 rfl (by kernel_rfl)) rfl ⟨rfl,(Below.refl _ w).alloc (Nat.le_refl _) _⟩
theorem row_many (b o n k:Nat) (cap:Nat) (fr:Int) (a0 b0 c0 d0 e0 f0 m0:Int) (s:List UInt8) (L:Option Addr) (ln lc:Nat) (K:Option Addr) (kn kc:Nat) (a1 b1 c1 d1 e1 f1 m1:Int) (s1:List UInt8) (L1:Option Addr) (ln1 lc1:Nat) (K1:Option Addr) (kn1 kc1:Nat) (w:World) (hb:b<w.heap.size)
  (h:At w b o (ptC a0 b0 c0 d0 e0 f0 m0 s L ln lc K kn kc)) (h1:At w b (o+k*11) (ptC a1 b1 c1 d1 e1 f1 m1 s1 L1 ln1 lc1 K1 kn1 kc1)) (hn:n=k+1) (hk:1≤k) (hk2:k≤5000) :
  Calls Tryz.prog 40 #[.slice (some ⟨b,o,none⟩) n cap,.int .i64 fr] w fun e' w'=>
   e'=.returned (.agg (ptC 5 b0 c1 0 0 0 0 [] none 0 0 (some ⟨b,o,none⟩) n cap))∧Below w.heap.size w w':=by
 have HX:=hide (show Below w.heap.size w (w.alloc (.cells pz 78)) from (Below.refl _ w).alloc (Nat.le_refl _) _)
 have HKX:=hide (Blk.new w 78 pz)
 have up:∀ j u,(ptC a0 b0 c0 d0 e0 f0 m0 s L ln lc K kn kc)[j]?=some u→(w.alloc (.cells pz 78)).cell? ⟨b,o+j,none⟩=some u:=fun j u hu=>(World.cell?_alloc_lt w _ ⟨b,o+j,none⟩ hb).trans (h j u hu)
 have up1:∀ j u,(ptC a1 b1 c1 d1 e1 f1 m1 s1 L1 ln1 lc1 K1 kn1 kc1)[j]?=some u→(w.alloc (.cells pz 78)).cell? ⟨b,o+k*11+j,none⟩=some u:=fun j u hu=>(World.cell?_alloc_lt w _ ⟨b,o+k*11+j,none⟩ hb).trans (h1 j u hu)
 have x0:=up 0 (.int .i64 a0) rfl
 have x1:=up 1 (.int .i64 b0) rfl
 have x2:=up 2 (.int .i64 c0) rfl
 have x3:=up 3 (.int .i64 d0) rfl
 have x4:=up 4 (.int .i64 e0) rfl
 have x5:=up 5 (.int .i64 f0) rfl
 have x6:=up 6 (.int .i64 m0) rfl
 have x7:=up 7 (.string ⟨s.toArray⟩) rfl
 have x8:=up 8 (.slice L ln lc) rfl
 have x9:=up 9 (.slice none 0 0) rfl
 rw [Nat.add_zero] at x0
 have y0:=up1 0 (.int .i64 a1) rfl
 have y1:=up1 1 (.int .i64 b1) rfl
 have y2:=up1 2 (.int .i64 c1) rfl
 have y3:=up1 3 (.int .i64 d1) rfl
 have y4:=up1 4 (.int .i64 e1) rfl
 have y5:=up1 5 (.int .i64 f1) rfl
 have y6:=up1 6 (.int .i64 m1) rfl
 have y7:=up1 7 (.string ⟨s1.toArray⟩) rfl
 have y8:=up1 8 (.slice L1 ln1 lc1) rfl
 have y9:=up1 9 (.slice none 0 0) rfl
 rw [Nat.add_zero] at y0
 have hni:(n:Int)-1=(k:Int):=by omega
 have hn0:¬ (n:Int)=0:=by omega
 have hn1:¬ (n:Int)=1:=by omega
 have g0:((n:Int)==0)=false:=by rw [beq_eq_false_iff_ne];omega
 have g1:((n:Int)==1)=false:=by rw [beq_eq_false_iff_ne];omega
 have hkn:(k:Int)<(n:Int):=by omega
 have hkn':k<n:=by omega
 have hnp:(0:Int)<(n:Int):=by omega
 have hnp':0<n:=by omega
 have hki:(k:Int)≤5000:=by omega
 have hnt:(n:Int)≤5001:=by omega
 clear up up1 h h1 hn hk hk2
 go_enter Tryz.func40,Tryz.ntmps40
 go_wp2_with fail
 generalize hX:(w.alloc (.cells pz 78))=X at *
 have hbX:b<X.heap.size:=Nat.lt_of_lt_of_le hb HX.1.size
 have hbX2:b<X.drew.heap.size:=hbX
 have up:∀ (o':Nat) (u:Value) (O P:Obj),X.cell? ⟨b,o',none⟩=some u→((X.drew.alloc O).alloc P).cell? ⟨b,o',none⟩=some u:=fun o' u O P hu=>((World.cell?_alloc_lt _ P ⟨b,o',none⟩ (by show b<(World.alloc _ _).heap.size;rw [World.size_alloc];omega)).trans (World.cell?_alloc_lt _ O ⟨b,o',none⟩ hbX2)).trans hu
 have up1:∀ (o':Nat) (u:Value) (O:Obj),X.cell? ⟨b,o',none⟩=some u→((X.drew.alloc O)).cell? ⟨b,o',none⟩=some u:=fun o' u O hu=>((World.cell?_alloc_lt _ O ⟨b,o',none⟩ hbX2)).trans hu
 have Y0:=fun O P=>up _ _ O P y0
 have Y1:=fun O P=>up _ _ O P y1
 have Y2:=fun O P=>up _ _ O P y2
 have Y3:=fun O P=>up _ _ O P y3
 have Y4:=fun O P=>up _ _ O P y4
 have Y5:=fun O P=>up _ _ O P y5
 have Y6:=fun O P=>up _ _ O P y6
 have Y7:=fun O P=>up _ _ O P y7
 have Y8:=fun O P=>up _ _ O P y8
 have Y9:=fun O P=>up _ _ O P y9
 have Z0:=fun O=>up1 _ _ O y0
 have Z1:=fun O=>up1 _ _ O y1
 have Z2:=fun O=>up1 _ _ O y2
 have Z3:=fun O=>up1 _ _ O y3
 have Z4:=fun O=>up1 _ _ O y4
 have Z5:=fun O=>up1 _ _ O y5
 have Z6:=fun O=>up1 _ _ O y6
 have Z7:=fun O=>up1 _ _ O y7
 have Z8:=fun O=>up1 _ _ O y8
 have Z9:=fun O=>up1 _ _ O y9
 have W0:=fun O P=>up _ _ O P x0
 have W1:=fun O P=>up _ _ O P x1
 have W2:=fun O P=>up _ _ O P x2
 have W3:=fun O P=>up _ _ O P x3
 have W4:=fun O P=>up _ _ O P x4
 have W5:=fun O P=>up _ _ O P x5
 have W6:=fun O P=>up _ _ O P x6
 have W7:=fun O P=>up _ _ O P x7
 have W8:=fun O P=>up _ _ O P x8
 have W9:=fun O P=>up _ _ O P x9
 have U0:=fun O=>up1 _ _ O x0
 have U1:=fun O=>up1 _ _ O x1
 have U2:=fun O=>up1 _ _ O x2
 have U3:=fun O=>up1 _ _ O x3
 have U4:=fun O=>up1 _ _ O x4
 have U5:=fun O=>up1 _ _ O x5
 have U6:=fun O=>up1 _ _ O x6
 have U7:=fun O=>up1 _ _ O x7
 have U8:=fun O=>up1 _ _ O x8
 have U9:=fun O=>up1 _ _ O x9
 clear up up1
 go_region
 ·have hk:=((HKX.1.alloc (.cells (nu a0 b0 c0 d0 e0 f0 m0 s L ln lc) 49)).alloc (.cells (nu a1 b1 c1 d1 e1 f1 m1 s1 L1 ln1 lc1) 49)).drew
  have ka:=((Blk.new X 49 (nu a0 b0 c0 d0 e0 f0 m0 s L ln lc)).alloc (.cells (nu a1 b1 c1 d1 e1 f1 m1 s1 L1 ln1 lc1) 49)).drew
  have kb:=(Blk.new (X.alloc (.cells (nu a0 b0 c0 d0 e0 f0 m0 s L ln lc) 49)) 49 (nu a1 b1 c1 d1 e1 f1 m1 s1 L1 ln1 lc1)).drew
  rw [World.size_alloc] at kb
  have HD:=hide (((HX.1.alloc HX.1.size (.cells (nu a0 b0 c0 d0 e0 f0 m0 s L ln lc) 49)).alloc (by have:=HX.1.size;simp;omega) (.cells (nu a1 b1 c1 d1 e1 f1 m1 s1 L1 ln1 lc1) 49)).drew)
  clear x0 x1 x2 x3 x4 x5 x6 x7 x8 x9 y0 y1 y2 y3 y4 y5 y6 y7 y8 y9 Y0 Y1 Y2 Y3 Y4 Y5 Y6 Y7 Y8 Y9 Z0 Z1 Z2 Z3 Z4 Z5 Z6 Z7 Z8 Z9 W0 W1 W2 W3 W4 W5 W6 W7 W8 W9 U0 U1 U2 U3 U4 U5 U6 U7 U8 U9
  generalize ((X.alloc (.cells (nu a0 b0 c0 d0 e0 f0 m0 s L ln lc) 49)).alloc (.cells (nu a1 b1 c1 d1 e1 f1 m1 s1 L1 ln1 lc1) 49)).drew=D at *
  obtain ⟨⟨u0,u1,u2,u3,u4,u5,u6,u7,u8,u9,u10⟩,z0,z1,z2,z3,z4,z5,z6,z7,z8,z9,z10⟩:=cells11 hk
  have p1:=ka.cell 1
  have p2:=ka.cell 2
  have q1:=kb.cell 1
  have q2:=kb.cell 2
  have p1':D.cell? ⟨X.heap.size,1,none⟩=some (.int .i64 b0):=p1
  have p2':D.cell? ⟨X.heap.size,2,none⟩=some (.int .i64 c0):=p2
  have q1':D.cell? ⟨X.heap.size+1,1,none⟩=some (.int .i64 b1):=q1
  have q2':D.cell? ⟨X.heap.size+1,2,none⟩=some (.int .i64 c1):=q2
  have HK:=hide hk
  clear p1 p2 q1 q2 hk ka kb
  go_wp2_with fail
  (try simp only [Exit.inBlock,Exit.then])
  exact bodyPost_ret (results_cell1 rfl _ _ w.heap.size _ _ rfl (set11 HK.1 _ _ _ _ _ _ _ _ _ _ _) Tryz.underlying78 rfl (by kernel_rfl)) rfl ⟨rfl,bel11 HD.1 (Nat.le_refl _) _ _ _ _ _ _ _ _ _ _ _⟩
 ·have hk:=((HKX.1.alloc (.cells (nu a1 b1 c1 d1 e1 f1 m1 s1 L1 ln1 lc1) 49)).alloc (.cells (nu a0 b0 c0 d0 e0 f0 m0 s L ln lc) 49)).drew
  have ka:=((Blk.new X 49 (nu a1 b1 c1 d1 e1 f1 m1 s1 L1 ln1 lc1)).alloc (.cells (nu a0 b0 c0 d0 e0 f0 m0 s L ln lc) 49)).drew
  have kb:=(Blk.new (X.alloc (.cells (nu a1 b1 c1 d1 e1 f1 m1 s1 L1 ln1 lc1) 49)) 49 (nu a0 b0 c0 d0 e0 f0 m0 s L ln lc)).drew
  rw [World.size_alloc] at kb
  have HD:=hide (((HX.1.alloc HX.1.size (.cells (nu a1 b1 c1 d1 e1 f1 m1 s1 L1 ln1 lc1) 49)).alloc (by have:=HX.1.size;simp;omega) (.cells (nu a0 b0 c0 d0 e0 f0 m0 s L ln lc) 49)).drew)
  clear x0 x1 x2 x3 x4 x5 x6 x7 x8 x9 y0 y1 y2 y3 y4 y5 y6 y7 y8 y9 Y0 Y1 Y2 Y3 Y4 Y5 Y6 Y7 Y8 Y9 Z0 Z1 Z2 Z3 Z4 Z5 Z6 Z7 Z8 Z9 W0 W1 W2 W3 W4 W5 W6 W7 W8 W9 U0 U1 U2 U3 U4 U5 U6 U7 U8 U9
  generalize ((X.alloc (.cells (nu a1 b1 c1 d1 e1 f1 m1 s1 L1 ln1 lc1) 49)).alloc (.cells (nu a0 b0 c0 d0 e0 f0 m0 s L ln lc) 49)).drew=D at *
  obtain ⟨⟨u0,u1,u2,u3,u4,u5,u6,u7,u8,u9,u10⟩,z0,z1,z2,z3,z4,z5,z6,z7,z8,z9,z10⟩:=cells11 hk
  have p1:=ka.cell 1
  have p2:=ka.cell 2
  have q1:=kb.cell 1
  have q2:=kb.cell 2
  have p1':D.cell? ⟨X.heap.size,1,none⟩=some (.int .i64 b1):=p1
  have p2':D.cell? ⟨X.heap.size,2,none⟩=some (.int .i64 c1):=p2
  have q1':D.cell? ⟨X.heap.size+1,1,none⟩=some (.int .i64 b0):=q1
  have q2':D.cell? ⟨X.heap.size+1,2,none⟩=some (.int .i64 c0):=q2
  have HK:=hide hk
  clear p1 p2 q1 q2 hk ka kb
  go_wp2_with fail
  (try simp only [Exit.inBlock,Exit.then])
  exact bodyPost_ret (results_cell1 rfl _ _ w.heap.size _ _ rfl (set11 HK.1 _ _ _ _ _ _ _ _ _ _ _) Tryz.underlying78 rfl (by kernel_rfl)) rfl ⟨rfl,bel11 HD.1 (Nat.le_refl _) _ _ _ _ _ _ _ _ _ _ _⟩
end
section
open Go.RowKit Mem
section
variable {P:Program}
theorem results_ctc {fn:Func} {p u x:Tmp} {ty ty2:TypeId} (h:fn.results=#[.cell p ty,.tmp u,.cell x ty2]) (tmps:Array Value) (w:World) (g g2:Nat) (cs cs2:Array Value) (d d2:TypeDesc) (v:Value)
  (hp:tmps.getD p undef=.pointer (some ⟨g,0,none⟩)) (hv:tmps.getD u undef=v) (hx:tmps.getD x undef=.pointer (some ⟨g2,0,none⟩)) (hg:Blk w g ty cs) (hg2:Blk w g2 ty2 cs2)
  (hu:P.underlying ty=some d) (hd:(match d with | .struct _ | .array _ _=>true | _=>false)=true) (hi:(P.info? ty).map (·.size)=some cs.size)
  (hu2:P.underlying ty2=some d2) (hd2:(match d2 with | .struct _ | .array _ _=>true | _=>false)=true) (hi2:(P.info? ty2).map (·.size)=some cs2.size) :
  (results fn tmps).run P w=.ok (.tuple #[.agg cs,v,.agg cs2]) w:=by
 have hp':tmps[p]?.getD undef=.pointer (some ⟨g,0,none⟩):=by simpa using hp
 have hv':tmps[u]?.getD undef=v:=by simpa using hv
 have hx':tmps[x]?.getD undef=.pointer (some ⟨g2,0,none⟩):=by simpa using hx
 simp [results,h,hp',hv',hx',asAddr,run_loadVar_row w g ty ty cs (0,0) d hg hu hd hi,run_loadVar_row w g2 ty2 ty2 cs2 (0,0) d2 hg2 hu2 hd2 hi2]
end
theorem build_pz (w:World):Sem.run Tryz.prog (Instr.build 78 #[]) w=.ok (.agg #[.int .i64 0,.int .i64 0,.int .i64 0,.int .i64 0,.int .i64 0,.int .i64 0,.int .i64 0,.string ⟨#[]⟩,.slice none 0 0,.slice none 0 0,.slice none 0 0]) w:=run_build w 78 _ _ (by kernel_rfl)
theorem build_fl (a b:Int) (w:World):Sem.run Tryz.prog (Instr.build 80 #[(0,.int .i64 a),(1,.int .i64 b)]) w=.ok (.agg #[.int .i64 a,.int .i64 b]) w:=run_build w 80 _ _ (by kernel_rfl)
theorem build_f0 (w:World):Sem.run Tryz.prog (Instr.build 80 #[]) w=.ok (.agg #[.int .i64 0,.int .i64 0]) w:=run_build w 80 _ _ (by kernel_rfl)
end
end Go.Proofs.YtmlbklcmblofkaaGreatDoor.Pa
