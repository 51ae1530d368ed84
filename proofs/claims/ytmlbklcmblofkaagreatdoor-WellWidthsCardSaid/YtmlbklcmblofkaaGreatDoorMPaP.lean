/-
  Parse, walked: what it gives is what the plain functions give.
-/
import Derived.Test.YtmlbklcmblofkaaGreatDoorMPaAlt
import Derived.Test.YtmlbklcmblofkaaGreatDoorMPaAlts
import Derived.Test.YtmlbklcmblofkaaGreatDoorMPaLay
set_option linter.unusedSimpArgs false
set_option linter.unusedVariables false
set_option maxHeartbeats 8000000
set_option maxRecDepth 100000
set_option autoImplicit false
namespace Go.Proofs.YtmlbklcmblofkaaGreatDoor.Pa
section
open Go Go.Proofs Sc
theorem nest_step {bs:List UInt8} {A:Option Addr} {cap:Nat} {w0:World} {rb nest:Nat} (inner:Option (St→Res Pt)) (hfw:∀ i,inner=some i→Fwd bs i) (hin:(nest=100∧inner=none)∨(nest<100∧∃ i,inner=some i))
  (CI:∀ i,inner=some i→∀ (s1:St) W nv1,Rd bs A cap w0 rb (nest+1) s1 nv1 W→Calls Tryz.prog 32 #[Value.pointer (some ⟨rb,0,none⟩)] W (GiveP bs A cap w0 rb (nest+1) nv1 W (i s1)))
  {st:St} {nv:Value} {w:World} (h:Rd bs A cap w0 rb nest st nv w) :
  Calls Tryz.prog 32 #[Value.pointer (some ⟨rb,0,none⟩)] w (GiveP bs A cap w0 rb nest nv w (altsP bs inner st)):=
 alternatives_any h inner hfw fun s W nv1 hr=>alternative_any hr inner hfw fun s2 W2 nv2 hr2 hl=>piece_any hr2 hl inner hin CI
theorem nest_any {bs:List UInt8} {A:Option Addr} {cap:Nat} {w0:World} {rb:Nat}:∀ (d:Nat) {nest:Nat} {st:St} {nv:Value} {w:World},nest+d=100→Rd bs A cap w0 rb nest st nv w →
  Calls Tryz.prog 32 #[Value.pointer (some ⟨rb,0,none⟩)] w (GiveP bs A cap w0 rb nest nv w (parN bs d st))
 | 0,nest,st,nv,w,hn,h=>nest_step none (fun i e=>by cases e) (.inl ⟨by omega,rfl⟩) (fun i e=>by cases e) h
 | d+1,nest,st,nv,w,hn,h=>nest_step (some (parN bs d)) (fun i e=>by injection e with e;subst e;exact parN_fwd bs d) (.inr ⟨by omega,_,rfl⟩) (fun i e s1 W nv1 hr=>by injection e with e;subst e;exact nest_any d (by omega) hr) h
end
section
open Go.RowKit Mem
open Sy (g)
open Sc (Gl)
open Rs (R)
open As (Nd)
attribute [local go_sem] build_pz build_fl build_f0
open As (str TreeV)
theorem build_rd (a:Option Addr) (n c:Nat) (b:Option Addr) (m d:Nat) (w:World):Sem.run Tryz.prog (Instr.build 75 #[(0,.slice a n c),(4,.slice b m d)]) w=.ok (.agg #[.slice a n c,.int .i64 0,.bool false,.bool false,.bool false,.bool false,.int .i64 0,.slice b m d]) w:=run_build w 75 _ _ (by kernel_rfl)
theorem build_tz (w:World):Sem.run Tryz.prog (Instr.build 25 #[]) w=.ok (.agg #[.slice none 0 0,.int .i64 0,.slice none 0 0]) w:=run_build w 25 _ _ (by kernel_rfl)
theorem build_tr (a:Option Addr) (k c:Nat) (n:Int) (b:Option Addr) (m d:Nat) (w:World):Sem.run Tryz.prog (Instr.build 25 #[(0,.slice a k c),(1,.int .i64 n),(2,.slice b m d)]) w=.ok (.agg #[.slice a k c,.int .i64 n,.slice b m d]) w:=run_build w 25 _ _ (by kernel_rfl)
attribute [local go_sem] build_rd build_tz build_tr
def ParsedG (bs:List UInt8) (w:World) (e:Ending) (w':World):Prop:=Below w.heap.size w w'∧match parseP bs with
 | .error (c,pl)=>c≠0∧e=.returned (.tuple #[.agg #[.slice none 0 0,.int .i64 0,.slice none 0 0],.int .i64 (c:Int),.int .i64 (pl:Int)])
 | .ok t=>∃ v,e=.returned (.tuple #[v,.int .i64 0,.int .i64 0])∧TreeV w' w'.heap.size t v
theorem cells3 {W:World} {g t:Nat} {a b c:Value} (h:Blk W g t #[a,b,c]):(W.cell? ⟨g,0,none⟩=some a∧W.cell? ⟨g,1,none⟩=some b∧W.cell? ⟨g,2,none⟩=some c)∧W.frozen? ⟨g,0,none⟩=false∧W.frozen? ⟨g,1,none⟩=false∧W.frozen? ⟨g,2,none⟩=false:=
 ⟨⟨h.cell 0,h.cell 1,h.cell 2⟩,h.frozen 0,h.frozen 1,h.frozen 2⟩
theorem fin_size (w9:World) (R:Nat) (a b c:Value):w9.heap.size≤(((w9.setCell ⟨R,0,none⟩ a).setCell ⟨R,1,none⟩ b).setCell ⟨R,2,none⟩ c).heap.size:=by simp [World.setCell]
theorem fin_keep (w9:World) (R:Nat) (a b c:Value):∀ k,k≠R→(((w9.setCell ⟨R,0,none⟩ a).setCell ⟨R,1,none⟩ b).setCell ⟨R,2,none⟩ c).heap[k]?=w9.heap[k]?:=fun k hk=>
 (Below.heap_setCell _ ⟨R,2,none⟩ _ k hk).trans ((Below.heap_setCell _ ⟨R,1,none⟩ _ k hk).trans (Below.heap_setCell _ ⟨R,0,none⟩ _ k hk))
theorem fin_tree {w9 YT:World} {R B XS nb n9:Nat} {v9 nv:Value} {xs9:List Value} {kb9:List (Option Nat)} {L:List Nd} {names:List (List UInt8)} {gr:Int} (hs:w9.heap.size≤YT.heap.size) (hk:∀ k,k≠R→YT.heap[k]?=w9.heap[k]?) (hR:R<XS) (hXB:XS≤B) (ho:w9.ownsRow B 49 10 v9 n9 xs9) (hN:NL (fun k=>k<B∧XS≤k) B w9 L xs9 kb9) (hn:L.length=n9) (hno:w9.ownsRow nb 9 1 nv names.length (names.map str)) (hng:nv.ownBlock≠some R):TreeV YT YT.heap.size ⟨L,gr,names⟩ (.agg #[v9,.int .i64 gr,nv]):=
 ⟨v9,nv,rfl,nodes_lie (own_keepN ho (fun k e _=>hk k (by have:=(own_lt ho e).1;omega))) (NL.keep (Q:=fun k=>k<B∧XS≤k) hs (fun k _ hP=>⟨hk k (by omega),hP⟩) (fun k hm=>hk k (by have:=NL.ge hN k hm;omega)) hN) hn,names_lie (own_keepN hno (fun k e _=>hk k (fun e2=>hng (by rw [e,e2]))))⟩
theorem parse_long (bs:List UInt8) (A:Option Addr) (cap:Nat) (w:World) (hl:4096<bs.length):Calls Tryz.prog 23 #[.slice A bs.length cap] w (ParsedG bs w):=by
 have HR:=hide (show parseP bs=.error (15,0) by unfold parseP;rw [if_pos hl])
 have h1:(4096:Int)<(bs.length:Int):=by omega
 have h2:decide ((4096:Int)<(bs.length:Int))=true:=decide_eq_true h1
 have HB:=hide (show Below w.heap.size w (w.alloc (.cells #[.slice none 0 0,.int .i64 0,.slice none 0 0] 25)) from (Below.refl _ w).alloc (Nat.le_refl _) _)
 have HK:=hide (Blk.new w 25 #[.slice none 0 0,.int .i64 0,.slice none 0 0])
 clear hl
 go_enter Tryz.func23,Tryz.ntmps23
 go_wp2_with fail
 (try simp only [Exit.inBlock,Exit.then])
 exact bodyPost_ret (Sc.results_cell3 rfl _ _ w.heap.size #[.slice none 0 0,.int .i64 0,.slice none 0 0] _ (.int .i64 15) (.int .i64 0) rfl rfl rfl HK.1 Tryz.underlying25 rfl (by kernel_rfl)) rfl (by unfold ParsedG;rw [HR.1];exact ⟨HB.1,by decide,rfl⟩)
theorem parse_short (bs:List UInt8) (A:Option Addr) (cap:Nat) (w:World) (hP:PVS bs A cap w) (hG:Gl w) (hl:bs.length≤4096):Calls Tryz.prog 23 #[.slice A bs.length cap] w (ParsedG bs w):=by
 have h1:¬ (4096:Int)<(bs.length:Int):=by omega
 have h2:decide ((4096:Int)<(bs.length:Int))=false:=decide_eq_false h1
 have hbx:Below w.heap.size w (((w.alloc (.cells #[.slice none 0 0,.int .i64 0,.slice none 0 0] 25)).alloc (.cells #[.string ⟨#[]⟩] 9)).alloc (.cells #[.slice A bs.length cap,.int .i64 0,.bool false,.bool false,.bool false,.bool false,.int .i64 0,(.slice (some ⟨w.heap.size+1,0,none⟩) 1 1)] 75)):=(((Below.refl _ w).alloc (Nat.le_refl _) _).alloc (by simp) _).alloc (by simp;omega) _
 have HB:=hide hbx
 have HKT:=hide (((Blk.new w 25 #[.slice none 0 0,.int .i64 0,.slice none 0 0]).alloc (.cells #[.string ⟨#[]⟩] 9)).alloc (.cells #[.slice A bs.length cap,.int .i64 0,.bool false,.bool false,.bool false,.bool false,.int .i64 0,(.slice (some ⟨w.heap.size+1,0,none⟩) 1 1)] 75))
 have hnb:Blk (((w.alloc (.cells #[.slice none 0 0,.int .i64 0,.slice none 0 0] 25)).alloc (.cells #[.string ⟨#[]⟩] 9)).alloc (.cells #[.slice A bs.length cap,.int .i64 0,.bool false,.bool false,.bool false,.bool false,.int .i64 0,(.slice (some ⟨w.heap.size+1,0,none⟩) 1 1)] 75)) (w.heap.size+1) 9 #[.string ⟨#[]⟩]:=(blk_at (W:=w.alloc (.cells #[.slice none 0 0,.int .i64 0,.slice none 0 0] 25)) (g:=w.heap.size+1) (t:=9) (cs:=#[.string ⟨#[]⟩]) (by simp)).alloc _
 have hrb:Blk (((w.alloc (.cells #[.slice none 0 0,.int .i64 0,.slice none 0 0] 25)).alloc (.cells #[.string ⟨#[]⟩] 9)).alloc (.cells #[.slice A bs.length cap,.int .i64 0,.bool false,.bool false,.bool false,.bool false,.int .i64 0,(.slice (some ⟨w.heap.size+1,0,none⟩) 1 1)] 75)) (w.heap.size+1+1) 75 #[.slice A bs.length cap,.int .i64 0,.bool false,.bool false,.bool false,.bool false,.int .i64 0,(.slice (some ⟨w.heap.size+1,0,none⟩) 1 1)]:=blk_at (W:=(w.alloc (.cells #[.slice none 0 0,.int .i64 0,.slice none 0 0] 25)).alloc (.cells #[.string ⟨#[]⟩] 9)) (g:=w.heap.size+1+1) (by simp)
 have HR:=hide (show Rd bs A cap w (w.heap.size+1+1) 0 ⟨0,⟨false,false,false,false⟩,[[]]⟩ (.slice (some ⟨w.heap.size+1,0,none⟩) 1 1) (((w.alloc (.cells #[.slice none 0 0,.int .i64 0,.slice none 0 0] 25)).alloc (.cells #[.string ⟨#[]⟩] 9)).alloc (.cells #[.slice A bs.length cap,.int .i64 0,.bool false,.bool false,.bool false,.bool false,.int .i64 0,(.slice (some ⟨w.heap.size+1,0,none⟩) 1 1)] 75)) from ⟨hrb,hbx,by omega,hP,hG,Nat.zero_le _,hl,by omega,⟨by simp,by simp⟩,⟨rfl,.inr ⟨w.heap.size+1,1,#[.string ⟨#[]⟩],rfl,by omega,hnb,Nat.le_refl _,by unfold maxLen;omega,rfl,rfl⟩⟩⟩)
 have HXS:=hide (show (((w.alloc (.cells #[.slice none 0 0,.int .i64 0,.slice none 0 0] 25)).alloc (.cells #[.string ⟨#[]⟩] 9)).alloc (.cells #[.slice A bs.length cap,.int .i64 0,.bool false,.bool false,.bool false,.bool false,.int .i64 0,(.slice (some ⟨w.heap.size+1,0,none⟩) 1 1)] 75)).heap.size=w.heap.size+3 by simp)
 have HL:=hide hl
 have hrl:bs.length≤4096:=hl
 clear hbx hnb hrb hP hG hl
 go_enter Tryz.func23,Tryz.ntmps23
 go_wp2_with fail
 generalize (((w.alloc (.cells #[.slice none 0 0,.int .i64 0,.slice none 0 0] 25)).alloc (.cells #[.string ⟨#[]⟩] 9)).alloc (.cells #[.slice A bs.length cap,.int .i64 0,.bool false,.bool false,.bool false,.bool false,.int .i64 0,(.slice (some ⟨w.heap.size+1,0,none⟩) 1 1)] 75))=X at *
 refine (nest_any 100 (by rfl) HR.1).mono ?_
 rintro e W6 hG
 obtain ⟨u0,u1,u2,u3,u4,u5,u6,s1,L,ln,lc,K,kn,kc,fe,fp,st6,nv6,rfl,hL6,hor⟩:=hG.formF
 have hxs:=HXS.1
 have h6:=hL6.turn.size
 have HKT6:=hide ((Left.blk HR.1 hL6 HKT.1 (by decide) (by omega)))
 have hB6:Below w.heap.size w W6:=hL6.rd.base
 have HBY:=hide (((hB6.alloc hB6.size (.cells (pu u0 u1 u2 u3 u4 u5 u6 s1 L ln lc K kn kc) 78)).alloc (by have:=hB6.size;simp;omega) (.cells #[.int .i64 (fe:Int),.int .i64 (fp:Int)] 80)))
 have hby:Below W6.heap.size W6 ((W6.alloc (.cells (pu u0 u1 u2 u3 u4 u5 u6 s1 L ln lc K kn kc) 78)).alloc (.cells #[.int .i64 (fe:Int),.int .i64 (fp:Int)] 80)):=(((Below.refl _ W6).alloc (Nat.le_refl _) _).alloc (by simp) _)
 have HRY:=hide (hL6.rd.below hby)
 have HKTY:=hide ((HKT6.1.alloc (.cells (pu u0 u1 u2 u3 u4 u5 u6 s1 L ln lc K kn kc) 78)).alloc (.cells #[.int .i64 (fe:Int),.int .i64 (fp:Int)] 80))
 have HKPY:=hide ((Blk.new W6 78 (pu u0 u1 u2 u3 u4 u5 u6 s1 L ln lc K kn kc)).alloc (.cells #[.int .i64 (fe:Int),.int .i64 (fp:Int)] 80))
 have hkf:Blk ((W6.alloc (.cells (pu u0 u1 u2 u3 u4 u5 u6 s1 L ln lc K kn kc) 78)).alloc (.cells #[.int .i64 (fe:Int),.int .i64 (fp:Int)] 80)) (W6.heap.size+1) 80 #[.int .i64 (fe:Int),.int .i64 (fp:Int)]:=blk_at (W:=W6.alloc (.cells (pu u0 u1 u2 u3 u4 u5 u6 s1 L ln lc K kn kc) 78)) (g:=W6.heap.size+1) (by simp)
 have HKFY:=hide hkf
 have HPY:=hide (show ∀ x,PtV (Ok X.heap.size nv6) W6 x (.agg #[.int .i64 u0,.int .i64 u1,.int .i64 u2,.int .i64 u3,.int .i64 u4,.int .i64 u5,.int .i64 u6,.string ⟨s1.toArray⟩,.slice L ln lc,.slice none 0 0,.slice K kn kc])→PtV (Ok X.heap.size nv6) ((W6.alloc (.cells (pu u0 u1 u2 u3 u4 u5 u6 s1 L ln lc K kn kc) 78)).alloc (.cells #[.int .i64 (fe:Int),.int .i64 (fp:Int)] 80)) x (.agg #[.int .i64 u0,.int .i64 u1,.int .i64 u2,.int .i64 u3,.int .i64 u4,.int .i64 u5,.int .i64 u6,.string ⟨s1.toArray⟩,.slice L ln lc,.slice none 0 0,.slice K kn kc]) from fun x hp=>hp.below hby)
 have HOR:=hide hor
 have HKPT:=hide (show True∧Blk ((W6.alloc (.cells (pu u0 u1 u2 u3 u4 u5 u6 s1 L ln lc K kn kc) 78)).alloc (.cells #[.int .i64 30,.int .i64 (st6.pos:Int)] 80)) w.heap.size 25 #[.slice none 0 0,.int .i64 0,.slice none 0 0]∧Below w.heap.size w ((W6.alloc (.cells (pu u0 u1 u2 u3 u4 u5 u6 s1 L ln lc K kn kc) 78)).alloc (.cells #[.int .i64 30,.int .i64 (st6.pos:Int)] 80)) from ⟨trivial,(HKT6.1.alloc (.cells (pu u0 u1 u2 u3 u4 u5 u6 s1 L ln lc K kn kc) 78)).alloc (.cells #[.int .i64 30,.int .i64 (st6.pos:Int)] 80),(hB6.alloc hB6.size (.cells (pu u0 u1 u2 u3 u4 u5 u6 s1 L ln lc K kn kc) 78)).alloc (by have:=hB6.size;simp;omega) (.cells #[.int .i64 30,.int .i64 (st6.pos:Int)] 80)⟩)
 obtain ⟨⟨f0,f1⟩,f2,f3⟩:=cells2 hkf
 have y1:=(HRY.1.blk.cell 1).trans (show _=some (Value.int .i64 (st6.pos:Int)) from rfl)
 have HW6:=hide h6
 clear hG hL6 hor hby hkf hB6 HR HKT HKT6 HB
 rcases HOR.1 with ⟨hfe,hfp,x,hx,hp⟩|⟨hfe,hx⟩
 ·have hpp:=hide (HPY.1 x hp)
  have e0:((fe:Int)==0)=true:=by rw [hfe];rfl
  have e1:((fe:Int) != 0)=false:=by rw [hfe];rfl
  have HX:=hide hx
  clear HPY HOR hp hfe hfp hx
  by_cases hlt:st6.pos<bs.length
  ·have HRS:=hide (show parseP bs=.error (30,st6.pos) from by unfold parseP;rw [if_neg (by have:=HL.1;omega),HX.1];simp only [];rw [if_pos hlt])
   have hlt2:(st6.pos:Int)<(bs.length:Int):=by omega
   have hdl:decide ((st6.pos:Int)<(bs.length:Int))=true:=decide_eq_true hlt2
   have hkt2:Blk ((W6.alloc (.cells (pu u0 u1 u2 u3 u4 u5 u6 s1 L ln lc K kn kc) 78)).alloc (.cells #[.int .i64 30,.int .i64 (st6.pos:Int)] 80)) w.heap.size 25 #[.slice none 0 0,.int .i64 0,.slice none 0 0]:=HKPT.1.2.1
   have hkf2:Blk ((W6.alloc (.cells (pu u0 u1 u2 u3 u4 u5 u6 s1 L ln lc K kn kc) 78)).alloc (.cells #[.int .i64 30,.int .i64 (st6.pos:Int)] 80)) (W6.heap.size+1) 80 #[.int .i64 30,.int .i64 (st6.pos:Int)]:=blk_at (W:=W6.alloc (.cells (pu u0 u1 u2 u3 u4 u5 u6 s1 L ln lc K kn kc) 78)) (g:=W6.heap.size+1) (by simp)
   have hb2:Below w.heap.size w ((W6.alloc (.cells (pu u0 u1 u2 u3 u4 u5 u6 s1 L ln lc K kn kc) 78)).alloc (.cells #[.int .i64 30,.int .i64 (st6.pos:Int)] 80)):=HKPT.1.2.2
   obtain ⟨⟨k0,k1⟩,-⟩:=cells2 hkf2
   clear HX hlt hpp
   have hwne:W6.heap.size+1≠w.heap.size:=by have:=HW6.1;have:=HXS.1;omega
   obtain ⟨⟨a0,a1,a2⟩,b0,b1,b2⟩:=cells3 hkt2
   have hkfs:Blk (((((W6.alloc (.cells (pu u0 u1 u2 u3 u4 u5 u6 s1 L ln lc K kn kc) 78)).alloc (.cells #[.int .i64 30,.int .i64 (st6.pos:Int)] 80)).setCell ⟨w.heap.size,0,none⟩ (.slice none 0 0)).setCell ⟨w.heap.size,1,none⟩ (.int .i64 0)).setCell ⟨w.heap.size,2,none⟩ (.slice none 0 0)) (W6.heap.size+1) 80 #[.int .i64 30,.int .i64 (st6.pos:Int)]:=(((hkf2.far (p:=⟨w.heap.size,0,none⟩) hwne (.slice none 0 0)).far (p:=⟨w.heap.size,1,none⟩) hwne (.int .i64 0)).far (p:=⟨w.heap.size,2,none⟩) hwne (.slice none 0 0))
   obtain ⟨⟨g0,g1⟩,g2,g3⟩:=cells2 hkfs
   have HKS:=hide (show Blk (((((W6.alloc (.cells (pu u0 u1 u2 u3 u4 u5 u6 s1 L ln lc K kn kc) 78)).alloc (.cells #[.int .i64 30,.int .i64 (st6.pos:Int)] 80)).setCell ⟨w.heap.size,0,none⟩ (.slice none 0 0)).setCell ⟨w.heap.size,1,none⟩ (.int .i64 0)).setCell ⟨w.heap.size,2,none⟩ (.slice none 0 0)) w.heap.size 25 #[.slice none 0 0,.int .i64 0,.slice none 0 0] from ((hkt2.set_ 0 _).set_ 1 _).set_ 2 _)
   have HBS:=hide (show Below w.heap.size w (((((W6.alloc (.cells (pu u0 u1 u2 u3 u4 u5 u6 s1 L ln lc K kn kc) 78)).alloc (.cells #[.int .i64 30,.int .i64 (st6.pos:Int)] 80)).setCell ⟨w.heap.size,0,none⟩ (.slice none 0 0)).setCell ⟨w.heap.size,1,none⟩ (.int .i64 0)).setCell ⟨w.heap.size,2,none⟩ (.slice none 0 0)) from ((hb2.setCell (p:=⟨w.heap.size,0,none⟩) (Nat.le_refl _) _).setCell (p:=⟨w.heap.size,1,none⟩) (Nat.le_refl _) _).setCell (p:=⟨w.heap.size,2,none⟩) (Nat.le_refl _) _)
   clear hkfs hwne hkt2 hkf2 hb2
   go_wp2_with fail
   go_region
   all_goals
    go_wp2_with fail
    (try simp only [Exit.inBlock,Exit.then])
    exact bodyPost_ret (Sc.results_cell3 rfl _ _ w.heap.size #[.slice none 0 0,.int .i64 0,.slice none 0 0] _ (.int .i64 30) (.int .i64 (st6.pos:Int)) rfl rfl rfl HKS.1.drew Tryz.underlying25 rfl (by kernel_rfl)) rfl (by unfold ParsedG;rw [HRS.1];exact ⟨HBS.1.drew,by decide,rfl⟩)
  ·have HRS:=hide (show parseP bs=.ok ⟨layF st6.names (.one x) 0,(st6.names.length:Int)-1,st6.names⟩ from by unfold parseP;rw [if_neg (by have:=HL.1;omega),HX.1];simp only [];rw [if_neg hlt])
   have hsz:=parN_sz bs 100 _ _ _ (Nat.zero_le _) HX.1
   simp only [] at hsz
   have hrd:=HRY.1
   have hps:st6.pos≤bs.length:=hrd.pos
   have hlt2:¬ (st6.pos:Int)<(bs.length:Int):=by omega
   have hdl:decide ((st6.pos:Int)<(bs.length:Int))=false:=decide_eq_false hlt2
   obtain ⟨gn,cn,hnv,-⟩:=hrd.cells
   subst hnv
   have hmy:=hrd.many
   have y7:=(hrd.blk.cell 7).trans (show _=some (Value.slice (some ⟨gn,0,none⟩) st6.names.length cn) from rfl)
   have hwr:IntKind.i64.wrap ((st6.names.length:Int)-1)=(st6.names.length:Int)-1:=Rs.wrap_id _ (by omega) (by omega)
   have hgn:=own_lt hrd.own (k:=gn) rfl
   have hgt:gn≠w.heap.size:=fun e=>own_blk_ne hrd.own HKTY.1 (by decide) (by rw [← e];rfl)
   have hYs:=HBY.1.size
   have hxs:=HXS.1
   have h6:=HW6.1
   have hYX:X.heap.size≤((W6.alloc (.cells (pu u0 u1 u2 u3 u4 u5 u6 s1 L ln lc K kn kc) 78)).alloc (.cells #[.int .i64 (fe:Int),.int .i64 (fp:Int)] 80)).heap.size:=by simp;omega
   have HLAY:=hide (fun W (hb:Below ((W6.alloc (.cells (pu u0 u1 u2 u3 u4 u5 u6 s1 L ln lc K kn kc) 78)).alloc (.cells #[.int .i64 (fe:Int),.int .i64 (fp:Int)] 80)).heap.size ((W6.alloc (.cells (pu u0 u1 u2 u3 u4 u5 u6 s1 L ln lc K kn kc) 78)).alloc (.cells #[.int .i64 (fe:Int),.int .i64 (fp:Int)] 80)) W)=>lay_all (bs:=bs) (A:=A) (cap:=cap) (w0:=w) (rb:=w.heap.size+1+1) (nest:=0) (st:=st6) (nv:=.slice (some ⟨gn,0,none⟩) st6.names.length cn) (P:=fun k=>k<((W6.alloc (.cells (pu u0 u1 u2 u3 u4 u5 u6 s1 L ln lc K kn kc) 78)).alloc (.cells #[.int .i64 (fe:Int),.int .i64 (fp:Int)] 80)).heap.size∧X.heap.size≤k) (base:=((W6.alloc (.cells (pu u0 u1 u2 u3 u4 u5 u6 s1 L ln lc K kn kc) 78)).alloc (.cells #[.int .i64 (fe:Int),.int .i64 (fp:Int)] 80)).heap.size) (by omega) (fun k e=>(own_lt hrd.own e).2) (fun k hk=>hk.1) (1+x.kids.size) x (Nat.le_refl _) W (.agg #[.int .i64 u0,.int .i64 u1,.int .i64 u2,.int .i64 u3,.int .i64 u4,.int .i64 u5,.int .i64 u6,.string ⟨s1.toArray⟩,.slice L ln lc,.slice none 0 0,.slice K kn kc]) [] 0 (.slice none 0 0) [] [] rfl (hrd.below hb) hb.size (hpp.1.keep hb.size (fun k hk hp=>⟨hb.block k hk,hk,hp.1⟩)) ⟨rfl,.inl ⟨rfl,rfl⟩⟩ ⟨rfl,rfl⟩ (fun i j k hi _=>by simp at hi) (by omega))
   have HRD:=hide hrd
   clear HX hlt hpp hsz hmy hrd hps HRY
   go_wp2_with fail
   go_region_with (go_at_call 33;refine (HLAY.1 _ ?_).mono ?_;first|exact Below.refl _ _|exact (Below.refl _ _).drew;rintro e w9 ⟨v9,xs9,kb9,rfl,ho9,hN9,hd9,hk9⟩;rw [Nat.zero_add] at ho9;obtain ⟨g9,c9,hv9,hg9,hg9b,-,-,-⟩:=own_cellsG ho9 (by omega);subst hv9;have hb9:=hk9.below (base:=((W6.alloc (.cells (pu u0 u1 u2 u3 u4 u5 u6 s1 L ln lc K kn kc) 78)).alloc (.cells #[.int .i64 (fe:Int),.int .i64 (fp:Int)] 80)).heap.size) (fun k e=>by cases e) (fun k e=>by cases e) (by first|exact Nat.le_refl _|simp);have y79:=(hb9.cell (p:=⟨w.heap.size+1+1,7,none⟩) (show w.heap.size+1+1<_ by omega)).trans y7;have hkt9:Blk w9 w.heap.size 25 #[.slice none 0 0,.int .i64 0,.slice none 0 0]:=(hb9.block w.heap.size (by omega)).trans HKTY.1;obtain ⟨⟨a0,a1,a2⟩,b0,b1,b2⟩:=cells3 hkt9;have hby9:Below w.heap.size w w9:=(by first|exact HBY.1.trans (hb9.mono HBY.1.size)|exact HBY.1.drew.trans (hb9.mono HBY.1.size));have HBT:=hide (show Below w.heap.size w (((w9.setCell ⟨w.heap.size,0,none⟩ (.slice (some ⟨g9,0,none⟩) (1+x.kids.size) c9)).setCell ⟨w.heap.size,1,none⟩ (.int .i64 ((st6.names.length:Int)-1))).setCell ⟨w.heap.size,2,none⟩ (.slice (some ⟨gn,0,none⟩) st6.names.length cn)) from ((hby9.setCell (p:=⟨w.heap.size,0,none⟩) (Nat.le_refl _) _).setCell (p:=⟨w.heap.size,1,none⟩) (Nat.le_refl _) _).setCell (p:=⟨w.heap.size,2,none⟩) (Nat.le_refl _) _);have HKT9:=hide (show Blk (((w9.setCell ⟨w.heap.size,0,none⟩ (.slice (some ⟨g9,0,none⟩) (1+x.kids.size) c9)).setCell ⟨w.heap.size,1,none⟩ (.int .i64 ((st6.names.length:Int)-1))).setCell ⟨w.heap.size,2,none⟩ (.slice (some ⟨gn,0,none⟩) st6.names.length cn)) w.heap.size 25 #[.slice (some ⟨g9,0,none⟩) (1+x.kids.size) c9,.int .i64 ((st6.names.length:Int)-1),.slice (some ⟨gn,0,none⟩) st6.names.length cn] from ((hkt9.set_ 0 _).set_ 1 _).set_ 2 _);have HFT:=hide (show TreeV (((w9.setCell ⟨w.heap.size,0,none⟩ (.slice (some ⟨g9,0,none⟩) (1+x.kids.size) c9)).setCell ⟨w.heap.size,1,none⟩ (.int .i64 ((st6.names.length:Int)-1))).setCell ⟨w.heap.size,2,none⟩ (.slice (some ⟨gn,0,none⟩) st6.names.length cn)) (((w9.setCell ⟨w.heap.size,0,none⟩ (.slice (some ⟨g9,0,none⟩) (1+x.kids.size) c9)).setCell ⟨w.heap.size,1,none⟩ (.int .i64 ((st6.names.length:Int)-1))).setCell ⟨w.heap.size,2,none⟩ (.slice (some ⟨gn,0,none⟩) st6.names.length cn)).heap.size ⟨layF st6.names (.one x) 0,(st6.names.length:Int)-1,st6.names⟩ (.agg #[.slice (some ⟨g9,0,none⟩) (1+x.kids.size) c9,.int .i64 ((st6.names.length:Int)-1),.slice (some ⟨gn,0,none⟩) st6.names.length cn]) from fin_tree (R:=w.heap.size) (B:=((W6.alloc (.cells (pu u0 u1 u2 u3 u4 u5 u6 s1 L ln lc K kn kc) 78)).alloc (.cells #[.int .i64 (fe:Int),.int .i64 (fp:Int)] 80)).heap.size) (XS:=X.heap.size) (fin_size w9 _ _ _ _) (fin_keep w9 _ _ _ _) (by omega) hYX ho9 hN9 (by rw [layF_len];rfl) (own_keepN HRD.1.own (fun k e _=>hb9.block k (own_lt HRD.1.own e).2)) (fun e=>hgt (Option.some.inj e)));clear ho9 hN9 hd9 hk9 hb9 hkt9 hby9)
   all_goals
    go_wp2_with fail
    (try simp only [Exit.inBlock,Exit.then])
    exact bodyPost_ret (Sc.results_cell3 rfl _ _ w.heap.size #[.slice (some ⟨g9,0,none⟩) (1+x.kids.size) c9,.int .i64 ((st6.names.length:Int)-1),.slice (some ⟨gn,0,none⟩) st6.names.length cn] _ (.int .i64 0) (.int .i64 0) rfl rfl rfl HKT9.1 Tryz.underlying25 rfl (by kernel_rfl)) rfl (by unfold ParsedG;rw [HRS.1];exact ⟨HBT.1,_,rfl,HFT.1⟩)
 ·have e0:((fe:Int)==0)=false:=by rw [beq_eq_false_iff_ne];omega
  have e1:((fe:Int) != 0)=true:=by rw [bne_iff_ne];omega
  have HRS:=hide (show parseP bs=.error (fe,fp) from by unfold parseP;rw [if_neg (by have:=HL.1;omega),hx])
  have HNE:=hide hfe
  clear HPY HOR hx hfe
  have hwne:W6.heap.size+1≠w.heap.size:=by have:=HW6.1;have:=HXS.1;omega
  obtain ⟨⟨a0,a1,a2⟩,b0,b1,b2⟩:=cells3 HKTY.1
  have hkfs:Blk (((((W6.alloc (.cells (pu u0 u1 u2 u3 u4 u5 u6 s1 L ln lc K kn kc) 78)).alloc (.cells #[.int .i64 (fe:Int),.int .i64 (fp:Int)] 80)).setCell ⟨w.heap.size,0,none⟩ (.slice none 0 0)).setCell ⟨w.heap.size,1,none⟩ (.int .i64 0)).setCell ⟨w.heap.size,2,none⟩ (.slice none 0 0)) (W6.heap.size+1) 80 #[.int .i64 (fe:Int),.int .i64 (fp:Int)]:=(((HKFY.1.far (p:=⟨w.heap.size,0,none⟩) hwne (.slice none 0 0)).far (p:=⟨w.heap.size,1,none⟩) hwne (.int .i64 0)).far (p:=⟨w.heap.size,2,none⟩) hwne (.slice none 0 0))
  obtain ⟨⟨g0,g1⟩,g2,g3⟩:=cells2 hkfs
  have HKS:=hide (show Blk (((((W6.alloc (.cells (pu u0 u1 u2 u3 u4 u5 u6 s1 L ln lc K kn kc) 78)).alloc (.cells #[.int .i64 (fe:Int),.int .i64 (fp:Int)] 80)).setCell ⟨w.heap.size,0,none⟩ (.slice none 0 0)).setCell ⟨w.heap.size,1,none⟩ (.int .i64 0)).setCell ⟨w.heap.size,2,none⟩ (.slice none 0 0)) w.heap.size 25 #[.slice none 0 0,.int .i64 0,.slice none 0 0] from ((HKTY.1.set_ 0 _).set_ 1 _).set_ 2 _)
  have HBS:=hide (show Below w.heap.size w (((((W6.alloc (.cells (pu u0 u1 u2 u3 u4 u5 u6 s1 L ln lc K kn kc) 78)).alloc (.cells #[.int .i64 (fe:Int),.int .i64 (fp:Int)] 80)).setCell ⟨w.heap.size,0,none⟩ (.slice none 0 0)).setCell ⟨w.heap.size,1,none⟩ (.int .i64 0)).setCell ⟨w.heap.size,2,none⟩ (.slice none 0 0)) from ((HBY.1.setCell (p:=⟨w.heap.size,0,none⟩) (Nat.le_refl _) _).setCell (p:=⟨w.heap.size,1,none⟩) (Nat.le_refl _) _).setCell (p:=⟨w.heap.size,2,none⟩) (Nat.le_refl _) _)
  clear hkfs hwne
  go_wp2_with fail
  go_region
  all_goals
   go_wp2_with fail
   (try simp only [Exit.inBlock,Exit.then])
   exact bodyPost_ret (Sc.results_cell3 rfl _ _ w.heap.size #[.slice none 0 0,.int .i64 0,.slice none 0 0] _ (.int .i64 (fe:Int)) (.int .i64 (fp:Int)) rfl rfl rfl HKS.1.drew Tryz.underlying25 rfl (by kernel_rfl)) rfl (by unfold ParsedG;rw [HRS.1];exact ⟨HBS.1.drew,HNE.1,rfl⟩)
theorem parse_any (bs:List UInt8) (A:Option Addr) (cap:Nat) (w:World) (hP:PVS bs A cap w) (hG:Gl w):Calls Tryz.prog 23 #[.slice A bs.length cap] w (ParsedG bs w):=by
 rcases Nat.lt_or_ge 4096 bs.length with h|h
 ·exact parse_long bs A cap w h
 ·exact parse_short bs A cap w hP hG h
end
end Go.Proofs.YtmlbklcmblofkaaGreatDoor.Pa
