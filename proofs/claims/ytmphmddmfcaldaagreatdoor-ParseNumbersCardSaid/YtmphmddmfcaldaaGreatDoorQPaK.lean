/-
  The anchor of the laws on patterns, walked: true.
-/
import Derived.Test.YtmphmddmfcaldaaGreatDoorQPaP
set_option linter.unusedSimpArgs false
set_option linter.unusedVariables false
set_option maxHeartbeats 8000000
set_option maxRecDepth 100000
namespace Go.Proofs.YtmphmddmfcaldaaGreatDoor.Pa
section
open Sy (g)
open Sc (cntP)
variable {bs:List UInt8} {k:Nat}
def flZ:Fl:=⟨false,false,false,false⟩
theorem skip_z {st:St} (h:st.fl.x=false):skipP bs st=st:=by unfold skipP;rw [h];rfl
theorem cnt_no (h1:g bs k≠42) (h2:g bs k≠43) (h3:g bs k≠63) (h4:g bs k≠123):cntP bs k=⟨0,0,0,0,false,0⟩:=by
 unfold cntP Sc.countsP
 rw [if_neg h1,if_neg h2,if_neg h3,if_neg h4]
theorem end_yes (h:bs.length≤k∨g bs k=124∨g bs k=41):endB bs k=true:=by
 unfold endB stA stA
 rcases h with h|h|h
 ·rw [decide_eq_true h];rfl
 ·rw [h];simp
 ·rw [h];simp
theorem end_not (h:k<bs.length) (h1:g bs k≠124) (h2:g bs k≠41):endB bs k=false:=by
 unfold endB stA stA
 simp [h,h1,h2]
theorem alts_one {inner:Option (St→Res Pt)} (hi:∀ i,inner=some i→Fwd bs i) {st st2:St} {x:Pt} (hx:st.fl.x=false) (hp:st.pos≤bs.length) (he:endB bs st.pos=false) (h:pieceP bs inner st=.ok (x,st2)) (hk:x.nd.kind≠0) (hx2:st2.fl.x=false) (he2:endB bs st2.pos=true) (hb:stA bs st2.pos [124]=false) :
  altsP bs inner st=.ok (x,st2):=by
 have ha:altP bs inner st=.ok (x,st2):=by
  unfold altP
  have hs:=skip_z (bs:=bs) hx
  rw [alt_step hi hp (by rw [hs];exact he) (by rw [hs];exact h),if_neg hk,alt_end (by rw [skip_z hx2];exact he2),skip_z hx2]
  rfl
 unfold altsP
 rw [ha]
 simp only []
 rw [alts_end hb]
 rfl
theorem piece_plain {inner:Option (St→Res Pt)} {st st2:St} {x:Pt} {may:Bool} (h1:cntP bs st.pos=⟨0,0,0,0,false,0⟩) (h:atomP bs inner st=.ok ((x,may),st2)) (hx2:st2.fl.x=false) (h2:cntP bs st2.pos=⟨0,0,0,0,false,0⟩):pieceP bs inner st=.ok (x,st2):=by
 unfold pieceP
 rw [h1,if_neg (by simp),if_neg (by simp),h]
 simp only []
 cases may with
 | false=>rfl
 | true=>
  rw [if_pos rfl]
  unfold quantP
  rw [skip_z hx2,h2,if_neg (by simp),if_pos rfl]
theorem lay_one (names:List (List UInt8)) (x:Pt) (i:Nat):layF names (.one x) i={ fixN names x.nd with kids:=x.kids.idx (i+1) } :: layF names x.kids (i+1):=by
 show { fixN names x.nd with kids:=x.kids.idx (i+1) } :: (layF names x.kids (i+1)++layF names .nil (i+1+x.kids.size))=_
 rw [show layF names .nil (i+1+x.kids.size)=[] from rfl,List.append_nil]
end
section
open Sy (g)
open Rs (Least)
open Sc (Ct cntP sym g_in)
open Fo (closeL orb)
theorem closeK:closeL [(75,75)]=[(75,75),(107,107),(8490,8490)]:=by
 have h107:=Fo.anchor_orb
 have h75:(75:Int)∈orb 107:=by rw [h107];simp
 have e75:orb 75=[75,107,8490]:=(Fo.orb_shared h75).trans h107
 refine Rs.least_unique (p:=-2) (by omega) (Fo.close_least _) (show Least [(75,75),(107,107),(8490,8490)] by decide) (fun x=>?_)
 rw [Bool.eq_iff_iff,Fo.close_has]
 constructor
 ·rintro ⟨y,hy,h⟩
  have hy75:y=75:=by
   obtain ⟨r,hr,h2⟩:=Fo.hasL_iff.1 h
   rw [List.mem_singleton] at hr
   subst hr
   have:=Fo.inR_iff.1 h2
   omega
  subst hy75
  have hx:=Fo.orb_symm hy
  rw [e75] at hx
  simp only [List.mem_cons,List.not_mem_nil,or_false] at hx
  rcases hx with rfl|rfl|rfl<;>decide
 ·intro h
  have hx:x∈orb 75:=by
   rw [e75]
   obtain ⟨r,hr,h2⟩:=Fo.hasL_iff.1 h
   have h3:=Fo.inR_iff.1 h2
   simp only [List.mem_cons,List.not_mem_nil,or_false] at hr ⊢
   rcases hr with rfl|rfl|rfl<;>simp only [] at h3<;>omega
  exact ⟨75,Fo.orb_symm hx,by decide⟩
theorem sym_one {bs:List UInt8} {k:Nat} (h:k<bs.length) (h2:g bs k<128):sym bs k=(g bs k,1):=Sc.sym_low h h2
theorem letter_piece {bs:List UInt8} {inner:Option (St→Res Pt)} {k c:Nat} {names:List (List UInt8)} (hg:g bs k=c) (h1:96<c) (h2:c<123) (hc:cntP bs (k+1)=⟨0,0,0,0,false,0⟩) :
  pieceP bs inner ⟨k,flZ,names⟩=.ok (⟨{ nd0 with kind:=2,set:=[((c:Int),(c:Int))],from_:=(k:Int),to_:=((k+1:Nat):Int) },.nil⟩,⟨k+1,flZ,names⟩):=by
 have hl:k<bs.length:=g_in (by omega)
 refine piece_plain (cnt_no (by show g _ k≠_;omega) (by show g _ k≠_;omega) (by show g _ k≠_;omega) (by show g _ k≠_;omega)) (may:=true) ?_ rfl hc
 unfold atomP
 simp only [hg]
 rw [if_neg (by omega),if_neg (by omega),if_neg (by omega),if_neg (by omega),if_neg (by omega),if_neg (by omega),sym_one hl (by omega),hg]
 rfl
def exA:List UInt8:=[97,124,40,98,41,42,43]
def leafA (c k:Nat):Pt:=⟨{ nd0 with kind:=2,set:=[((c:Int),(c:Int))],from_:=(k:Int),to_:=((k+1:Nat):Int) },.nil⟩
def grpA:Pt:=⟨{ nd0 with kind:=7,num:=1,from_:=2,to_:=5 },.one (leafA 98 3)⟩
def ctA:Ct:=⟨0,-1,2,7,true,0⟩
theorem exA_b (d:Nat):parN exA d ⟨3,flZ,[[],[]]⟩=.ok (leafA 98 3,⟨4,flZ,[[],[]]⟩):=by
 have key:∀ inner:Option (St→Res Pt),(∀ i,inner=some i→Fwd exA i)→altsP exA inner ⟨3,flZ,[[],[]]⟩=.ok (leafA 98 3,⟨4,flZ,[[],[]]⟩):=fun inner hi=>
  alts_one hi rfl (by decide) (end_not (by decide) (by decide) (by decide)) (letter_piece (c:=98) (k:=3) rfl (by decide) (by decide) (cnt_no (by decide) (by decide) (by decide) (by decide))) (by decide) rfl (end_yes (.inr (.inr rfl))) rfl
 cases d with
 | zero=>exact key none (fun i e=>by cases e)
 | succ d=>exact key (some (parN exA d)) (fun i e=>by injection e with e;subst e;exact parN_fwd _ d)
theorem exA_atom:atomP exA (some (parN exA 99)) ⟨2,flZ,[[]]⟩=.ok ((grpA,true),⟨5,flZ,[[],[]]⟩):=by
 have h1:g exA 2=40:=rfl
 unfold atomP
 simp only [h1]
 rw [if_pos trivial]
 unfold parenP
 simp only []
 rw [if_pos (show stA exA 2 [40,63]=false from rfl)]
 unfold groupP
 rw [if_neg (by simp)]
 unfold withinP
 simp only []
 rw [show (2+1:Nat)=3 from rfl,show ([[]]:List (List UInt8))++[[]]=[[],[]] from rfl,exA_b 99]
 simp only []
 rw [if_neg (by decide)]
 rfl
theorem exA_piece:pieceP exA (some (parN exA 99)) ⟨2,flZ,[[]]⟩=.ok (repP grpA 2 ctA,⟨7,flZ,[[],[]]⟩):=by
 unfold pieceP
 rw [show cntP exA (St.mk 2 flZ [[]]).pos=⟨0,0,0,0,false,0⟩ from rfl,if_neg (by simp),if_neg (by simp),exA_atom]
 simp only []
 rw [if_pos trivial]
 unfold quantP
 rw [skip_z (bs:=exA) (st:=⟨5,flZ,[[],[]]⟩) rfl]
 rw [show cntP exA (St.mk 5 flZ [[],[]]).pos=ctA from rfl,if_neg (by decide),if_neg (by decide),show ({ (⟨5,flZ,[[],[]]⟩:St) with pos:=ctA.«to» }:St)=⟨ctA.«to»,flZ,[[],[]]⟩ from rfl,skip_z (bs:=exA) (st:=⟨ctA.«to»,flZ,[[],[]]⟩) rfl]
 rw [show cntP exA (St.mk ctA.«to» flZ [[],[]]).pos=⟨0,0,0,0,false,0⟩ from rfl,if_neg (by simp)]
 rfl
def treeA:Pt:=⟨{ nd0 with kind:=6,from_:=0,to_:=7 },(F.one (leafA 97 0)).app (repP grpA 2 ctA)⟩
theorem exA_par:parN exA 100 ⟨0,flZ,[[]]⟩=.ok (treeA,⟨7,flZ,[[],[]]⟩):=by
 have hi:∀ i,some (parN exA 99)=some i→Fwd exA i:=fun i e=>by injection e with e;subst e;exact parN_fwd _ 99
 show altsP exA (some (parN exA 99)) _=_
 have h1:altP exA (some (parN exA 99)) ⟨0,flZ,[[]]⟩=.ok (leafA 97 0,⟨1,flZ,[[]]⟩):=by
  unfold altP
  rw [alt_step hi (by decide) (show endB exA (skipP exA ⟨0,flZ,[[]]⟩).pos=false from end_not (by decide) (by decide) (by decide)) (letter_piece (c:=97) (k:=0) rfl (by decide) (by decide) (cnt_no (by decide) (by decide) (by decide) (by decide))),if_neg (by decide),alt_end (show endB exA (skipP exA ⟨0+1,flZ,[[]]⟩).pos=true from end_yes (.inr (.inl rfl)))]
  rfl
 have h2:altP exA (some (parN exA 99)) ⟨2,flZ,[[]]⟩=.ok (repP grpA 2 ctA,⟨7,flZ,[[],[]]⟩):=by
  unfold altP
  rw [alt_step hi (by decide) (show endB exA (skipP exA ⟨2,flZ,[[]]⟩).pos=false from end_not (by decide) (by decide) (by decide)) exA_piece,if_neg (by decide),alt_end (show endB exA (skipP exA ⟨7,flZ,[[],[]]⟩).pos=true from end_yes (.inl (by decide)))]
  rfl
 unfold altsP
 rw [h1]
 simp only []
 rw [alts_step hi (st:=⟨1,flZ,[[]]⟩) rfl h2,alts_end (show stA exA (St.mk 7 flZ [[],[]]).pos [124]=false from rfl)]
 rfl
theorem exA_parse:parseP exA=.ok ⟨layF [[],[]] (.one treeA) 0,1,[[],[]]⟩:=by
 unfold parseP
 rw [if_neg (by decide),show (⟨0,⟨false,false,false,false⟩,[[]]⟩:St)=⟨0,flZ,[[]]⟩ from rfl,exA_par]
 simp only []
 rw [if_neg (by decide)]
 rfl
def exB:List UInt8:=[40,63,105,41,75]
def flI:Fl:=⟨true,false,false,false⟩
theorem exB_let:letP exB true flZ 2=(flI,3):=by
 rw [letP,dif_pos (by decide),if_pos (show g exB 2=105 from rfl),letP,dif_pos (by decide),if_neg (by decide),if_neg (by decide),if_neg (by decide),if_neg (by decide)]
 rfl
theorem exB_flag:pieceP exB (some (parN exB 99)) ⟨0,flZ,[[]]⟩=.ok (⟨nd0,.nil⟩,⟨4,flI,[[]]⟩):=by
 have h1:g exB 0=40:=rfl
 refine piece_plain (may:=false) rfl ?_ rfl rfl
 unfold atomP
 simp only [h1]
 rw [if_pos trivial]
 unfold parenP
 simp only []
 rw [if_neg (by decide),if_neg (by decide),if_neg (by decide),if_neg (by decide),if_neg (by decide),if_neg (by decide),if_neg (by decide),if_neg (by decide),if_neg (by decide)]
 have hf:flgP exB flZ 2=(flI,2,3):=by
  unfold flgP
  rw [exB_let]
  rfl
 unfold flaggedP
 rw [show (St.mk 0 flZ [[]]).fl=flZ from rfl,show (St.mk 0 flZ [[]]).pos+2=2 from rfl,hf]
 rfl
def leafK:Pt:=⟨{ nd0 with kind:=2,set:=[(75,75),(107,107),(8490,8490)],from_:=4,to_:=5 },.nil⟩
theorem exB_K:pieceP exB (some (parN exB 99)) ⟨4,flI,[[]]⟩=.ok (leafK,⟨5,flI,[[]]⟩):=by
 have h1:g exB 4=75:=rfl
 refine piece_plain (may:=true) rfl ?_ rfl rfl
 unfold atomP
 simp only [h1]
 rw [if_neg (by decide),if_neg (by decide),if_neg (by decide),if_neg (by decide),if_neg (by decide),if_neg (by decide),sym_one (by decide) (by decide),h1]
 show mayP true (setP (closeL [(75,75)]) _ _)=_
 rw [closeK]
 rfl
theorem exB_parse:parseP exB=.ok ⟨layF [[]] (.one leafK) 0,0,[[]]⟩:=by
 have hi:∀ i,some (parN exB 99)=some i→Fwd exB i:=fun i e=>by injection e with e;subst e;exact parN_fwd _ 99
 have h1:altP exB (some (parN exB 99)) ⟨0,flZ,[[]]⟩=.ok (leafK,⟨5,flI,[[]]⟩):=by
  unfold altP
  rw [alt_step hi (by decide) (show endB exB (skipP exB ⟨0,flZ,[[]]⟩).pos=false from end_not (by decide) (by decide) (by decide)) exB_flag,if_pos (by decide),alt_step hi (by decide) (show endB exB (skipP exB ⟨4,flI,[[]]⟩).pos=false from end_not (by decide) (by decide) (by decide)) exB_K,if_neg (by decide),alt_end (show endB exB (skipP exB ⟨5,flI,[[]]⟩).pos=true from end_yes (.inl (by decide)))]
  rfl
 unfold parseP
 rw [if_neg (by decide),show (⟨0,⟨false,false,false,false⟩,[[]]⟩:St)=⟨0,flZ,[[]]⟩ from rfl,show parN exB 100=altsP exB (some (parN exB 99)) from rfl]
 unfold altsP
 rw [h1]
 simp only []
 rw [alts_end (show stA exB (St.mk 5 flI [[]]).pos [124]=false from rfl)]
 simp only []
 rfl
end
section
open Go.RowKit Mem
open Sc (PV Gl)
open As (Tr)
attribute [local go_sem] build_pz build_fl build_f0
open As (TreeV NodeV)
theorem lit_pvP (w:World) (bs:List UInt8) (C:Array Value) (fr:Nat×Nat) (hC:C.toList=bs.map u8) (hl:bs.length≤1000):PV bs (some ⟨w.heap.size,0,none⟩) bs.length (w.alloc (.cells C 5 fr)):=by
 refine ⟨Nat.le_refl _,by omega,by rw [List.length_map,Nat.mul_one],fun _=>⟨_,rfl,by simp,fun j u hu=>?_⟩⟩
 rw [Go.WideShapes.add_plain,Nat.zero_add,World.cell?_alloc_mark,← Array.getElem?_toList,hC]
 exact hu
theorem tree_open {w:World} {B:Nat} {t:Tr} {v:Value} (h:TreeV w B t v) (hn:0<t.nodes.length):∃ b off cap An cn,v=.agg #[.slice (some ⟨b,off,none⟩) t.nodes.length cap,.int .i64 t.groups,.slice An t.names.length cn]∧b<B∧t.nodes.length≤cap∧cap≤9223372036854775807∧∀ k nd,t.nodes[k]?=some nd→NodeV w B nd fun j=>w.cell? ⟨b,off+k*10+j,none⟩:=by
 obtain ⟨a,c,rfl,⟨A,cap,rfl,h1,h2,h3⟩,⟨An,cn,rfl,-⟩⟩:=h
 obtain ⟨b,off,rfl,hb,hc⟩:=h3 hn
 exact ⟨b,off,cap,An,cn,rfl,hb,h1,h2,hc⟩
theorem exA_any (W:World) (hG:Gl W):Calls Tryz.prog 8 #[.slice (some ⟨W.heap.size,0,none⟩) 7 7] (W.alloc (.cells #[.int .u8 97,.int .u8 124,.int .u8 40,.int .u8 98,.int .u8 41,.int .u8 42,.int .u8 43] 5 (7,8))) fun e w'=>Below (W.alloc (.cells #[.int .u8 97,.int .u8 124,.int .u8 40,.int .u8 98,.int .u8 41,.int .u8 42,.int .u8 43] 5 (7,8))).heap.size (W.alloc (.cells #[.int .u8 97,.int .u8 124,.int .u8 40,.int .u8 98,.int .u8 41,.int .u8 42,.int .u8 43] 5 (7,8))) w'∧∃ b off cap An cn,e=.returned (.tuple #[.agg #[.slice (some ⟨b,off,none⟩) 6 cap,.int .i64 1,.slice An 2 cn],.int .i64 0,.int .i64 0])∧b<w'.heap.size∧6≤cap∧w'.cell? ⟨b,off+20,none⟩=some (.int .i64 9)∧w'.cell? ⟨b,off+30,none⟩=some (.int .i64 8)∧w'.cell? ⟨b,off+40,none⟩=some (.int .i64 7):=by
 have hc:=parse_any exA _ 7 (W.alloc (.cells #[.int .u8 97,.int .u8 124,.int .u8 40,.int .u8 98,.int .u8 41,.int .u8 42,.int .u8 43] 5 (7,8))) (lit_pvP W exA #[.int .u8 97,.int .u8 124,.int .u8 40,.int .u8 98,.int .u8 41,.int .u8 42,.int .u8 43] (7,8) rfl (by decide)) (hG.below ((Below.refl _ _).alloc (Nat.le_refl _) _))
 refine hc.mono ?_
 rintro e w' ⟨hb,h⟩
 rw [exA_parse] at h
 obtain ⟨v,rfl,ht⟩:=h
 obtain ⟨b,off,cap,An,cn,rfl,hlt,h1,h2,hc⟩:=tree_open ht (by decide)
 exact ⟨hb,b,off,cap,An,cn,rfl,hlt,h1,(hc 2 _ rfl).1,(hc 3 _ rfl).1,(hc 4 _ rfl).1⟩
theorem exB_any (W:World) (hG:Gl W):Calls Tryz.prog 8 #[.slice (some ⟨W.heap.size,0,none⟩) 5 5] (W.alloc (.cells #[.int .u8 40,.int .u8 63,.int .u8 105,.int .u8 41,.int .u8 75] 5 (5,6))) fun e w'=>Below (W.alloc (.cells #[.int .u8 40,.int .u8 63,.int .u8 105,.int .u8 41,.int .u8 75] 5 (5,6))).heap.size (W.alloc (.cells #[.int .u8 40,.int .u8 63,.int .u8 105,.int .u8 41,.int .u8 75] 5 (5,6))) w'∧∃ b off cap An cn L lc,e=.returned (.tuple #[.agg #[.slice (some ⟨b,off,none⟩) 1 cap,.int .i64 0,.slice An 1 cn],.int .i64 0,.int .i64 0])∧b<w'.heap.size∧1≤cap∧w'.cell? ⟨b,off+8,none⟩=some (.slice L 3 lc):=by
 have hc:=parse_any exB _ 5 (W.alloc (.cells #[.int .u8 40,.int .u8 63,.int .u8 105,.int .u8 41,.int .u8 75] 5 (5,6))) (lit_pvP W exB #[.int .u8 40,.int .u8 63,.int .u8 105,.int .u8 41,.int .u8 75] (5,6) rfl (by decide)) (hG.below ((Below.refl _ _).alloc (Nat.le_refl _) _))
 refine hc.mono ?_
 rintro e w' ⟨hb,h⟩
 rw [exB_parse] at h
 obtain ⟨v,rfl,ht⟩:=h
 obtain ⟨b,off,cap,An,cn,rfl,hlt,h1,h2,hc⟩:=tree_open ht (by decide)
 obtain ⟨-,-,-,-,-,-,-,-,⟨v8,h8,S,cs,rfl,-⟩,-⟩:=hc 0 _ rfl
 exact ⟨hb,b,off,cap,An,cn,S,cs,rfl,hlt,h1,h8⟩
theorem anchor_any (w:World) (hG:Gl w):Calls Tryz.prog 7 #[] w fun e w'=>e=.returned (.bool true)∧Below w.heap.size w w':=by
 have kc:=fun (w:World) (C:Array Value) (n c:Nat)=>Lib.run_convert_bytes_const (P:=Tryz.prog) w 22 5 C n c Tryz.underlying22 Tryz.underlying5
 have CE:=hide exA_any
 have CQ:=hide exB_any
 have HG:=hide hG
 clear hG
 go_enter Tryz.func7,Tryz.ntmps7
 go_wp2_with fail
 refine (CE.1 _ HG.1).mono ?_
 rintro e w1 ⟨hB,b,off,cap,An,cn,rfl,hlt,hcap,k2,k3,k4⟩
 have hB1:Below w.heap.size w w1:=((Below.refl _ w).alloc (Nat.le_refl _) _).trans (hB.mono (by simp))
 have hX1:=hB1.alloc hB1.size (.cells #[.slice (some ⟨b,off,none⟩) 6 cap,.int .i64 1,.slice An 2 cn] 27)
 have HK1:=hide (Blk.new w1 27 #[.slice (some ⟨b,off,none⟩) 6 cap,.int .i64 1,.slice An 2 cn])
 have H2:=hide k2
 have H3:=hide k3
 have H4:=hide k4
 have HX1:=hide hX1
 have HLT:=hide hlt
 clear hB hB1 CE k2 k3 k4 hX1 hlt
 generalize hx1:w1.alloc (.cells #[.slice (some ⟨b,off,none⟩) 6 cap,.int .i64 1,.slice An 2 cn] 27)=X1 at *
 have CQ1:=hide (CQ.1 X1 (HG.1.below HX1.1))
 clear CQ HG
 go_wp2_with fail
 refine CQ1.1.mono ?_
 rintro e w2 ⟨hB2,b2,off2,cap2,An2,cn2,L2,lc2,rfl,hlt2,hcap2,q8⟩
 have hb12:Below X1.heap.size X1 w2:=((Below.refl _ X1).alloc (Nat.le_refl _) _).trans (hB2.mono (by simp))
 have HB2:=hide (HX1.1.trans (hb12.mono HX1.1.size))
 have hx1s:X1.heap.size=w1.heap.size+1:=by rw [← hx1];simp
 have hk2:=HK1.1.below hb12 HK1.1.lt
 have up:∀ (o:Nat) (u:Value),w1.cell? ⟨b,o,none⟩=some u→w2.cell? ⟨b,o,none⟩=some u:=fun o u hu=>(hb12.cell (p:=⟨b,o,none⟩) (by have:=HLT.1;show b<_;omega)).trans (by rw [← hx1];exact (World.cell?_alloc_lt w1 _ ⟨b,o,none⟩ HLT.1).trans hu)
 have k2:=up _ _ H2.1
 have k3:=up _ _ H3.1
 have k4:=up _ _ H4.1
 have HK2:=hide (hk2.alloc (.cells #[.slice (some ⟨b2,off2,none⟩) 1 cap2,.int .i64 0,.slice An2 1 cn2] 27))
 have HL2:=hide (Blk.new w2 27 #[.slice (some ⟨b2,off2,none⟩) 1 cap2,.int .i64 0,.slice An2 1 cn2])
 have hbl:b<w2.heap.size:=by have:=HLT.1;have:=hb12.size;omega
 have al:∀ (b:Nat) (o:Nat) (u:Value),b<w2.heap.size→w2.cell? ⟨b,o,none⟩=some u→(w2.alloc (.cells #[.slice (some ⟨b2,off2,none⟩) 1 cap2,.int .i64 0,.slice An2 1 cn2] 27)).cell? ⟨b,o,none⟩=some u:=fun b o u hb hu=>(World.cell?_alloc_lt w2 _ ⟨b,o,none⟩ hb).trans hu
 have r2:=al _ _ _ hbl k2
 have r3:=al _ _ _ hbl k3
 have r4:=al _ _ _ hbl k4
 have r8:=al _ _ _ hlt2 q8
 obtain ⟨⟨a0,a1,a2⟩,-⟩:=cells3 HK2.1
 obtain ⟨⟨d0,d1,d2⟩,-⟩:=cells3 HL2.1
 have HB3:=hide (HB2.1.alloc HB2.1.size (.cells #[.slice (some ⟨b2,off2,none⟩) 1 cap2,.int .i64 0,.slice An2 1 cn2] 27))
 clear hB2 hb12 hk2 up k2 k3 k4 q8 al CQ1 HX1 HK1 hx1 hx1s HLT H2 H3 H4
 go_wp2_with fail
 go_ret
 exact ⟨rfl,HB3.1⟩
end
end Go.Proofs.YtmphmddmfcaldaaGreatDoor.Pa
