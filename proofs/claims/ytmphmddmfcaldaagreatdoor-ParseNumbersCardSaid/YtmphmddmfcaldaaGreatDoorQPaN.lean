/-
  Plain functions, no program: symbols that are written by their numbers are read as Sets of them, one behind th
-/
import Derived.Test.YtmphmddmfcaldaaGreatDoorQPaK
set_option linter.unusedSimpArgs false
set_option linter.unusedVariables false
namespace Go.Proofs.YtmphmddmfcaldaaGreatDoor.Sc
open Go.RowKit Mem
open Sy (g g_of)
def hexB:List UInt8:=[48,49,50,51,52,53,54,55,56,57,97,98,99,100,101,102]
def hexc (d:Nat):UInt8:=hexB.getD d 0
def hd (c:UInt8):Nat:=(hexD c.toNat).getD 0
theorem hexc_is:∀ d:Fin 16,hexD (hexc d.val).toNat=some d.val∧(hexc d.val).toNat<128:=by decide
def hexV (n:Nat) (s:List UInt8):Nat:=s.foldl (fun a c=>16*a+hd c) n
def Digs (s:List UInt8):Prop:=∀ c∈s,hexD c.toNat=some (hd c)
theorem hexV_step (n:Nat) (s:List UInt8):hexV (n / 16) (hexc (n % 16) :: s)=hexV n s:=by
 unfold hexV
 rw [List.foldl_cons]
 congr 1
 have h:=(hexc_is ⟨n % 16,by omega⟩).1
 simp only [] at h
 unfold hd
 rw [h,Option.getD_some]
 omega
theorem digs_step {s:List UInt8} (n:Nat) (h:Digs s):Digs (hexc (n % 16) :: s):=by
 intro c hc
 rcases List.mem_cons.1 hc with rfl|hc
 ·have h:=(hexc_is ⟨n % 16,by omega⟩).1
  simp only [] at h
  unfold hd
  rw [h];rfl
 ·exact h c hc
theorem hexF_run {bs:List UInt8}:∀ (s:List UInt8) (k M num:Nat),s.length≤M→Digs s→(∀ j c,s[j]?=some c→bs[k+j]?=some c)→hexD (g bs (k+s.length))=none→hexF bs k M num=(hexV num s,s.length)
 | [],k,M,num,_,_,_,hn=>hexF_none M num hn
 | c :: s,k,M,num,hM,hD,hg,hn=>by
  obtain ⟨M,rfl⟩:∃ m,M=m+1:=⟨M-1,by simp at hM;omega⟩
  have h0:g bs k=c.toNat:=g_of (hg 0 c rfl)
  rw [hexF_some M num (d:=hd c) (by rw [h0];exact hD c (by simp))]
  have ih:=hexF_run (bs:=bs) s (k+1) M (16*num+hd c) (by simpa using hM) (fun c hc=>hD c (List.mem_cons_of_mem _ hc)) (fun j c hj=>by
   have:=hg (j+1) c hj
   rwa [show k+1+j=k+(j+1) by omega]) (by rwa [show k+1+s.length=k+(c :: s).length by simp;omega])
  rw [ih]
  rfl
def wrs (s:List UInt8):List UInt8:=[92,120,123]++s++[125]
def hexT:ByteArray:=⟨#[48,49,50,51,52,53,54,55,56,57,97,98,99,100,101,102]⟩
theorem hexT_size:hexT.size=16:=by decide
theorem fold_hexT:(⟨#[48,49,50,51,52,53,54,55,56,57,97,98,99,100,101,102]⟩:ByteArray)=hexT:=rfl
theorem run_index_hexT {P:Program} (w:World) (t:TypeId) (k:IntKind) (n:Nat) (h:P.underlying t=some .string) :
  (Instr.index t (.string hexT) (.int k ((n:Int) % 16))).run P w=.ok (.int .u8 ((hexc (n % 16)).toNat:Int)) w:=by
 rw [run_index_string w t hexT k _ h,dif_pos ⟨by omega,by rw [hexT_size];omega⟩]
 have hlt:n % 16<16:=by omega
 have e:((n:Int) % 16).toNat=n % 16:=by omega
 simp only [e]
 have key:∀ d:Fin 16,(hexT[d.val]'(by rw [hexT_size];exact d.isLt))=hexc d.val:=by decide
 rw [key ⟨n % 16,hlt⟩]
theorem hexc_encode (d:Nat) (h:d<16):Utf8.encode ((hexc d).toNat:Int)=⟨#[hexc d]⟩:=by
 have key:∀ d:Fin 16,Utf8.encode ((hexc d.val).toNat:Int)=⟨#[hexc d.val]⟩:=by decide
 exact key ⟨d,h⟩
theorem one_append (c:UInt8) (s:List UInt8):(⟨#[c]⟩:ByteArray)++⟨s.toArray⟩=⟨(c :: s).toArray⟩:=by
 apply ByteArray.ext
 rw [ByteArray.data_append]
 simp
theorem run_convert_hexc {P:Program} (w:World) (src dst:TypeId) (k:IntKind) (n:Nat) (hs:(P.underlying src).isSome=true) (hd:P.underlying dst=some .string) :
  (convert src dst (.int k ((hexc (n % 16)).toNat:Int))).run P w=.ok (.string ⟨#[hexc (n % 16)]⟩) w:=by
 rw [run_convert_int_string w src dst k _ hs hd,hexc_encode (n % 16) (by omega)]
def wrA (s:List UInt8):List UInt8:=[92,120,123]++s
theorem wr_a (s:List UInt8):(⟨#[92,120,123]⟩:ByteArray)++⟨s.toArray⟩=⟨(wrA s).toArray⟩:=by
 apply ByteArray.ext
 rw [ByteArray.data_append]
 simp [wrA]
theorem wr_b (s:List UInt8):(⟨(wrA s).toArray⟩:ByteArray)++⟨#[125]⟩=⟨(wrs s).toArray⟩:=by
 apply ByteArray.ext
 rw [ByteArray.data_append]
 simp [wrA,wrs]
def szOf:Value→Nat | .string b=>b.size | _=>0
def GRel (x:Nat) (w:World) (v i:Value) (wr:World):Prop:=∃ (n:Nat) (s:List UInt8),v=.string ⟨s.toArray⟩∧i=.int .i64 n∧hexV n s=x∧Digs s∧s.length≤6∧n<16 ^ (6-s.length)∧wr=w
theorem grel_step {x n:Nat} {s:List UInt8} {w:World} (hv:hexV n s=x) (hD:Digs s) (hl:s.length≤6) (hn:n<16 ^ (6-s.length)) (hc:0<n∨s.length=0) :
  GRel x w (.string ⟨(hexc (n % 16) :: s).toArray⟩) (.int .i64 ((n / 16:Nat):Int)) w∧s.length<6:=by
 have h6:s.length<6:=by
  rcases hc with hc|hc
  ·rcases Nat.lt_or_ge s.length 6 with h|h
   ·exact h
   ·rw [show 6-s.length=0 by omega] at hn
    simp at hn
    omega
  ·omega
 refine ⟨⟨n / 16,hexc (n % 16) :: s,rfl,rfl,(hexV_step n s).trans hv,digs_step n hD,by simp;omega,?_,rfl⟩,h6⟩
 rw [List.length_cons]
 have e:6-s.length=(6-(s.length+1))+1:=by omega
 rw [e,Nat.pow_succ] at hn
 omega
end Go.Proofs.YtmphmddmfcaldaaGreatDoor.Sc
namespace Go.Proofs.YtmphmddmfcaldaaGreatDoor.Pa
open Sy (g g_of isS)
open Rs (hasL cntL Least)
open Sc (It cntP escz escP escz_yes codeP comP hldO hexF_run hexV Digs wrs g_out)
open As (Nd)
open Fo (orb)
variable {bs:List UInt8} {k j:Nat} {c:UInt8}
structure Wr (s:List UInt8) (x:Nat):Prop where
 pos:0<s.length
 six:s.length≤6
 digs:Digs s
 val:hexV 0 s=x
 is:isS (x:Int)=true
theorem wrs_len (s:List UInt8):(wrs s).length=s.length+4:=by simp [wrs]
theorem at_drop {l:List UInt8} (h:bs.drop k=l) (hc:l[j]?=some c):bs[k+j]?=some c:=by
 rw [← h,List.getElem?_drop] at hc
 exact hc
theorem g_drop {l:List UInt8} (h:bs.drop k=l) (hc:l[j]?=some c):g bs (k+j)=c.toNat:=g_of (at_drop h hc)
theorem wrs_at {s r:List UInt8} (h:s[j]?=some c):(wrs s++r)[j+1+1+1]?=some c:=by
 show (92 :: 120 :: 123 :: (s++[125]++r))[j+1+1+1]?=some c
 simp only [List.getElem?_cons_succ]
 rw [List.append_assoc,List.getElem?_append_left (List.getElem?_eq_some_iff.1 h).1];exact h
theorem wrs_last (s r:List UInt8):(wrs s++r)[s.length+1+1+1]?=some 125:=by
 show (92 :: 120 :: 123 :: (s++[125]++r))[s.length+1+1+1]?=some 125
 simp only [List.getElem?_cons_succ]
 rw [List.append_assoc,List.getElem?_append_right (Nat.le_refl _),Nat.sub_self];rfl
theorem esc_at {r s:List UInt8} {x:Nat} (hw:Wr s x) (hd:bs.drop k=wrs s++r):escz bs false (k:Int)=.lit x (k+(s.length+4)):=by
 have hl:k+(s.length+4)≤bs.length:=by
  have:=congrArg List.length hd
  rw [List.length_drop,List.length_append,wrs_len] at this;omega
 have h0:g bs k=92:=g_drop (j:=0) (c:=92) hd rfl
 have h1:g bs (k+1)=120:=g_drop (j:=1) (c:=120) hd rfl
 have h2:g bs (k+1+1)=123:=g_drop (j:=2) (c:=123) hd rfl
 have h125:g bs (k+3+s.length)=125:=by
  have:=g_drop (j:=s.length+1+1+1) hd (wrs_last s r)
  rwa [show k+(s.length+1+1+1)=k+3+s.length by omega] at this
 have hF:=hexF_run (bs:=bs) s (k+3) 6 0 hw.six hw.digs (fun j c hj=>by
  have:=at_drop (j:=j+1+1+1) hd (wrs_at hj)
  rwa [show k+(j+1+1+1)=k+3+j by omega] at this) (by rw [h125];rfl)
 rw [hw.val] at hF
 have hc:comP bs (k+1)=.lit x (k+(s.length+4)):=by
  unfold comP
  rw [if_neg (by omega),if_pos h1]
  unfold codeP
  rw [if_pos h2,show k+1+1+1=k+3 by omega,hF]
  simp only []
  rw [if_neg]
  ·rw [show k+3+s.length+1=k+(s.length+4) by omega]
  ·rw [h125,hw.is]
   rintro (h|h|h)
   ·have:=hw.pos;omega
   ·exact h rfl
   ·cases h
 rw [escz_yes false h0]
 unfold escP
 rw [if_neg (by simp),if_neg (by rw [h1];omega),if_neg (by rw [h1];omega),h1]
 show (match hldO 120 with
  | some n=>It.hld n (k+1+1)
  | none=>comP bs (k+1))=_
 exact hc
def flat:List (List UInt8×Nat)→List UInt8
 | []=>[]
 | p :: r=>wrs p.1++flat r
def ndN (fl:Fl) (x k q:Nat):Nd:={ nd0 with kind:=2,set:=casedP fl [((x:Int),(x:Int))],from_:=k,to_:=q }
def nodesN (fl:Fl):List (List UInt8×Nat)→Nat→List Nd
 | [],_=>[]
 | p :: r,k=>ndN fl p.2 k (k+(p.1.length+4)) :: nodesN fl r (k+(p.1.length+4))
def ofN:List Nd→F
 | []=>.nil
 | nd :: r=>.cons nd .nil (ofN r)
theorem ofN_app:∀ (l:List Nd) (nd:Nd),(ofN l).app ⟨nd,.nil⟩=ofN (l++[nd])
 | [],_=>rfl
 | a :: l,nd=>by show F.cons a .nil ((ofN l).app ⟨nd,.nil⟩)=_;rw [ofN_app l nd];rfl
theorem flat_head {r:List (List UInt8×Nat)} (hd:bs.drop k=flat r):g bs k=0∨g bs k=92:=by
 cases r with
 | nil=>exact .inl (g_out (by have:=congrArg List.length hd;rw [List.length_drop] at this;simp [flat] at this;omega))
 | cons p r=>exact .inr (g_drop (j:=0) (c:=92) hd rfl)
theorem flat_cnt {r:List (List UInt8×Nat)} (hd:bs.drop k=flat r):cntP bs k=⟨0,0,0,0,false,0⟩:=by
 rcases flat_head hd with h|h<;>exact cnt_no (by omega) (by omega) (by omega) (by omega)
theorem alt_nums {bs:List UInt8} {inner:Option (St→Res Pt)} (hi:∀ i,inner=some i→Fwd bs i) (fl:Fl) (hx:fl.x=false) (names:List (List UInt8)) (fr:Nat):∀ (L:List (List UInt8×Nat)) (k:Nat) (A:List Nd),(∀ p∈L,Wr p.1 p.2)→bs.drop k=flat L→k≤bs.length →
  altF bs inner fr ⟨k,fl,names⟩ (ofN A)=.ok (rowP (ofN (A++nodesN fl L k)) fr,⟨bs.length,fl,names⟩)
 | [],k,A,_,hd,hk=>by
  have hl:k=bs.length:=by have:=congrArg List.length hd;rw [List.length_drop] at this;simp [flat] at this;omega
  have hs:=skip_z (bs:=bs) (st:=⟨k,fl,names⟩) hx
  rw [alt_end (by rw [hs];exact end_yes (.inl (by show bs.length≤k;omega))),hs,hl]
  simp [nodesN]
 | p :: r,k,A,hw,hd,hk=>by
  have hp:=hw p (by simp)
  have hd':bs.drop k=wrs p.1++flat r:=hd
  have hlen:=congrArg List.length hd'
  rw [List.length_drop,List.length_append,wrs_len] at hlen
  have hn:bs.drop (k+(p.1.length+4))=flat r:=by
   rw [← List.drop_drop,hd',← wrs_len p.1,List.drop_left]
  have h92:g bs k=92:=g_drop (j:=0) (c:=92) hd' rfl
  have hs:=skip_z (bs:=bs) (st:=⟨k,fl,names⟩) hx
  have hat:atomP bs inner ⟨k,fl,names⟩=.ok ((⟨ndN fl p.2 k (k+(p.1.length+4)),.nil⟩,true),⟨k+(p.1.length+4),fl,names⟩):=by
   unfold atomP
   show (if g bs k=40 then _ else if g bs k=91 then _ else if g bs k=92 then escPt bs ⟨k,fl,names⟩ else _)=_
   rw [if_neg (by omega),if_neg (by omega),if_pos h92]
   unfold escPt
   show (match escz bs false (k:Int) with | .err e=>_ | .lit n q=>_ | .cls c q=>_ | .nam s t q=>_ | .hld n q=>_ | x=>_)=_
   rw [esc_at hp hd']
   rfl
  have hpc:pieceP bs inner (skipP bs ⟨k,fl,names⟩)=.ok (⟨ndN fl p.2 k (k+(p.1.length+4)),.nil⟩,⟨k+(p.1.length+4),fl,names⟩):=by
   rw [hs]
   exact piece_plain (may:=true) (flat_cnt hd) hat hx (flat_cnt hn)
  rw [alt_step hi hk (by rw [hs];exact end_not (by show k<bs.length;omega) (by show g bs k≠124;omega) (by show g bs k≠41;omega)) hpc,if_neg (by show ¬ (2:Int)=0;decide),ofN_app,alt_nums hi fl hx names fr r _ _ (fun q hq=>hw q (by simp [hq])) hn (by omega)]
  rw [List.append_assoc]
  rfl
theorem lay_ofN (names:List (List UInt8)):∀ (N:List Nd) (i:Nat),(∀ nd∈N,nd.kind=2∧nd.kids=[])→layF names (ofN N) i=N
 | [],_,_=>rfl
 | nd :: r,i,h=>by
  obtain ⟨h2,hk⟩:=h nd (by simp)
  have hf:fixN names nd=nd:=by unfold fixN;rw [if_neg (by rw [h2];omega)]
  show { fixN names nd with kids:=[] } :: ([]++layF names (ofN r) (i+1+0))=_
  rw [hf,List.nil_append,lay_ofN names r _ (fun m hm=>h m (by simp [hm])),← hk]
theorem nodesN_all (fl:Fl):∀ (L:List (List UInt8×Nat)) (k:Nat),(∀ nd∈nodesN fl L k,nd.kind=2∧nd.kids=[])∧(nodesN fl L k).length=L.length∧∀ (j:Nat) (p:List UInt8×Nat),L[j]?=some p→∃ nd:Nd,(nodesN fl L k)[j]?=some nd∧nd.kind=2∧nd.set=casedP fl [((p.2:Int),(p.2:Int))]
 | [],_=>⟨by simp [nodesN],rfl,by simp⟩
 | p :: r,k=>by
  obtain ⟨h1,h2,h3⟩:=nodesN_all fl r (k+(p.1.length+4))
  refine ⟨fun nd hnd=>?_,by simp [nodesN,h2],fun j q hq=>?_⟩
  ·rcases List.mem_cons.1 hnd with rfl|hnd
   ·exact ⟨rfl,rfl⟩
   ·exact h1 nd hnd
  ·cases j with
   | zero=>injection hq with hq;subst hq;exact ⟨_,rfl,rfl,rfl⟩
   | succ j=>exact h3 j q hq
def preB (folded:Bool):List UInt8:=if folded then [40,63,105,41] else []
theorem pre_flag (r:List (List UInt8×Nat)):pieceP (preB true++flat r) (some (parN (preB true++flat r) 99)) ⟨0,flZ,[[]]⟩=.ok (⟨nd0,.nil⟩,⟨4,flI,[[]]⟩):=by
 have hd:(preB true++flat r).drop 4=flat r:=rfl
 have hdef:preB true++flat r=40 :: 63 :: 105 :: 41 :: flat r:=rfl
 generalize hb:preB true++flat r=bs at *
 have h1:g bs 0=40:=by rw [hdef];rfl
 have h2:g bs 1=63:=by rw [hdef];rfl
 have h3:g bs 2=105:=by rw [hdef];rfl
 have h4:g bs 3=41:=by rw [hdef];rfl
 have hl:4≤bs.length:=by rw [hdef];simp
 refine piece_plain (may:=false) (cnt_no (by show g bs 0≠42;omega) (by show g bs 0≠43;omega) (by show g bs 0≠63;omega) (by show g bs 0≠123;omega)) ?_ rfl (flat_cnt hd)
 unfold atomP
 show (if g bs 0=40 then _ else _)=_
 rw [if_pos h1]
 unfold parenP
 simp only [stA,h1,h2,h3,Nat.zero_add]
 have hlt:letP bs true flZ 2=(flI,3):=by
  rw [letP,dif_pos (by omega),if_pos h3,letP,dif_pos (by omega),if_neg (by show ¬ g bs 3=105;omega),if_neg (by show ¬ g bs 3=109;omega),if_neg (by show ¬ g bs 3=115;omega),if_neg (by show ¬ g bs 3=120;omega)]
  rfl
 have hf:flgP bs flZ 2=(flI,2,3):=by
  unfold flgP
  rw [hlt]
  simp only []
  rw [if_neg (by omega)]
 simp
 unfold flaggedP
 rw [hf]
 simp only []
 rw [if_neg (by omega),if_pos h4]
theorem flat_len:∀ (L:List (List UInt8×Nat)),(∀ p∈L,Wr p.1 p.2)→(flat L).length≤10*L.length
 | [],_=>by simp [flat]
 | p :: r,h=>by
  have:=flat_len r (fun q hq=>h q (by simp [hq]))
  have:=(h p (by simp)).six
  simp only [flat,List.length_append,wrs_len,List.length_cons];omega
theorem nums_parse (folded:Bool) (L:List (List UInt8×Nat)) (hw:∀ p∈L,Wr p.1 p.2) (h2:2≤L.length) (h3:L.length≤100):∃ c:Nd,c.kind=5∧parseP (preB folded++flat L)=.ok ⟨c :: nodesN (if folded then flI else flZ) L (preB folded).length,0,[[]]⟩:=by
 have hfl:=flat_len L hw
 have hbl:(preB folded++flat L).length≤4096:=by
  rw [List.length_append]
  have:(preB folded).length≤4:=by cases folded<;>decide
  omega
 have hi:∀ i,some (parN (preB folded++flat L) 99)=some i→Fwd (preB folded++flat L) i:=fun i e=>by injection e with e;subst e;exact parN_fwd _ 99
 have ha:altP (preB folded++flat L) (some (parN (preB folded++flat L) 99)) ⟨0,flZ,[[]]⟩=.ok (rowP (ofN (nodesN (if folded then flI else flZ) L (preB folded).length)) 0,⟨(preB folded++flat L).length,if folded then flI else flZ,[[]]⟩):=by
  unfold altP
  cases folded with
  | false=>
   have:=alt_nums hi flZ rfl [[]] 0 L 0 [] hw rfl (Nat.zero_le _)
   exact this
  | true=>
   have hd:(preB true++flat L).drop 4=flat L:=rfl
   have hg:g (preB true++flat L) 0=40:=rfl
   rw [alt_step hi (Nat.zero_le _) (show endB _ (skipP _ ⟨0,flZ,[[]]⟩).pos=false from end_not (by show 0<_;simp [preB]) (by show g (preB true++flat L) 0≠124;rw [hg];decide) (by show g (preB true++flat L) 0≠41;rw [hg];decide)) (pre_flag L),if_pos (by decide)]
   exact alt_nums hi flI rfl [[]] 0 L 4 [] hw hd (by simp [preB])
 obtain ⟨n1,n2,n3⟩:=nodesN_all (if folded then flI else flZ) L (preB folded).length
 generalize hN:nodesN (if folded then flI else flZ) L (preB folded).length=N at *
 obtain ⟨a,b,N',rfl⟩:∃ a b N',N=a :: b :: N':=by
  match N,n2 with
  | a :: b :: N',_=>exact ⟨a,b,N',rfl⟩
  | [],h=>simp at h;omega
  | [a],h=>simp at h;omega
 have hrow:rowP (ofN (a :: b :: N')) 0=⟨{ nd0 with kind:=5,from_:=a.from_,to_:=(F.cons b .nil (ofN N')).lastTo a.to_ },ofN (a :: b :: N')⟩:=rfl
 have hbar:stA (preB folded++flat L) (preB folded++flat L).length [124]=false:=by
  show (decide (g _ _=124)&&true)=false
  rw [g_out (Nat.le_refl _)];rfl
 refine ⟨{ fixN [[]] { nd0 with kind:=5,from_:=a.from_,to_:=(F.cons b .nil (ofN N')).lastTo a.to_ } with kids:=(ofN (a :: b :: N')).idx 1 },by unfold fixN;rw [if_neg (by simp)],?_⟩
 unfold parseP
 rw [if_neg (by omega),show (⟨0,⟨false,false,false,false⟩,[[]]⟩:St)=⟨0,flZ,[[]]⟩ from rfl,show parN (preB folded++flat L) 100=altsP (preB folded++flat L) (some (parN (preB folded++flat L) 99)) from rfl]
 unfold altsP
 rw [ha]
 simp only []
 rw [alts_end hbar]
 simp only []
 rw [if_neg (Nat.lt_irrefl _),if_pos (show (F.one (rowP (ofN (a :: b :: N')) 0)).len=1 from rfl),hrow,lay_one,lay_ofN _ _ _ n1]
 rfl
theorem cntN_list (N:Nat):∀ l:List Int,l.Pairwise (·<·)→(∀ y∈l,0≤y∧y<(N:Int))→Rs.cntN N (fun z=>decide (z∈l))=l.length
 | [],_,_=>(Rs.cntN_congr fun x=>by simp).trans (Rs.cntN_false _)
 | y :: r,hp,hb=>by
  obtain ⟨h1,h2⟩:=List.pairwise_cons.1 hp
  have hy:=hb y (by simp)
  have ih:=cntN_list N r h2 (fun z hz=>hb z (by simp [hz]))
  have e:=Rs.cntN_or_and N (fun z=>decide (z=y)) (fun z=>decide (z∈r))
  have e1:Rs.cntN N (fun z=>decide (z=y)&&decide (z∈r))=0:=by
   rw [Rs.cntN_congr (g:=fun _=>false),Rs.cntN_false]
   intro x
   by_cases hx:x=y
   ·subst hx
    rw [decide_eq_false (p:=x∈r) (fun h=>by have:=h1 x h;omega),Bool.and_false]
   ·rw [decide_eq_false hx,Bool.false_and]
  have e2:(Rs.cntN N (fun z=>decide (z=y)):Int)=1:=by
   have:=Rs.cntN_range N y y (by omega) (by omega) (by omega)
   rw [show y-y+1=1 by omega] at this
   rw [← this]
   congr 1
   refine Rs.cntN_congr fun x=>?_
   simp only [decide_eq_decide];omega
  have e3:Rs.cntN N (fun z=>decide (z∈y :: r))=Rs.cntN N (fun z=>decide (z=y)||decide (z∈r)):=Rs.cntN_congr fun x=>by simp [List.mem_cons]
  rw [e3,List.length_cons]
  omega
theorem has_case (fl:Fl) {x:Nat} (hx:isS (x:Int)=true):hasL (casedP fl [((x:Int),(x:Int))]) x=true:=by
 have h0:(x:Int)≤1114367:=by unfold isS at hx;rw [decide_eq_true_eq] at hx;omega
 have h1:hasL [((x:Int),(x:Int))] x=true:=Fo.hasL_iff.2 ⟨_,List.mem_singleton_self _,Fo.inR_iff.2 ⟨by omega,h0,Int.le_refl _,Int.le_refl _⟩⟩
 unfold casedP
 split
 ·exact (Fo.close_has _ _).2 ⟨x,Fo.orb_self (by omega) h0,h1⟩
 ·exact h1
theorem cnt_case (fl:Fl) {x:Nat} (hx:isS (x:Int)=true):cntL (casedP fl [((x:Int),(x:Int))])=if fl.i then ((orb x).length:Int) else 1:=by
 have h0:(x:Int)≤1114367:=by unfold isS at hx;rw [decide_eq_true_eq] at hx;omega
 unfold casedP
 split
 ·obtain ⟨N,hN⟩:∃ N:Nat,(N:Int)=1114368:=⟨1114368,by decide⟩
  rw [Rs.cntL_eq N hN,← cntN_list N (orb x) (Fo.orb_rises x) (fun y hy=>by have:=(Fo.mem_orb.1 hy).2;omega)]
  congr 1
  refine Rs.cntN_congr fun z=>?_
  rw [Bool.eq_iff_iff,Fo.close_has,decide_eq_true_eq]
  constructor
  ·rintro ⟨y,hy,hh⟩
   obtain ⟨r,hr,hi⟩:=Fo.hasL_iff.1 hh
   rw [List.mem_singleton] at hr;subst hr
   obtain ⟨_,_,a,b⟩:=Fo.inR_iff.1 hi
   obtain rfl:y=(x:Int):=by simp only at a b;omega
   exact Fo.orb_symm hy
  ·intro hz
   exact ⟨x,Fo.orb_symm hz,Fo.hasL_iff.2 ⟨_,List.mem_singleton_self _,Fo.inR_iff.2 ⟨by omega,h0,Int.le_refl _,Int.le_refl _⟩⟩⟩
 ·have h:=Rs.ofL_eq (x:Int)
  rw [if_pos ⟨by omega,h0⟩] at h
  have hl:Least [((x:Int),(x:Int))]:=by rw [← h];exact Rs.mk_least _
  rw [Rs.cntL_of_least hl]
  simp [Rs.sumL]
end Go.Proofs.YtmphmddmfcaldaaGreatDoor.Pa
